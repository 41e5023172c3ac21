import Derived.Test.YtcphfhfockjljaaDoorDrawMsg
import Derived.Test.YtcphfhfockjljaaDoorPhase
import Derived.Test.YtcphfhfockjljaaDoorDrawKitwithTrimBufwithDrawComp
import Derived.Deep.LoopGhost
namespace Go.Proofs.YtcphfhfockjljaaDoor.Msg
open Go.ChangeShapes Go.WideShapes Go.ChangeAt Go.RowKit
set_option linter.unusedVariables false
set_option linter.unusedSimpArgs false

/-! l2SpoilMessage, over lists -/
def tV : ByteArray := ⟨#[118]⟩
def tZZZ : ByteArray := ⟨#[90, 90, 90]⟩
def tMSH : ByteArray := ⟨#[77, 83, 72]⟩
def fOne : Field := [[⟨#[118]⟩]]
def spSeg (a x : Nat) (s : Seg) : Seg :=
  if a = 0 then ⟨⟨#[109, 115, 104]⟩, s.fields⟩ else if a = 1 then ⟨⟨#[77, 83, 72]⟩, s.fields⟩ else if a = 2 then ⟨s.name, s.fields ++ [([] : Field)]⟩
  else if a = 3 then ⟨s.name, s.fields ++ [[[⟨#[118]⟩, ⟨#[]⟩]]]⟩ else if a = 4 then ⟨s.name, s.fields ++ [[[⟨#[118]⟩ ++ ⟨#[UInt8.ofNat (31 + 96 * x)]⟩]]]⟩
  else if a = 5 then ⟨s.name, s.fields ++ List.replicate (30 + x - s.fields.length) fOne⟩ else if a = 6 then ⟨s.name, s.fields ++ [List.replicate (30 + x) [⟨#[114]⟩]]⟩
  else if a = 7 then ⟨s.name, s.fields ++ [[List.replicate (20 + x) ⟨#[99]⟩]]⟩ else if a = 8 then ⟨⟨#[90]⟩, s.fields⟩ else s
def spSegs (a at_ x : Nat) (m : List Seg) : Nat → List Seg
  | 0 => []
  | n + 1 => spSegs a at_ x m n ++ [if n = at_ then spSeg a x (m.getD n ⟨⟨#[]⟩, []⟩) else m.getD n ⟨⟨#[]⟩, []⟩]
theorem spSegs_len (a at_ x : Nat) (m : List Seg) : ∀ n, (spSegs a at_ x m n).length = n
  | 0 => rfl
  | n + 1 => by show (spSegs a at_ x m n ++ [_]).length = _; rw [List.length_append, spSegs_len a at_ x m n]; rfl
/-- one field, in memory -/
theorem o_fone {w : World} {b1 b2 c1 c2 : Nat} {s : ByteArray} (h1 : Box w b1 9 #[.string s]) (h2 : Box w b2 50 #[.slice (some ⟨b1, 0, none⟩) 1 c1]) (hs : s.size ≤ 9223372036854775807) : OReps w (.slice (some ⟨b2, 0, none⟩) 1 c2) [[s]] [b2, b1] :=
  o_one hs h2.lt h1.lt (h2.cell 0 (by simp)) (h1.cell 0 (by simp)) (h1.frozen 0)
theorem o_nilF (w : World) (a : Option Addr) (c : Nat) : OFields w (.slice a 0 c) [] [] := ⟨by simp, .inl ⟨a, c, rfl, rfl, rfl⟩⟩
theorem ARow.weaken {α : Type} {O : World → Value → List α → List Nat → Prop} {e : TypeId} {base base' : Nat} {bad bad' : Nat → Prop} {w : World} {v : Value} {ps : List (AE α)} (h : ARow O e base bad w v ps) (hb : base' ≤ base) (hbad : ∀ b, bad' b → bad b) : ARow O e base' bad' w v ps :=
  ⟨own_mono h.row hb, fun b e hb' => h.own b e (hbad b hb'), fun p hp => by
    obtain ⟨bs, hO, hbs⟩ := h.el p hp
    exact ⟨bs, hO, fun b hb' => ⟨(hbs b hb').1, fun h1 => (hbs b hb').2.1 (hbad b h1), (hbs b hb').2.2⟩⟩⟩
/-- the segment that is being made, in its box -/
def SgB (Y X : World) (Sb : Nat) (P : Nat → Prop) (s : Seg) : Prop := ∃ pf a c, Box X Sb 44 #[.string s.name, .slice a s.fields.length c] ∧ ARow OReps 47 (Sb + 1) (fun b => b = Sb ∨ ¬ P b) X (.slice a s.fields.length c) pf ∧ pf.map Prod.fst = s.fields ∧ Below Y.heap.size Y X
theorem sb_two {W : World} {b : Nat} {t : TypeId} {y0 y1 : Value} (h : Box W b t #[y0, y1]) {G : Prop} (k : (W.cell? ⟨b, 0, none⟩ = some y0 ∧ W.cell? ⟨b, 1, none⟩ = some y1) ∧ W.frozen? ⟨b, 0, none⟩ = false ∧ W.frozen? ⟨b, 1, none⟩ = false → G) : G :=
  k ⟨⟨h.cell 0 (by simp), h.cell 1 (by simp)⟩, h.frozen 0, h.frozen 1⟩
/-- one field more -/
theorem SgB.more {Y X : World} {Sb : Nat} {P : Nat → Prop} {nm : ByteArray} {fs : List Field} {pf : List (AE Rep)} {a : Option Addr} {c : Nat} (hP : ∀ b, Sb < b → P b) (hSb : Y.heap.size ≤ Sb) (hbox : Box X Sb 44 #[.string nm, .slice a fs.length c]) (hA : ARow OReps 47 (Sb + 1) (fun b => b = Sb ∨ ¬ P b) X (.slice a fs.length c) pf) (hpf : pf.map Prod.fst = fs) (hb : Below Y.heap.size Y X)
    {V : World} (hV : Below X.heap.size X V) (f : Field) (af : Option Addr) (cf : Nat) {bs : List Nat} (hO : OReps V (.slice af f.length cf) f bs) (hbs : ∀ b ∈ bs, P b ∧ b ≠ Sb ∧ (X.heap.size ≤ b ∨ b < X.heap.size ∧ (Value.slice a fs.length c).ownBlock ≠ some b)) (hl : fs.length ≤ 1000) :
    ∃ v' V' a' c', v' = .slice a' (fs.length + 1) c' ∧ (Builtin.append_ #[42, 42] 42 #[.slice a fs.length c, .slice (some ⟨V.heap.size, 0, none⟩) 1 1]).run Tryd.prog (V.alloc (.cells #[.slice af f.length cf] 47)) = .ok v' V' ∧
      (V.cell? ⟨Sb, 1, none⟩ = some (.slice a fs.length c) ∧ V'.cell? ⟨Sb, 0, none⟩ = some (.string nm) ∧ V'.cell? ⟨Sb, 1, none⟩ = some (.slice a fs.length c) ∧ V'.frozen? ⟨Sb, 1, none⟩ = false) ∧ SgB Y (V'.setCell ⟨Sb, 1, none⟩ (.slice a' (fs.length + 1) c')) Sb P ⟨nm, fs ++ [f]⟩ := by
  have hlt := hbox.lt
  have hXV := hV.size
  have hpl : pf.length = fs.length := by rw [← hpf, List.length_map]
  have hA' := hA.below keepO_reps hV
  have hown := hA.row.own
  obtain ⟨v', V', hr, hR, hOn⟩ := hA'.push keepO_reps Tryd.underlying42 info_Field rfl (by decide) (by omega) (by omega) (fun b hb' => by rintro (e | e); omega; exact e (hP b (by omega))) (f, af, cf) (bs := bs) hO (fun b hb' => by
    obtain ⟨q1, q2, q3⟩ := hbs b hb'
    refine ⟨OAt.lt ltO_rep hO b hb', by rintro (e | e); exact q2 e; exact e q1, fun e => ?_⟩
    rcases q3 with q3 | q3
    · have := (hown b (by rw [e]; simp)).2; omega
    · exact q3.2 e) 42
  obtain ⟨a', c', e', _, _⟩ := hR.form
  rw [List.length_append, List.length_singleton, hpl] at e'
  subst e'
  have hMn : Sb ∉ (Value.slice a fs.length c).ownBlock.toList := fun hm => by have := (hown _ hm).1; omega
  have hBV := hbox.below hV
  have hBV' := hBV.only hOn hMn
  refine ⟨_, V', a', c', rfl, hr, ⟨hBV.cell 1 (by simp), hBV'.cell 0 (by simp), hBV'.cell 1 (by simp), hBV'.frozen 1⟩, pf ++ [(f, af, cf)], a', c', ?_, ?_, ?_, ?_⟩
  · have := hBV'.set 1 (.slice a' (fs.length + 1) c')
    rw [List.length_append, List.length_singleton]
    simpa using this
  · rw [List.length_append, List.length_singleton]
    exact hR.set keepO_reps (b := Sb) (o := 1) (.inl rfl) _
  · rw [List.map_append, hpf]; rfl
  · have q := bjoin hV hb
    exact (q.trans (hOn.below q.size fun d hd => by have := (hown d hd).1; omega)).setCell (p := ⟨Sb, 1, none⟩) hSb _
end Go.Proofs.YtcphfhfockjljaaDoor.Msg

namespace Go.Proofs.YtcphfhfockjljaaDoor.Msg
open Go.ChangeShapes Go.WideShapes Go.ChangeAt Go.RowKit
set_option linter.unusedVariables false
set_option linter.unusedSimpArgs false

/-! l1Long -/
def growS (n : Nat) : Nat → ByteArray → ByteArray
  | 0, s => s
  | f + 1, s => if s.size * 2 ≤ n then growS n f (s ++ s) else s
theorem growS_stop {n f : Nat} {s : ByteArray} (h : ¬ s.size * 2 ≤ n) : growS n f s = s := by
  cases f with
  | zero => rfl
  | succ f => exact if_neg h
theorem growS_step {n f : Nat} {s : ByteArray} (h : s.size * 2 ≤ n) : growS n (f + 1) s = growS n f (s ++ s) := if_pos h
theorem growS_sz (n : Nat) : ∀ (f : Nat) (s : ByteArray), s.size ≤ (growS n f s).size ∧ (growS n f s).size ≤ max n s.size
  | 0, s => ⟨Nat.le_refl _, Nat.le_max_right ..⟩
  | f + 1, s => by
    by_cases h : s.size * 2 ≤ n
    · rw [growS_step h]
      have := growS_sz n f (s ++ s)
      rw [ByteArray.size_append] at this
      refine ⟨by omega, ?_⟩
      have h2 := this.2
      omega
    · rw [growS_stop h]
      exact ⟨Nat.le_refl _, Nat.le_max_right ..⟩
def longS (b : ByteArray) : Nat → Nat → ByteArray
  | 0, _ => ⟨#[]⟩
  | f + 1, n => if n = 0 then ⟨#[]⟩ else if (growS n 64 b).size < n then growS n 64 b ++ longS b f (n - (growS n 64 b).size) else growS n 64 b
theorem longS_sz (b : ByteArray) : ∀ (f n : Nat), (longS b f n).size ≤ n + b.size
  | 0, n => Nat.zero_le _
  | f + 1, n => by
    unfold longS
    by_cases h0 : n = 0
    · rw [if_pos h0]; exact Nat.zero_le _
    · rw [if_neg h0]
      have h1 := growS_sz n 64 b
      split
      · rw [ByteArray.size_append]
        have := longS_sz b f (n - (growS n 64 b).size)
        omega
      · have := h1.2
        omega
set_option maxRecDepth 100000 in
set_option maxHeartbeats 2000000 in
theorem long_go (b : ByteArray) (hb1 : 1 ≤ b.size) (hb2 : b.size ≤ 100) : ∀ (f n : Nat), n < f → n ≤ 100000 → ∀ w : World,
    Calls Tryd.prog 27 #[.int .i64 (n : Int), .string b] w fun e w' => e = .returned (.string (longS b f n)) ∧ w' = w := by
  intro f
  induction f with
  | zero => intro n h; omega
  | succ f ih =>
    intro n hnf hn w
    have HIH := hide ih
    clear ih
    obtain ⟨r, hr⟩ : ∃ r, longS b (f + 1) n = r := ⟨_, rfl⟩
    have HR := hide hr
    rw [hr]
    unfold longS at HR
    clear hr
    by_cases h0 : n = 0
    · subst h0
      have HX : Hid (r = ⟨#[]⟩) := by have := HR.out; rw [if_pos rfl] at this; exact this.symm
      go_enter Tryd.func27, Tryd.ntmps27
      go_wp2_with fail
      go_loopg [5] 0 (fun q v5 wr => v5 = .string ⟨#[]⟩ ∧ wr = w)
      case atStart => exact ⟨rfl, rfl⟩
      case round =>
        obtain ⟨rfl, rfl⟩ := hrel
        go_wp2_with fail
        go_ret
        exact ⟨by rw [HX.out]; rfl, rfl⟩
    · have hpos : (0 : Int) < (n : Int) := by omega
      rw [if_neg h0] at HR
      obtain ⟨G, hG⟩ : ∃ g, growS n 64 b = g := ⟨_, rfl⟩
      have hgz := growS_sz n 64 b
      rw [hG] at HR hgz
      have HG := hide hG
      have hpow : n < b.size * 2 ^ 64 := by
        have : 1 * 2 ^ 64 ≤ b.size * 2 ^ 64 := Nat.mul_le_mul_right _ hb1
        omega
      have HPW := hide hpow
      clear hG h0 hpow
      go_enter Tryd.func27, Tryd.ntmps27
      have hd : decide (0 < n) = true := decide_eq_true (by omega)
      go_wp2_with fail
      (try rw [hd])
      go_loopg [5] 64 (fun q v5 wr => ∃ s : ByteArray, v5 = .string s ∧ wr = w ∧ growS n q s = G ∧ n < s.size * 2 ^ q ∧ 1 ≤ s.size ∧ s.size ≤ 100000)
      case atStart => exact ⟨b, rfl, rfl, HG.out, HPW.out, hb1, by omega⟩
      case round =>
        obtain ⟨s, rfl, hw, hg, hq, hs1, hs2⟩ := hrel
        rw [hw]
        clear hw
        by_cases hc : s.size * 2 ≤ n
        · have hci : (s.size : Int) * 2 ≤ (n : Int) := by omega
          have HS : Hid (∃ q', gk = q' + 1 ∧ growS n q' (s ++ s) = G ∧ n < (s ++ s).size * 2 ^ q') := by
            cases gk with
            | zero => simp at hq; omega
            | succ q' =>
              refine ⟨q', rfl, ?_, ?_⟩
              · rw [← hg]; exact (growS_step hc).symm
              · rw [ByteArray.size_append]; rw [Nat.pow_succ] at hq
                have e : (s.size + s.size) * 2 ^ q' = s.size * (2 ^ q' * 2) := by rw [Nat.add_mul, ← Nat.mul_assoc]; omega
                rw [e]; exact hq
          have hz2 : (s ++ s).size = s.size + s.size := ByteArray.size_append
          clear hg hq
          obtain ⟨q', rfl, hg', hq'⟩ := HS.out
          have HREL : Hid (∃ t : ByteArray, Value.string (s ++ s) = .string t ∧ w = w ∧ growS n q' t = G ∧ n < t.size * 2 ^ q' ∧ 1 ≤ t.size ∧ t.size ≤ 100000) := ⟨s ++ s, rfl, rfl, hg', hq', by omega, by omega⟩
          clear hg' hq' HS hz2
          go_wp2_with fail
          go_roundg q'
          case measure => omega
          case rel =>
            obtain ⟨t, q1, _, q2, q3, q4, q5⟩ := HREL.out
            exact ⟨t, q1, rfl, q2, q3, q4, q5⟩
        · have hci : ¬ (s.size : Int) * 2 ≤ (n : Int) := by omega
          have hGs : G = s := by rw [← hg]; exact growS_stop hc
          clear hg hq
          subst hGs
          by_cases hlt : G.size < n
          · have hlti : (G.size : Int) < (n : Int) := by omega
            obtain ⟨n2, hn2⟩ : ∃ k, n - G.size = k := ⟨_, rfl⟩
            rw [if_pos hlt, hn2] at HR
            have hn2i : (n : Int) - (G.size : Int) = (n2 : Int) := by omega
            have HI := hide (HIH.out n2 (by omega) (by omega) w)
            have hz := longS_sz b f n2
            obtain ⟨t, ht⟩ : ∃ t, longS b f n2 = t := ⟨_, rfl⟩
            rw [ht] at HI HR hz
            clear hn2 ht
            go_wp2_with fail
            refine HI.out.mono ?_
            rintro e y ⟨rfl, hy⟩
            (try rw [hy])
            clear hy y
            go_wp2_with fail
            go_ret
            exact ⟨by rw [← HR.out]; rfl, rfl⟩
          · have hlti : ¬ (G.size : Int) < (n : Int) := by omega
            rw [if_neg hlt] at HR
            go_wp2_with fail
            go_ret
            exact ⟨by rw [← HR.out]; rfl, rfl⟩
theorem long_any (b : ByteArray) (hb1 : 1 ≤ b.size) (hb2 : b.size ≤ 100) (n : Nat) (hn : n ≤ 100000) (w : World) :
    Calls Tryd.prog 27 #[.int .i64 (n : Int), .string b] w fun e w' => e = .returned (.string (longS b (n + 1) n)) ∧ w' = w := long_go b hb1 hb2 (n + 1) n (by omega) hn w
end Go.Proofs.YtcphfhfockjljaaDoor.Msg
