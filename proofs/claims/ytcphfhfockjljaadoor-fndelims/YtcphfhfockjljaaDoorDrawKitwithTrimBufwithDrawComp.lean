import Derived.Test.YtcphfhfockjljaaDoorMsgEqwithMsgEq2withMsgTo
import Derived.Test.YtcphfhfockjljaaDoorFrameBasewithFrameWrapwithFrameSpecWrap
import Derived.BigQuiet
import Derived.Test.YtcphfhfockjljaaDoorParseReps
import Derived.Test.YtcphfhfockjljaaDoorParseByteswithParsePlainwithParseLists
import Derived.Deep.RegionHeld3
namespace Go.Proofs.YtcphfhfockjljaaDoor.Msg
open Go.ChangeShapes Go.WideShapes Go.ChangeAt Go.RowKit
set_option linter.unusedVariables false
set_option linter.unusedSimpArgs false

/-! the code that is drawn from -/
def CodeR (_ : Nat) (w : World) (b off : Nat) (x : UInt8) : Prop := w.cell? ⟨b, off, none⟩ = some (.int .u8 (x.toNat : Int))
def CodeAt : Nat → World → Value → List UInt8 → Prop := At 1 CodeR
theorem kept_code : Kept CodeR := fun lo w w' b off x h h1 h2 hb => by unfold CodeR at *; rw [hb.cell h1 h2]; exact h
theorem code_form {lo : Nat} {w : World} {v : Value} {xs : List UInt8} (h : CodeAt lo w v xs) : ∃ a cap, v = .slice a xs.length cap ∧ ∀ i, i < xs.length → ∃ b off, a = some ⟨b, off, none⟩ ∧ b < w.heap.size ∧ w.cell? ⟨b, off + i, none⟩ = some (.int .u8 ((xs.getD i 0).toNat : Int)) := by
  obtain ⟨hl, h⟩ := h
  rcases h with ⟨a, cap, rfl, rfl⟩ | ⟨b, off, cap, rfl, hlt, h⟩
  · exact ⟨a, cap, rfl, fun i hi => absurd hi (by simp)⟩
  · exact ⟨_, cap, rfl, fun i hi => ⟨b, off, rfl, hlt.2, by have := h i hi; unfold CodeR at this; rw [List.getD_eq_getElem?_getD, List.getElem?_eq_getElem hi]; simpa using this⟩⟩
theorem bits_xor_i64 (a b : Nat) (ha : a < 1099511627776) (hb : b < 1099511627776) : bits .xor .i64 (a : Int) (b : Int) = ((a ^^^ b : Nat) : Int) := by
  have hx : a ^^^ b < 2 ^ 40 := Nat.xor_lt_two_pow (by omega) (by omega)
  have h1 : (BitVec.ofInt 64 (a : Int)).toNat = a := by
    rw [BitVec.ofInt_natCast, BitVec.toNat_ofNat]; exact Nat.mod_eq_of_lt (by omega)
  have h2 : (BitVec.ofInt 64 (b : Int)).toNat = b := by
    rw [BitVec.ofInt_natCast, BitVec.toNat_ofNat]; exact Nat.mod_eq_of_lt (by omega)
  show IntKind.i64.wrap ((BitVec.ofInt 64 (a : Int) ^^^ BitVec.ofInt 64 (b : Int)).toNat : Int) = _
  rw [BitVec.toNat_xor, h1, h2, IntKind.wrap_i64]
  omega
/-- what l1Take takes at a place -/
def tkX (cs : List UInt8) (p : Nat) : Nat := (cs.getD (p % cs.length) 0).toNat * 131 + (cs.getD ((p * 7 + 3) % cs.length) 0).toNat * 1117 + p * 29 + p / cs.length * 53
def tk (cs : List UInt8) (p n : Nat) : Nat :=
  if n < 1 ∨ cs.length = 0 then 0 else if p < cs.length ∧ n ≤ 256 then (cs.getD p 0).toNat % n else (tkX cs p ^^^ (tkX cs p / 64)) % n
theorem tk_lt (cs : List UInt8) (p n : Nat) (h : 1 ≤ n) : tk cs p n < n := by
  unfold tk
  split
  · omega
  · split <;> exact Nat.mod_lt _ (by omega)
theorem tk_le (cs : List UInt8) (p n m : Nat) (h : n ≤ m + 1) : tk cs p n ≤ m := by
  by_cases h1 : 1 ≤ n
  · have := tk_lt cs p n h1; omega
  · unfold tk; rw [if_pos (.inl (by omega))]; exact Nat.zero_le _
set_option maxRecDepth 100000 in
set_option maxHeartbeats 4000000 in
theorem take_any (cs : List UInt8) (v : Value) (p n : Nat) (w : World) {lo : Nat} (hv : CodeAt lo w v cs) (hl : cs.length ≤ 1048576) (hp : p ≤ 4194304) (hn : n ≤ 1048576) :
    Calls Tryd.prog 11 #[v, .int .i64 (p : Int), .int .i64 (n : Int)] w fun e w' => e = .returned (.tuple #[.int .i64 ((tk cs p n : Nat) : Int), .int .i64 ((p + 1 : Nat) : Int)]) ∧ w' = w := by
  obtain ⟨a, cap, rfl, hc⟩ := code_form hv
  have HC := hide hc
  clear hv hc
  obtain ⟨t, ht⟩ : ∃ t, tk cs p n = t := ⟨_, rfl⟩
  have HT := hide ht
  rw [ht]
  clear ht
  obtain ⟨L, hL⟩ : ∃ L, cs.length = L := ⟨_, rfl⟩
  have HL := hide hL
  rw [hL] at hl ⊢
  clear hL
  have e1 : ((p + 1 : Nat) : Int) = (p : Int) + 1 := by omega
  rw [e1]
  by_cases h1 : (n : Int) < 1
  · have HX : Hid (t = 0) := by rw [← HT.out]; unfold tk; exact if_pos (.inl (by omega))
    rw [HX.out]
    go_enter Tryd.func11, Tryd.ntmps11
    go_wp2_with fail
    go_ret2
    exact ⟨rfl, rfl⟩
  · by_cases h0 : L = 0
    · have HX : Hid (t = 0) := by rw [← HT.out]; unfold tk; exact if_pos (.inr (by rw [HL.out]; exact h0))
      rw [HX.out]
      subst h0
      go_enter Tryd.func11, Tryd.ntmps11
      go_wp2_with fail
      go_ret2
      exact ⟨rfl, rfl⟩
    · have h0i : ¬ (L : Int) = 0 := by omega
      have h0b : ((L : Int) == 0) = false := by simpa using h0i
      have hn0 : ¬ (n : Int) = 0 := by omega
      have hn0b : ((n : Int) == 0) = false := by simpa using hn0
      have hcond : ¬ (n < 1 ∨ cs.length = 0) := by rw [HL.out]; omega
      by_cases h2 : p < L ∧ n ≤ 256
      · obtain ⟨h2a, h2b⟩ := h2
        have h2ai : (p : Int) < (L : Int) := by omega
        have h2bi : (n : Int) ≤ 256 := by omega
        obtain ⟨b, off, rfl, hb, hcell⟩ := HC.out p (by rw [HL.out]; exact h2a)
        obtain ⟨c, hcc⟩ : ∃ c : Nat, (cs.getD p 0).toNat = c := ⟨_, rfl⟩
        have hc6 : c ≤ 255 := by have := (cs.getD p 0).toNat_lt; omega
        have HX : Hid (t = c % n) := by rw [← HT.out]; unfold tk; rw [if_neg hcond, if_pos ⟨by rw [HL.out]; exact h2a, h2b⟩, hcc]; exact rfl
        rw [hcc] at hcell
        have h4 : (0 : Int) ≤ (c : Int) := by omega
        have h5 : (c : Int) ≤ 255 := by omega
        have h6 : (c : Int).tmod (n : Int) = (t : Int) := by rw [Int.tmod_eq_emod_of_nonneg (by omega), HX.out]; omega
        have h6b : (c : Int) % (n : Int) = (t : Int) := by rw [HX.out]; omega
        clear hcc hcond h0
        go_enter Tryd.func11, Tryd.ntmps11
        go_wp2_with fail
        go_ret2
        exact ⟨rfl, rfl⟩
      · have hq1 : p % L < L := Nat.mod_lt _ (by omega)
        have hq2 : (p * 7 + 3) % L < L := Nat.mod_lt _ (by omega)
        obtain ⟨b, off, rfl, hb, hcell⟩ := HC.out (p % L) (by rw [HL.out]; exact hq1)
        obtain ⟨b2, off2, e2, hb2, hcell2⟩ := HC.out ((p * 7 + 3) % L) (by rw [HL.out]; exact hq2)
        injection e2 with e2
        injection e2 with e2 e3
        subst e2 e3
        obtain ⟨c, hcc⟩ : ∃ c : Nat, (cs.getD (p % L) 0).toNat = c := ⟨_, rfl⟩
        have hc6 : c ≤ 255 := by have := (cs.getD (p % L) 0).toNat_lt; omega
        obtain ⟨c2, hcc2⟩ : ∃ c : Nat, (cs.getD ((p * 7 + 3) % L) 0).toNat = c := ⟨_, rfl⟩
        have hc7 : c2 ≤ 255 := by have := (cs.getD ((p * 7 + 3) % L) 0).toNat_lt; omega
        obtain ⟨q, hq⟩ : ∃ q, p % L = q := ⟨_, rfl⟩
        obtain ⟨q2, hqq2⟩ : ∃ q, (p * 7 + 3) % L = q := ⟨_, rfl⟩
        obtain ⟨y, hy⟩ : ∃ y, p / L = y := ⟨_, rfl⟩
        have hyl : y ≤ p := by rw [← hy]; exact Nat.div_le_self _ _
        obtain ⟨x, hx⟩ : ∃ x, c * 131 + c2 * 1117 + p * 29 + y * 53 = x := ⟨_, rfl⟩
        have hX : tkX cs p = x := by unfold tkX; rw [HL.out, hcc, hcc2, hy, hx]
        have HX : Hid (t = (x ^^^ (x / 64)) % n) := by rw [← HT.out]; unfold tk; rw [if_neg hcond, if_neg (by rw [HL.out]; exact h2), hX]; exact rfl
        rw [hcc, hq] at hcell
        rw [hcc2, hqq2] at hcell2
        rw [hq] at hq1
        rw [hqq2] at hq2
        have m1 : (p : Int).tmod (L : Int) = (q : Int) := by rw [Int.tmod_eq_emod_of_nonneg (by omega), ← hq]; omega
        have m1b : (p : Int) % (L : Int) = (q : Int) := by rw [← hq]; omega
        have m2b : ((p : Int) * 7 + 3) % (L : Int) = (q2 : Int) := by
          have e7 : (p : Int) * 7 + 3 = ((p * 7 + 3 : Nat) : Int) := by omega
          rw [e7, ← hqq2]
          exact (Int.natCast_emod _ _).symm
        have m2 : ((p : Int) * 7 + 3).tmod (L : Int) = (q2 : Int) := by rw [Int.tmod_eq_emod_of_nonneg (by omega)]; exact m2b
        have m3 : (p : Int).tdiv (L : Int) = (y : Int) := by rw [Int.tdiv_eq_ediv_of_nonneg (by omega), ← hy]; omega
        have m3b : (p : Int) / (L : Int) = (y : Int) := by rw [← hy]; omega
        have hxl : x < 1099511627776 := by omega
        have m4 : (c : Int) * 131 + (c2 : Int) * 1117 + (p : Int) * 29 + (y : Int) * 53 = (x : Int) := by omega
        obtain ⟨y2, hy2⟩ : ∃ y, x / 64 = y := ⟨_, rfl⟩
        rw [hy2] at HX
        have m5 : (x : Int).tdiv 64 = (y2 : Int) := by rw [Int.tdiv_eq_ediv_of_nonneg (by omega)]; omega
        have m5b : (x : Int) / 64 = (y2 : Int) := by omega
        obtain ⟨z, hz⟩ : ∃ z, x ^^^ y2 = z := ⟨_, rfl⟩
        have m6 : bits .xor .i64 (x : Int) (y2 : Int) = (z : Int) := by rw [bits_xor_i64 _ _ hxl (by omega), hz]
        have hzl : z < 1099511627776 := by rw [← hz]; exact Nat.xor_lt_two_pow (n := 40) (by omega) (by omega)
        rw [hz] at HX
        have m7 : (z : Int).tmod (n : Int) = (t : Int) := by rw [Int.tmod_eq_emod_of_nonneg (by omega), HX.out]; omega
        have m7b : (z : Int) % (n : Int) = (t : Int) := by rw [HX.out]; omega
        have g1 : (q : Int) < (L : Int) := by omega
        have g2 : (q2 : Int) < (L : Int) := by omega
        have h4 : (0 : Int) ≤ (c : Int) := by omega
        have h5 : (c : Int) ≤ 255 := by omega
        have h4' : (0 : Int) ≤ (c2 : Int) := by omega
        have h5' : (c2 : Int) ≤ 255 := by omega
        have b1 : ¬ ((p : Int) < (L : Int) ∧ (n : Int) ≤ 256) := by omega
        clear hcc hcc2 hq hqq2 hy hx hX hz hcond h0 HX hy2
        go_enter Tryd.func11, Tryd.ntmps11
        by_cases hpl : (p : Int) < (L : Int)
        · have hn2 : ¬ (n : Int) ≤ 256 := by omega
          go_wp2_with fail
          go_ret2
          exact ⟨rfl, rfl⟩
        · go_wp2_with fail
          go_ret2
          exact ⟨rfl, rfl⟩
end Go.Proofs.YtcphfhfockjljaaDoor.Msg

namespace Go.Proofs.YtcphfhfockjljaaDoor.Msg
open Go.ChangeShapes Go.WideShapes Go.ChangeAt Go.RowKit
set_option linter.unusedVariables false
set_option linter.unusedSimpArgs false

/-! cutting short -/
def emptyB (b : ByteArray) : Bool := b.size == 0
def trimC (r : Rep) : Rep := trimE emptyB r
def trimR (f : Field) : Field := trimE List.isEmpty (f.map trimC)
def trimF (fs : List Field) : List Field := trimE List.isEmpty (fs.map trimR)

/-- a list that is built by append out of elements for reading: their blocks are known, and that the row is none of them -/
def RBuf {α : Type} (O : World → Value → α → List Nat → Prop) (P : Nat → Prop) (e : TypeId) (base : Nat) (w : World) (v : Value) (xs : List α) : Prop :=
  ∃ (vs : List Value) (bss : List (List Nat)), vs.length = xs.length ∧ bss.length = xs.length ∧ w.ownsRow base e 1 v xs.length vs ∧
    ∀ i (h : i < xs.length) (h1 : i < vs.length) (h2 : i < bss.length), O w vs[i] xs[i] bss[i] ∧ ∀ b ∈ bss[i], P b ∧ b < w.heap.size ∧ v.ownBlock ≠ some b

theorem RBuf.empty {α : Type} (O : World → Value → α → List Nat → Prop) (P : Nat → Prop) (e : TypeId) (base : Nat) (w : World) (hb : base ≤ w.heap.size) : RBuf O P e base (w.alloc (.cells #[] e)) (.slice (some ⟨w.heap.size, 0, none⟩) 0 0) [] :=
  ⟨[], [], rfl, rfl, World.ownsRow_lit (base := base) (e := e) (size := 1) w #[] 0 hb (by unfold maxLen; omega) rfl, fun i h => absurd h (by simp)⟩

theorem RBuf.kept {α : Type} {O : World → Value → α → List Nat → Prop} (hkeep : ∀ w w' v x bs, O w v x bs → w.heap.size ≤ w'.heap.size → (∀ d ∈ bs, w'.heap[d]? = w.heap[d]?) → O w' v x bs)
    {P : Nat → Prop} {e : TypeId} {base : Nat} {w w' : World} {v : Value} {xs : List α} (h : RBuf O P e base w v xs) (hb : Below w.heap.size w w') : RBuf O P e base w' v xs := by
  obtain ⟨vs, bss, h1, h2, h3, h5⟩ := h
  refine ⟨vs, bss, h1, h2, own_below h3 hb, fun i hi g1 g2 => ?_⟩
  obtain ⟨k1, k2⟩ := h5 i hi g1 g2
  exact ⟨hkeep _ _ _ _ _ k1 hb.size fun d hd => hb.block d (k2 d hd).2.1, fun b hb' => ⟨(k2 b hb').1, Nat.lt_of_lt_of_le (k2 b hb').2.1 hb.size, (k2 b hb').2.2⟩⟩

/-- behind an append of one element -/
theorem RBuf.push {α : Type} {O : World → Value → α → List Nat → Prop} (hkeep : ∀ w w' v x bs, O w v x bs → w.heap.size ≤ w'.heap.size → (∀ d ∈ bs, w'.heap[d]? = w.heap[d]?) → O w' v x bs)
    (hltO : ∀ w v x bs, O w v x bs → ∀ d ∈ bs, d < w.heap.size) {P : Nat → Prop} {e : TypeId} {base : Nat} {w w3 w4 : World} {v v' u : Value} {xs : List α} {x : α} {bs : List Nat} {vs : List Value} {bss : List (List Nat)}
    (h1 : vs.length = xs.length) (h2 : bss.length = xs.length) (h3 : w.ownsRow base e 1 v xs.length vs)
    (h5 : ∀ i (h : i < xs.length) (h1 : i < vs.length) (h2 : i < bss.length), O w vs[i] xs[i] bss[i] ∧ ∀ b ∈ bss[i], P b ∧ b < w.heap.size ∧ v.ownBlock ≠ some b)
    (hb : Below w.heap.size w w3) (hu : O w3 u x bs) (hf : ∀ b ∈ bs, P b ∧ v.ownBlock ≠ some b)
    {n : Nat} (hn : n = xs.length) (ho : w4.ownsRow base e 1 v' (n + 1) (vs ++ [u])) (hg : w3.grownBy w4 v.ownBlock) (hat : v'.ownBlock = v.ownBlock ∨ v'.ownBlock = some w3.heap.size) :
    RBuf O P e base w4 v' (xs ++ [x]) := by
  subst hn
  have hown : ∀ b, v.ownBlock = some b → b < w.heap.size := fun b hb' => (own_lt h3 hb').2
  have hold : ∀ b, b < w.heap.size → v.ownBlock ≠ some b → w4.heap[b]? = w.heap[b]? := fun b hb1 hb2 => (hg.block b (Nat.lt_of_lt_of_le hb1 hb.size) (fun e => hb2 e.symm)).trans (hb.block b hb1)
  have hs34 := hg.size
  refine ⟨vs ++ [u], bss ++ [bs], by simp [h1], by simp [h2], by simpa using ho, fun i hi g1 g2 => ?_⟩
  by_cases hlt : i < xs.length
  · obtain ⟨k1, k2⟩ := h5 i hlt (by omega) (by omega)
    have a1 : (vs ++ [u])[i] = vs[i]'(by omega) := List.getElem_append_left (by omega)
    have a2 : (bss ++ [bs])[i] = bss[i]'(by omega) := List.getElem_append_left (by omega)
    have a3 : (xs ++ [x])[i] = xs[i] := List.getElem_append_left hlt
    rw [a1, a2, a3]
    refine ⟨hkeep _ _ _ _ _ k1 (Nat.le_trans hb.size hs34) fun d hd => hold d (k2 d hd).2.1 (k2 d hd).2.2, fun b hb' => ⟨(k2 b hb').1, by have := (k2 b hb').2.1; have := hb.size; omega, ?_⟩⟩
    rcases hat with hat | hat
    · rw [hat]; exact (k2 b hb').2.2
    · rw [hat]; intro e; injection e with e; have := (k2 b hb').2.1; have := hb.size; omega
  · have e1 : i = xs.length := by simp at hi; omega
    subst e1
    have e2 : (vs ++ [u])[xs.length] = u := by rw [List.getElem_append_right (by omega)]; simp [h1]
    have e3 : (bss ++ [bs])[xs.length] = bs := by rw [List.getElem_append_right (by omega)]; simp [h2]
    have e4 : (xs ++ [x])[xs.length] = x := by rw [List.getElem_append_right (Nat.le_refl _)]; simp
    rw [e2, e3, e4]
    have hlt3 := hltO _ _ _ _ hu
    refine ⟨hkeep _ _ _ _ _ hu hs34 fun d hd => hg.block d (hlt3 d hd) (fun e => (hf d hd).2 e.symm), fun b hb' => ⟨(hf b hb').1, Nat.lt_of_lt_of_le (hlt3 b hb') hs34, ?_⟩⟩
    rcases hat with hat | hat
    · rw [hat]; exact (hf b hb').2
    · rw [hat]; intro e; injection e with e; have := hlt3 b hb'; omega

/-- its first n, as such a list again, and for reading -/
theorem RBuf.first {α : Type} {O : World → Value → α → List Nat → Prop} {R : World → Nat → Nat → α → List Nat → Prop} (hR : ∀ w b off x bs v, w.cell? ⟨b, off, none⟩ = some v → O w v x bs → R w b off x bs)
    {P : Nat → Prop} {e : TypeId} {base : Nat} {w : World} {v : Value} {xs : List α} (h : RBuf O P e base w v xs) (hl : xs.length ≤ 9223372036854775807) {n : Nat} (hn : n ≤ xs.length) :
    ∃ a cap, v = .slice a xs.length cap ∧ xs.length ≤ cap ∧ cap ≤ 9223372036854775807 ∧ RBuf O P e base w (.slice a n cap) (xs.take n) ∧
      ∃ bs, OAt 1 R w (.slice a n cap) (xs.take n) bs ∧ ∀ b ∈ bs, b < w.heap.size ∧ (P b ∨ base ≤ b) := by
  obtain ⟨vs, bss, h1, h2, h3, h5⟩ := h
  have hlt := hl
  obtain ⟨hlen, hown⟩ := h3
  rcases hown with ⟨rfl, h0⟩ | ⟨g, cap, cur, rfl, hg, hs, hcap, hm, hsz, ht⟩
  · have hn0 : n = 0 := by omega
    subst hn0
    exact ⟨none, 0, by rw [h0], by omega, by omega, ⟨[], [], by simp, by simp, ⟨by simp, .inl ⟨rfl, by simp⟩⟩, fun i h => absurd h (by simp)⟩, [], ⟨by simp, .inl ⟨_, _, rfl, by simp, rfl⟩⟩, by simp⟩
  · have hgl : g < w.heap.size := by rw [Array.getElem?_eq_some_iff] at hs; exact hs.1
    have hln : (xs.take n).length = n := by rw [List.length_take]; omega
    refine ⟨_, cap, rfl, hcap, by unfold maxLen at hm; omega, ⟨vs.take n, bss.take n, by rw [List.length_take, hln]; omega, by rw [List.length_take, hln]; omega, ⟨by rw [List.length_take, hln]; omega, .inr ⟨g, cap, cur, by rw [hln], hg, hs, by rw [hln]; omega, hm, hsz, by rw [hln, ← ht, List.take_take]; congr 1; omega⟩⟩, fun i hi g1 g2 => ?_⟩, ?_⟩
    · rw [hln] at hi
      rw [List.getElem_take, List.getElem_take, List.getElem_take]
      exact h5 i (by omega) (by omega) (by omega)
    · by_cases hn0 : n = 0
      · subst hn0
        exact ⟨[], ⟨by simp, .inl ⟨_, _, rfl, by simp, rfl⟩⟩, by simp⟩
      · refine ⟨g :: (bss.take n).flatten, ⟨by omega, .inr ⟨g, 0, cap, bss.take n, by rw [hln], hgl, rfl, by rw [List.length_take, hln]; omega, fun i hi hi2 => ?_⟩⟩, ?_⟩
        · have hix : i < xs.length := by omega
          have k := h5 i hix (by omega) (by omega)
          rw [List.getElem_take, List.getElem_take]
          refine hR _ _ _ _ _ _ ?_ k.1
          obtain ⟨ve, hve⟩ : ∃ ve, vs[i]'(by omega) = ve := ⟨_, rfl⟩
          have e1 : vs[i]? = some ve := by rw [← hve]; exact List.getElem?_eq_getElem (by omega)
          rw [hve]
          rw [← ht, List.getElem?_take, if_pos (by omega)] at e1
          simp only [World.cell?, hs, Nat.zero_add, Nat.mul_one]
          rw [← Array.getElem?_toList, e1]
          rfl
        · intro b hb
          rw [List.mem_cons, List.mem_flatten] at hb
          rcases hb with rfl | ⟨l, hl', hm'⟩
          · exact ⟨hgl, .inr hg⟩
          · obtain ⟨i, hi, rfl⟩ := List.getElem_of_mem hl'
            rw [List.length_take] at hi
            rw [List.getElem_take] at hm'
            have := (h5 i (by omega) (by omega) (by omega)).2 b hm'
            exact ⟨this.2.1, .inl this.1⟩

/-- the first n of a list of texts for reading -/
theorem OStrs.first {w : World} {a : Option Addr} {cap n : Nat} {x : Rep} {bs : List Nat} (h : OStrs w (.slice a x.length cap) x bs) (hn : n ≤ x.length) : ∃ bs', OStrs w (.slice a n cap) (x.take n) bs' ∧ ∀ b ∈ bs', b ∈ bs := by
  obtain ⟨hl, h⟩ := h
  have hln : (x.take n).length = n := by rw [List.length_take]; omega
  rcases h with ⟨a', cap', he, rfl, rfl⟩ | ⟨b, off, cap', bss, he, hlt, rfl, hlen, h⟩
  · have hn0 : n = 0 := by simpa using hn
    subst hn0
    exact ⟨[], ⟨by simp, .inl ⟨_, _, rfl, by simp, rfl⟩⟩, by simp⟩
  · injection he with e1 _ e3
    subst e1 e3
    refine ⟨b :: (bss.take n).flatten, ⟨by omega, .inr ⟨b, off, cap, bss.take n, by rw [hln], hlt, rfl, by rw [List.length_take, hln]; omega, fun i hi h2 => ?_⟩⟩, ?_⟩
    · rw [List.getElem_take, List.getElem_take]
      exact h i (by omega) (by omega)
    · intro c hc
      rw [List.mem_cons, List.mem_flatten] at hc ⊢
      rcases hc with rfl | ⟨l, hl', hm⟩
      · exact .inl rfl
      · exact .inr ⟨l, List.mem_of_mem_take hl', hm⟩
theorem OAt.form {α : Type} {n : Nat} {R : World → Nat → Nat → α → List Nat → Prop} {w : World} {v : Value} {xs : List α} {bs : List Nat} (h : OAt n R w v xs bs) : ∃ a cap, v = .slice a xs.length cap ∧
    ∀ i (hi : i < xs.length), ∃ b off cs, a = some ⟨b, off, none⟩ ∧ b < w.heap.size ∧ b ∈ bs ∧ R w b (off + i * n) xs[i] cs ∧ ∀ c ∈ cs, c ∈ bs := by
  obtain ⟨hl, h⟩ := h
  rcases h with ⟨a, cap, rfl, rfl, rfl⟩ | ⟨b, off, cap, bss, rfl, hlt, rfl, hlen, h⟩
  · exact ⟨a, cap, rfl, fun i hi => absurd hi (by simp)⟩
  · exact ⟨_, cap, rfl, fun i hi => ⟨b, off, bss[i]'(by omega), rfl, hlt, by simp, h i hi (by omega), fun c hc => by
      rw [List.mem_cons, List.mem_flatten]
      exact .inr ⟨_, List.getElem_mem (by omega), hc⟩⟩⟩
/-! lists for reading, the capacities of whose lists of texts are known -/
def StrsC (w : World) (v : Value) (x : Rep) (bs : List Nat) : Prop := OStrs w v x bs ∧ ∃ a cap, v = .slice a x.length cap ∧ x.length ≤ cap ∧ cap ≤ 9223372036854775807
def RepC (w : World) (b off : Nat) (x : Rep) (bs : List Nat) : Prop := ∃ v, w.cell? ⟨b, off, none⟩ = some v ∧ StrsC w v x bs
def RepsC : World → Value → List Rep → List Nat → Prop := OAt 1 RepC
def FieldC (w : World) (b off : Nat) (x : Field) (bs : List Nat) : Prop := ∃ v, w.cell? ⟨b, off, none⟩ = some v ∧ RepsC w v x bs
def FieldsC : World → Value → List Field → List Nat → Prop := OAt 1 FieldC
theorem keptO_repC : KeptO RepC := fun w w' b off x bs h hb hs hc => let ⟨v, h1, h2, h3⟩ := h; ⟨v, by rw [cellSame hb]; exact h1, OAt.kept keptO_str h2 hs hc, h3⟩
theorem ltO_repC : LtO RepC := fun w b off x bs h => let ⟨v, h1, h2, h3⟩ := h; OAt.lt ltO_str h2
theorem keptO_fieldC : KeptO FieldC := fun w w' b off x bs h hb hs hc => let ⟨v, h1, h2⟩ := h; ⟨v, by rw [cellSame hb]; exact h1, OAt.kept keptO_repC h2 hs hc⟩
theorem ltO_fieldC : LtO FieldC := fun w b off x bs h => let ⟨v, h1, h2⟩ := h; OAt.lt ltO_repC h2
end Go.Proofs.YtcphfhfockjljaaDoor.Msg

namespace Go.Proofs.YtcphfhfockjljaaDoor.Msg
open Go.ChangeShapes Go.WideShapes Go.ChangeAt Go.RowKit
set_option linter.unusedVariables false
set_option linter.unusedSimpArgs false

/-! a component that is drawn -/
def drAll : ByteArray := ⟨#[124, 94, 126, 38, 35, 36, 120, 32, 126, 124, 94]⟩
def drComp (cs : List UInt8) (p : Nat) : ByteArray :=
  if tk cs p 8 < 2 then ⟨#[]⟩ else if tk cs p 8 = 2 then (drAll.extract (tk cs (p + 1) 30 % 10) (tk cs (p + 1) 30 % 10 + 1) ++ ⟨#[121]⟩) ++ ⟨#[UInt8.ofNat 92]⟩
  else if tk cs p 8 = 3 then ⟨#[UInt8.ofNat 92]⟩ ++ ⟨#[70]⟩ else ⟨#[99]⟩ ++ ⟨#[UInt8.ofNat (97 + tk cs (p + 1) 30 % 26)]⟩
theorem drComp_sz (cs : List UInt8) (p : Nat) : (drComp cs p).size ≤ 3 := by
  unfold drComp
  split
  · exact Nat.zero_le _
  · split
    · rw [ByteArray.size_append, ByteArray.size_append, ByteArray.size_extract]
      have h1 : (⟨#[121]⟩ : ByteArray).size = 1 := rfl
      have h2 : (⟨#[UInt8.ofNat 92]⟩ : ByteArray).size = 1 := rfl
      omega
    · split
      · exact (by decide : (2 : Nat) ≤ 3)
      · rw [ByteArray.size_append]
        have h1 : (⟨#[99]⟩ : ByteArray).size = 1 := rfl
        have h2 : ∀ x, (⟨#[x]⟩ : ByteArray).size = 1 := fun _ => rfl
        rw [h1, h2]
        decide
theorem bjoinD {w w2 : World} (h : Below w.drew.heap.size w.drew w2) : Below w.heap.size w w2 := (Below.refl w.heap.size w).drew.trans h
set_option maxRecDepth 100000 in
set_option maxHeartbeats 4000000 in
theorem drawComp_any (cs : List UInt8) (v : Value) (p : Nat) (w : World) {lo : Nat} (hv : CodeAt lo w v cs) (hl : cs.length ≤ 1048576) (hp : p ≤ 4000000) :
    Calls Tryd.prog 24 #[v, .int .i64 (p : Int)] w fun e w' => e = .returned (.tuple #[.string (drComp cs p), .int .i64 ((p + 2 : Nat) : Int)]) ∧ Below w.heap.size w w' := by
  have HT1 := hide (take_any cs v p 8 w hv hl (by omega) (by decide))
  have HT2 := hide (take_any cs v (p + 1) 30 w hv hl (by omega) (by decide))
  obtain ⟨aa, cap, rfl, _⟩ := code_form hv
  obtain ⟨r, hr⟩ : ∃ r, drComp cs p = r := ⟨_, rfl⟩
  have HR := hide hr
  rw [hr]
  unfold drComp at HR
  have ha := tk_lt cs p 8 (by decide)
  have hb := tk_lt cs (p + 1) 30 (by decide)
  obtain ⟨a, hae⟩ : ∃ a, tk cs p 8 = a := ⟨_, rfl⟩
  obtain ⟨b, hbe⟩ : ∃ b, tk cs (p + 1) 30 = b := ⟨_, rfl⟩
  rw [hae] at HT1 HR ha
  rw [hbe] at HT2 HR hb
  have e1 : ((p + 2 : Nat) : Int) = ((p + 1 + 1 : Nat) : Int) := by omega
  rw [e1]
  clear hae hbe hr hv e1
  obtain ⟨p1, hp1⟩ : ∃ q, p + 1 = q := ⟨_, rfl⟩
  rw [hp1] at HT1 HT2 ⊢
  obtain ⟨p2, hp2⟩ : ∃ q, p1 + 1 = q := ⟨_, rfl⟩
  rw [hp2] at HT2 ⊢
  clear hp1 hp2
  have HB0 : Hid (Below w.heap.size w w) := Below.refl _ _
  go_enter Tryd.func24, Tryd.ntmps24
  go_wp2_with fail
  refine HT1.out.mono ?_
  rintro e w1 ⟨rfl, hw1⟩
  (try rw [hw1])
  clear hw1 w1
  go_wp2_with fail
  refine HT2.out.mono ?_
  rintro e w1 ⟨rfl, hw1⟩
  (try rw [hw1])
  clear hw1 w1
  by_cases h2 : (a : Int) < 2
  · have HX : Hid (r = ⟨#[]⟩) := by have := HR.out; rw [if_pos (by omega)] at this; exact this.symm
    go_wp2_with fail
    go_ret2
    exact ⟨by rw [HX.out]; rfl, HB0.out⟩
  · by_cases h3 : (a : Int) = 2
    · have h3b : ((a : Int) == 2) = true := by simpa using h3
      obtain ⟨q, hq⟩ : ∃ q, b % 10 = q := ⟨_, rfl⟩
      have hq10 : q ≤ 9 := by omega
      have HX : Hid (r = (drAll.extract q (q + 1) ++ ⟨#[121]⟩) ++ ⟨#[UInt8.ofNat 92]⟩) := by have := HR.out; rw [if_neg (by omega), if_pos (by omega), hq] at this; exact this.symm
      have m1 : (b : Int).tmod 10 = (q : Int) := by rw [Int.tmod_eq_emod_of_nonneg (by omega)]; omega
      have m2 : (b : Int) % 10 = (q : Int) := by omega
      have m3 : IntKind.i64.wrap ((q : Int) + 1) = (q : Int) + 1 := by rw [IntKind.wrap_i64]; omega
      have m4 : (0 : Int) ≤ (q : Int) := by omega
      have m5 : (q : Int) ≤ (q : Int) + 1 := by omega
      have hs11 : drAll.size = 11 := rfl
      have m6 : (q : Int) + 1 ≤ (drAll.size : Int) := by omega
      have m8 : (q : Int) ≤ (drAll.size : Int) := by omega
      clear hs11
      have m7 : ((q : Int) + 1).toNat = q + 1 := by omega
      have z1 : (drAll.extract q (q + 1)).size = 1 := by rw [ByteArray.size_extract]; have : drAll.size = 11 := rfl; omega
      have n1 : ¬ 9223372036854775807 < (drAll.extract q (q + 1)).size + 1 := by omega
      have n2 : ¬ 9223372036854775807 < (drAll.extract q (q + 1)).size + 1 + 1 := by omega
      have ed : (⟨#[124, 94, 126, 38, 35, 36, 120, 32, 126, 124, 94]⟩ : ByteArray) = drAll := rfl
      go_upto_region 8 with fail
      go_region_held3 (fun X : World => True) (exact trivial)
        (first | (go_at_call 26; refine (Frame.byte_any 92 _ (by decide) (by decide)).mono ?_; rintro e w2 ⟨rfl, hb2⟩))
      all_goals
        go_wp2_with fail
        go_ret2
        exact ⟨by rw [HX.out]; rfl, bjoinD hb2⟩
    · have h3b : ((a : Int) == 2) = false := by simpa using h3
      by_cases h4 : (a : Int) = 3
      · have h4b : ((a : Int) == 3) = true := by simpa using h4
        have HX : Hid (r = ⟨#[UInt8.ofNat 92]⟩ ++ ⟨#[70]⟩) := by have := HR.out; rw [if_neg (by omega), if_neg (by omega), if_pos (by omega)] at this; exact this.symm
        go_wp2_with (first | (go_at_call 26; refine (Frame.byte_any 92 _ (by decide) (by decide)).mono ?_; rintro e w2 ⟨rfl, hb2⟩))
        go_ret2
        exact ⟨by rw [HX.out]; rfl, hb2⟩
      · have h4b : ((a : Int) == 3) = false := by simpa using h4
        obtain ⟨q, hq⟩ : ∃ q, b % 26 = q := ⟨_, rfl⟩
        have hq10 : q ≤ 25 := by omega
        have HX : Hid (r = ⟨#[99]⟩ ++ ⟨#[UInt8.ofNat (97 + q)]⟩) := by have := HR.out; rw [if_neg (by omega), if_neg (by omega), if_neg (by omega), hq] at this; exact this.symm
        have m1 : (b : Int).tmod 26 = (q : Int) := by rw [Int.tmod_eq_emod_of_nonneg (by omega)]; omega
        have m2 : (b : Int) % 26 = (q : Int) := by omega
        have HQ := hide (fun W => Frame.byte_any (97 + (q : Int)) W (by omega) (by omega))
        have e97 : (97 + (q : Int)).toNat = 97 + q := by omega
        rw [e97] at HQ
        obtain ⟨ch, hch⟩ : ∃ c, UInt8.ofNat (97 + q) = c := ⟨_, rfl⟩
        rw [hch] at HQ HX
        clear hq hch
        go_wp2_with (first | (go_at_call 26; refine (HQ.out _).mono ?_; rintro e w2 ⟨rfl, hb2⟩))
        go_ret2
        exact ⟨by rw [HX.out]; rfl, hb2⟩
end Go.Proofs.YtcphfhfockjljaaDoor.Msg
