import Derived.Test.YtcphfhfockjljaaDoorMsgOkwithMsgOk2withMsgOk3
import Derived.Test.YtcphfhfockjljaaDoorMsgDatawithMsgSzwithMsgSz2
import Derived.OwnWalk
import Derived.Maps.AppendAt
import Derived.Laws.BytesArg
import Derived.Deep.Heap
namespace Go.Proofs.YtcphfhfockjljaaDoor.Msg
open Go.ChangeShapes Go.WideShapes Go.ChangeAt Go.RowKit
set_option linter.unusedVariables false
set_option linter.unusedSimpArgs false

set_option maxHeartbeats 2000000 in
theorem segOk_any (x : Seg) (first : Bool) (v : Value) (w : World) (hns : x.name.size ≤ 9223372036854775807) {lo : Nat} (hv : FieldsAt lo w v x.fields) :
    Calls Tryd.prog 39 #[.agg #[.string x.name, v], .bool first] w fun e w' => e = .returned (.bool (segB first x)) ∧ Below w.heap.size w w' := by
  have hl := hv.1
  have hb := (Below.refl w.heap.size w).alloc (Nat.le_refl _) (Obj.cells #[.string x.name, v] 44)
  have hbox : (w.alloc (Obj.cells #[.string x.name, v] 44)).cell? ⟨w.heap.size, 1, none⟩ = some v := by simp
  obtain ⟨a, cap, rfl, hc⟩ := (At.kept kept_field hv hb).form
  have HC := hide hc
  clear hc hv
  have HBX := hide hbox
  clear hbox
  have HR : Hid (segB first x = (nameB x.name && ((mshB x.name == first) && (decide (x.fields.length ≤ 30) && (endB List.length x.fields && x.fields.all fieldB))))) := rfl
  have HM : Hid (mshB x.name = (x.name.toList == [77, 83, 72])) := rfl
  cases hn : nameB x.name
  · have HX : Hid (segB first x = false) := by rw [HR.out, hn]; rfl
    have HN := hide hn
    clear hn
    go_enter Tryd.func39, Tryd.ntmps39
    go_wp2_with fail
    refine (segName_any x.name _ hns).mono ?_
    rintro e w' ⟨rfl, rfl⟩
    rw [HN.out]
    go_wp2_with fail
    go_ret
    exact ⟨ret_bool HX.out.symm, hb⟩
  · have HN := hide hn
    clear hn
    by_cases hm : mshB x.name = first
    · have hm' : (x.name.toList == [77, 83, 72]) = first := by rw [← HM.out]; exact hm
      have HR2 : Hid (segB first x = (decide (x.fields.length ≤ 30) && (endB List.length x.fields && x.fields.all fieldB))) := by rw [HR.out, HN.out, hm, beq_self_eq_true, Bool.true_and, Bool.true_and]; trivial
      clear hm
      by_cases h30 : (30 : Int) < (x.fields.length : Int)
      · go_enter Tryd.func39, Tryd.ntmps39
        go_wp2_with fail
        refine (segName_any x.name _ hns).mono ?_
        rintro e w' ⟨rfl, rfl⟩
        rw [HN.out]
        go_wp2_with fail
        go_ret
        exact ⟨ret_bool (by rw [HR2.out, decide_eq_false (by omega)]; rfl), hb⟩
      · have HLoop : Hid (endB List.length x.fields = true → segB first x = x.fields.all fieldB) := fun he => by rw [HR2.out, he, decide_eq_true (by omega)]; rfl
        by_cases h0 : x.fields.length = 0
        · have hz : ¬ (0 : Int) < (x.fields.length : Int) := by omega
          have HE := hide (endB_nil List.length x.fields h0)
          have hx : x.fields = [] := List.length_eq_zero_iff.1 h0
          have HX : Hid (segB first x = true) := by rw [HLoop.out HE.out, hx]; rfl
          clear hx h0
          go_enter Tryd.func39, Tryd.ntmps39
          go_wp2_with fail
          refine (segName_any x.name _ hns).mono ?_
          rintro e w' ⟨rfl, rfl⟩
          rw [HN.out]
          go_wp2_with fail
          go_loop [6] (fun i => i = .int .i64 0) (fun _ => 0)
          case atStart => rfl
          case round =>
            subst hrel
            go_wp2_with fail
            go_ret
            exact ⟨ret_bool HX.out.symm, hb⟩
        · have hz : (0 : Int) < (x.fields.length : Int) := by omega
          have hi : x.fields.length - 1 < x.fields.length := by omega
          obtain ⟨b, off, rfl, _, hbl, ve, hcell, hel⟩ := HC.out (x.fields.length - 1) hi
          have hlast : (w.alloc (Obj.cells #[.string x.name, .slice (some ⟨b, off, none⟩) x.fields.length cap] 44)).cell? ⟨b, off + (x.fields.length - 1), none⟩ = some ve := by simpa using hcell
          have HE : Hid (endB List.length x.fields = decide (0 < (x.fields[x.fields.length - 1]'hi).length)) := endB_at List.length x.fields (by omega)
          have hsz : (x.fields[x.fields.length - 1]'hi).length ≤ 9223372036854775807 := hel.1
          obtain ⟨a5, cap5, rfl, _⟩ := hel.form
          clear hcell hel
          generalize x.fields[x.fields.length - 1]'hi = z at *
          have hn1 : ((x.fields.length : Int) - 1).toNat = x.fields.length - 1 := by omega
          by_cases hl0 : z.length = 0
          · have hl' : ((z.length : Int) == 0) = true := by rw [beq_iff_eq]; omega
            have HX : Hid (segB first x = false) := by rw [HR2.out, HE.out, decide_eq_false (p := 0 < z.length) (by omega), Bool.false_and, Bool.and_false]; trivial
            clear hl0
            go_enter Tryd.func39, Tryd.ntmps39
            go_wp2_with fail
            refine (segName_any x.name _ hns).mono ?_
            rintro e w' ⟨rfl, rfl⟩
            rw [HN.out]
            go_wp2_with fail
            go_ret
            exact ⟨ret_bool HX.out.symm, hb⟩
          · have hl' : ((z.length : Int) == 0) = false := by rw [beq_eq_false_iff_ne]; omega
            have HX : Hid (segB first x = x.fields.all fieldB) := HLoop.out (by rw [HE.out]; exact decide_eq_true (by omega))
            clear hl0
            go_enter Tryd.func39, Tryd.ntmps39
            go_wp2_with fail
            refine (segName_any x.name _ hns).mono ?_
            rintro e w' ⟨rfl, rfl⟩
            rw [HN.out]
            go_wp2_with fail
            clear hl' hlast hsz hn1 hm'
            go_loopw [6] (fun i wr => ∃ k : Nat, k ≤ x.fields.length ∧ i = .int .i64 k ∧ (x.fields.take k).all fieldB = true ∧ Below (w.heap.size + 1) (w.alloc (Obj.cells #[.string x.name, .slice (some ⟨b, off, none⟩) x.fields.length cap] 44)) wr) (fun i _ => x.fields.length - (intOf i).toNat)
            case atStart => exact ⟨0, Nat.zero_le _, rfl, rfl, Below.refl _ _⟩
            case round =>
              obtain ⟨k, hk, rfl, hall, hbr⟩ := hrel
              have HA := hide hall
              clear hall
              have hbw : Below w.heap.size w wr := hb.trans (hbr.mono (by omega))
              have hbox : wr.cell? ⟨w.heap.size, 1, none⟩ = some (.slice (some ⟨b, off, none⟩) x.fields.length cap) := by rw [hbr.cell (p := ⟨w.heap.size, 1, none⟩) (by simp)]; exact HBX.out
              have hbr' : Below (w.alloc (Obj.cells #[.string x.name, .slice (some ⟨b, off, none⟩) x.fields.length cap] 44)).heap.size (w.alloc (Obj.cells #[.string x.name, .slice (some ⟨b, off, none⟩) x.fields.length cap] 44)) wr := by simpa using hbr
              by_cases hlt : k < x.fields.length
              · obtain ⟨b', off', e, _, hbl', ve, hcell, hel⟩ := HC.out k hlt
                simp only [Option.some.injEq, Addr.mk.injEq, and_true] at e
                obtain ⟨rfl, rfl⟩ := e
                have hcell' : wr.cell? ⟨b, off + k, none⟩ = some ve := by rw [hbr'.cell (p := ⟨b, off + k, none⟩) hbl']; simpa using hcell
                have hel' := At.kept kept_rep hel hbr'
                clear hcell hel
                go_wp2_with fail
                refine (fieldOk_any x.fields[k] ve _ hel').mono ?_
                rintro e w2 ⟨rfl, hb2⟩
                have hb3 : Below (w.heap.size + 1) (w.alloc (Obj.cells #[.string x.name, .slice (some ⟨b, off, none⟩) x.fields.length cap] 44)) w2 := hbr.trans (hb2.mono (by have := hbr.size; simp at this; omega))
                clear hbr hbr' hb2 hcell' hel' hbox
                cases hp : fieldB x.fields[k]
                · have HF := hide (all_fail hlt hp)
                  clear hp
                  go_wp2_with fail
                  go_ret
                  exact ⟨ret_bool (by rw [HX.out, HF.out]), hb.trans (hb3.mono (by omega))⟩
                · have HF := hide (all_step hlt HA.out hp)
                  clear hp
                  go_wp2_with fail
                  go_roundw
                  case rel => exact ⟨k + 1, by omega, by go_num, HF.out, hb3⟩
                  case measure => simp [intOf]; omega
              · have HF := hide (all_done (by omega) HA.out)
                go_wp2_with fail
                go_ret
                exact ⟨ret_bool (by rw [HX.out, HF.out]), hbw⟩
    · have hm' : (x.name.toList == [77, 83, 72]) = !first := by rw [← HM.out]; revert hm; cases mshB x.name <;> cases first <;> simp
      have HX : Hid (segB first x = false) := by rw [HR.out, beq_eq_false_iff_ne.2 hm, Bool.false_and, Bool.and_false]; trivial
      clear hm
      go_enter Tryd.func39, Tryd.ntmps39
      go_wp2_with fail
      refine (segName_any x.name _ hns).mono ?_
      rintro e w' ⟨rfl, rfl⟩
      rw [HN.out]
      go_wp2_with fail
      go_ret
      exact ⟨ret_bool HX.out.symm, hb⟩
end Go.Proofs.YtcphfhfockjljaaDoor.Msg

namespace Go.Proofs.YtcphfhfockjljaaDoor.Msg
open Go.ChangeShapes Go.WideShapes Go.ChangeAt Go.RowKit
set_option linter.unusedVariables false
set_option linter.unusedSimpArgs false

def u8s (bs : List UInt8) : List Value := bs.map fun c => .int .u8 c.toNat
/-- a slice of bytes that the call owns, from block 'base' on -/
def Buf (base : Nat) (w : World) (v : Value) (bs : List UInt8) : Prop := w.ownsRow base 5 1 v bs.length (u8s bs)
theorem info_u8 : (Tryd.prog.info? 5).map (fun i => (i.zero, i.size, i.bytes)) = some (some (.int .u8 0), 1, 1) := by kernel_rfl
theorem u8_facts : ∃ i, Tryd.prog.info? 5 = some i ∧ i.zero = some (.int .u8 0) ∧ i.size = 1 ∧ i.bytes = 1 := by
  have h := info_u8
  cases hi : Tryd.prog.info? 5 with
  | none => rw [hi] at h; cases h
  | some i =>
    rw [hi] at h
    simp only [Option.map_some, Option.some.injEq, Prod.mk.injEq] at h
    exact ⟨i, rfl, h.1, h.2.1, h.2.2⟩
theorem Buf.alloc {base : Nat} {w : World} {v : Value} {bs : List UInt8} (h : Buf base w v bs) (o : Obj) : Buf base (w.alloc o) v bs := World.ownsRow.alloc h o

/-- nothing but the slice's own row has turned; the new slice lies there, or in a new block -/
def Grew (w : World) (v : Value) (w' : World) (u : Value) : Prop := w.grownBy w' v.ownBlock ∧ (u.ownBlock = v.ownBlock ∨ ∃ g, u.ownBlock = some g ∧ w.heap.size ≤ g)
theorem Grew.refl (w : World) (v : Value) : Grew w v w v := ⟨⟨rfl, rfl, rfl, Nat.le_refl _, fun _ _ _ => rfl⟩, .inl rfl⟩
theorem Grew.trans {w w1 w2 : World} {v v1 v2 : Value} (h : Grew w v w1 v1) (k : Grew w1 v1 w2 v2) : Grew w v w2 v2 := by
  obtain ⟨a, b⟩ := h
  obtain ⟨c, d⟩ := k
  refine ⟨⟨c.os.trans a.os, c.tape.trans a.tape, c.output.trans a.output, Nat.le_trans a.size c.size, fun x hx hn => ?_⟩, ?_⟩
  · refine (c.block x (Nat.lt_of_lt_of_le hx a.size) ?_).trans (a.block x hx hn)
    rcases b with b | ⟨g, b, hg⟩
    · rw [b]; exact hn
    · rw [b]; intro e; injection e with e; omega
  · rcases d with d | ⟨g, d, hg⟩
    · rw [d]; rcases b with b | ⟨g, b, hg⟩
      · exact .inl b
      · exact .inr ⟨g, b, hg⟩
    · exact .inr ⟨g, d, Nat.le_trans a.size hg⟩
theorem Grew.alloc {w w1 : World} {v v1 : Value} (h : Grew w v w1 v1) (o : Obj) : Grew w v (w1.alloc o) v1 := by
  obtain ⟨a, b⟩ := h
  exact ⟨⟨a.os, a.tape, a.output, by rw [Deep.nblk_alloc]; exact Nat.le_succ_of_le a.size, fun x hx hn => by rw [Deep.blk_alloc_lt _ _ _ (Nat.lt_of_lt_of_le hx a.size)]; exact a.block x hx hn⟩, b⟩
theorem Grew.below {w w1 : World} {v v1 : Value} {base : Nat} (h : Grew w v w1 v1) (hb : base ≤ v.ownBlock.getD base) (hs : base ≤ w.heap.size) : Below base w w1 :=
  ⟨h.1.os, h.1.tape, h.1.output, h.1.size, fun k hk => h.1.block k (by omega) (by intro e; rw [← e] at hb; simp at hb; omega)⟩
/-- a block that is not the slice's own is as it was -/
theorem Grew.block {w w1 : World} {v v1 : Value} (h : Grew w v w1 v1) {b : Nat} (hb : b < w.heap.size) (hn : v.ownBlock ≠ some b) : w1.heap[b]? = w.heap[b]? := h.1.block b hb (fun e => hn e.symm)

/-- behind an append of one byte -/
theorem Buf.snoc {base : Nat} {w wr w' : World} {v0 v v' : Value} {bs : List UInt8} (c : UInt8) (o : Obj) (hb : Grew w v0 wr v)
    {n : Nat} (hl : n = bs.length) (h : w'.ownsRow base 5 1 v' (n + 1) (u8s bs ++ [.int .u8 c.toNat])) (hg : (wr.alloc o).grownBy w' v.ownBlock) (hat : v'.ownBlock = v.ownBlock ∨ v'.ownBlock = some (wr.heap.size + 1)) :
    Buf base w' v' (bs ++ [c]) ∧ Grew w v0 w' v' := by
  subst hl
  refine ⟨by unfold Buf; simpa [u8s] using h, (hb.alloc o).trans ⟨hg, ?_⟩⟩
  rcases hat with hat | hat
  · exact .inl hat
  · exact .inr ⟨_, hat, by rw [Deep.nblk_alloc]; exact Nat.le_refl _⟩

theorem Buf.own {base : Nat} {w : World} {v : Value} {bs : List UInt8} (h : Buf base w v bs) : base ≤ v.ownBlock.getD base := by
  obtain ⟨_, ⟨rfl, _⟩ | ⟨g, cap, cur, rfl, hg, _⟩⟩ := h
  · simp [Value.ownBlock]
  · simpa [Value.ownBlock] using hg

theorem new_cell (w : World) (x : Value) (t : TypeId) : ∀ (j : Nat) (u : Value), [x][j]? = some u → (w.alloc (.cells #[x] t)).cell? ((⟨w.heap.size, 0, none⟩ : Addr).add j) = some u := by
  intro j u hj
  cases j with
  | zero =>
    simp at hj
    subst hj
    simp [Addr.add]
  | succ j => simp at hj
theorem one_u8 (n : Int) : ∀ u ∈ [Value.int .u8 n], u.oneCell' = true := by
  intro u hu
  simp at hu
  subst hu
  rfl

theorem take_snoc (s : ByteArray) (k : Nat) (h : k < s.size) : s.data.toList.take (k + 1) = s.data.toList.take k ++ [s[k]] := by
  rw [List.take_succ_eq_append_getElem (by simpa using h)]; rfl

set_option maxRecDepth 100000 in
set_option maxHeartbeats 400000 in
theorem put_any (base : Nat) (bs : List UInt8) (s : ByteArray) (v : Value) (w : World) (hown : Buf base w v bs) (hbase : base ≤ w.heap.size) (hl : bs.length + s.size ≤ 70368744177664) :
    Calls Tryd.prog 29 #[v, .string s] w fun e w' => ∃ u, e = .returned u ∧ Buf base w' u (bs ++ s.data.toList) ∧ Grew w v w' u := by
  obtain ⟨i0, hi, hz0, hz1, hz2⟩ := u8_facts
  go_enter Tryd.func29, Tryd.ntmps29
  go_wp2
  go_loopw [0, 5] (fun v1 i wr => ∃ k : Nat, k ≤ s.size ∧ i = .int .i64 k ∧ Buf base wr v1 (bs ++ s.data.toList.take k) ∧ Grew w v wr v1) (fun _ i _ => s.size - (intOf i).toNat)
  case atStart => exact ⟨0, Nat.zero_le _, rfl, by simpa using hown, Grew.refl _ _⟩
  case round =>
    obtain ⟨k, hk, rfl, hbuf, hb⟩ := hrel
    by_cases hlt : k < s.size
    · have HT := hide (take_snoc s k hlt)
      have hlen : (bs ++ s.data.toList.take k).length ≤ bs.length + k := by simp; omega
      have hz : base ≤ wr.heap.size := Nat.le_trans hbase hb.1.size
      go_wp2_with (first
        | (at_builtin; refine wpList_append_own_at _ rfl _ _ 22 rfl base 5 i0 (.int .u8 0) 1 1 Tryd.underlying22 hi hz0 hz1 hz2 rfl (by decide) _ _ _ rfl (World.ownsRow.alloc hbuf _) ⟨wr.heap.size, 0, none⟩ 1 1 [.int .u8 s[k].toNat] rfl rfl ?c1 ?c2 ?c3 ?c4 ?c5 ?_)
        | go_in)
      case c1 => exact new_cell _ _ _
      case c2 => exact one_u8 _
      case c3 => unfold maxLen; omega
      case c4 => omega
      case c5 => simp; omega
      · intro v' w' hown' hgrow hnil hat
        have R := Buf.snoc (bs := bs ++ s.data.toList.take k) s[k] _ hb (by simp; omega) hown' hgrow hat
        clear hown' hgrow hnil hat hbuf hb
        go_wp2
        go_roundw
        case rel => exact ⟨k + 1, by omega, by go_num, by rw [HT.out, ← List.append_assoc]; exact R.1, R.2⟩
        case measure => simp [intOf]; omega
    · go_wp2
      go_ret
      exact ⟨_, rfl, by rw [List.take_of_length_le (by simp; omega)] at hbuf; exact hbuf, hb⟩
end Go.Proofs.YtcphfhfockjljaaDoor.Msg

namespace Go.Proofs.YtcphfhfockjljaaDoor.Msg
open Go.ChangeShapes Go.WideShapes Go.ChangeAt Go.RowKit
set_option linter.unusedVariables false
set_option linter.unusedSimpArgs false

/-- a byte of a component, as it is written -/
def esc (c : UInt8) : List UInt8 :=
  if c.toNat = 124 then [92, 70, 92] else if c.toNat = 94 then [92, 83, 92] else if c.toNat = 38 then [92, 84, 92] else if c.toNat = 126 then [92, 82, 92] else if c.toNat = 92 then [92, 69, 92] else [c]
def escs (l : List UInt8) : List UInt8 := l.flatMap esc
theorem esc_le (c : UInt8) : (esc c).length ≤ 3 := by
  unfold esc
  repeat (split; · decide)
  simp
theorem escs_snoc (l : List UInt8) (c : UInt8) : escs (l ++ [c]) = escs l ++ esc c := by simp [escs]
theorem escs_le (l : List UInt8) : (escs l).length ≤ 3 * l.length := by
  induction l with
  | nil => simp [escs]
  | cons c l ih =>
    have h := esc_le c
    simp only [escs, List.flatMap_cons, List.length_append, List.length_cons] at ih ⊢
    omega

set_option maxRecDepth 100000 in
set_option maxHeartbeats 1000000 in
theorem escaped_any (base : Nat) (bs : List UInt8) (s : ByteArray) (v : Value) (w : World) (hown : Buf base w v bs) (hbase : base ≤ w.heap.size) (hl : bs.length + 3 * s.size ≤ 70368744177664) :
    Calls Tryd.prog 30 #[v, .string s] w fun e w' => ∃ u, e = .returned u ∧ Buf base w' u (bs ++ escs s.data.toList) ∧ Grew w v w' u := by
  obtain ⟨i0, hi, hz0, hz1, hz2⟩ := u8_facts
  go_enter Tryd.func30, Tryd.ntmps30
  go_wp2
  go_loopw [0, 5] (fun v1 i wr => ∃ k : Nat, k ≤ s.size ∧ i = .int .i64 k ∧ Buf base wr v1 (bs ++ escs (s.data.toList.take k)) ∧ Grew w v wr v1) (fun _ i _ => s.size - (intOf i).toNat)
  case atStart => exact ⟨0, Nat.zero_le _, rfl, by simpa [escs] using hown, Grew.refl _ _⟩
  case round =>
    obtain ⟨k, hk, rfl, hbuf, hb⟩ := hrel
    by_cases hlt : k < s.size
    · have HT : Hid (bs ++ escs (s.data.toList.take (k + 1)) = (bs ++ escs (s.data.toList.take k)) ++ esc s[k]) := by rw [take_snoc s k hlt, escs_snoc, List.append_assoc]; trivial
      have hlen : (bs ++ escs (s.data.toList.take k)).length ≤ bs.length + 3 * k := by
        have := escs_le (s.data.toList.take k)
        have h2 : (s.data.toList.take k).length ≤ k := List.length_take_le _ _
        rw [List.length_append]; omega
      have hz : base ≤ wr.heap.size := Nat.le_trans hbase hb.1.size
      have HE : Hid (∀ d : List UInt8, d = esc s[k] → bs ++ escs (s.data.toList.take k) ++ d = bs ++ escs (s.data.toList.take (k + 1))) := fun d hd => by rw [HT.out, hd]
      have HU : Hid (esc s[k] = if s[k].toNat = 124 then [92, 70, 92] else if s[k].toNat = 94 then [92, 83, 92] else if s[k].toNat = 38 then [92, 84, 92] else if s[k].toNat = 126 then [92, 82, 92] else if s[k].toNat = 92 then [92, 69, 92] else [s[k]]) := rfl
      generalize hB : bs ++ escs (s.data.toList.take k) = B at *
      clear HT hB
      by_cases h1 : s[k].toNat = 124
      · have h1' : ((s[k].toNat : Int) == 124) = true := by simp; omega
        have H1 := hide h1
        clear h1
        go_wp2_with fail
        refine (put_any base B ⟨#[92, 70, 92]⟩ _ _ hbuf hz (by have : (⟨#[92, 70, 92]⟩ : ByteArray).size = 3 := rfl; omega)).mono ?_
        rintro e w2 ⟨u, rfl, hu, hb2⟩
        go_wp2_with fail
        go_roundw
        case rel => exact ⟨k + 1, by omega, by go_num, by rw [← HE.out _ (by rw [HU.out, if_pos H1.out])]; exact hu, hb.trans hb2⟩
        case measure => simp [intOf]; omega
      have h1' : ((s[k].toNat : Int) == 124) = false := by simp; omega
      have H1 := hide h1
      clear h1
      by_cases h2 : s[k].toNat = 94
      · have h2' : ((s[k].toNat : Int) == 94) = true := by simp; omega
        have H2 := hide h2
        clear h2
        go_wp2_with fail
        refine (put_any base B ⟨#[92, 83, 92]⟩ _ _ hbuf hz (by have : (⟨#[92, 83, 92]⟩ : ByteArray).size = 3 := rfl; omega)).mono ?_
        rintro e w2 ⟨u, rfl, hu, hb2⟩
        go_wp2_with fail
        go_roundw
        case rel => exact ⟨k + 1, by omega, by go_num, by rw [← HE.out _ (by rw [HU.out, if_neg H1.out, if_pos H2.out])]; exact hu, hb.trans hb2⟩
        case measure => simp [intOf]; omega
      have h2' : ((s[k].toNat : Int) == 94) = false := by simp; omega
      have H2 := hide h2
      clear h2
      by_cases h3 : s[k].toNat = 38
      · have h3' : ((s[k].toNat : Int) == 38) = true := by simp; omega
        have H3 := hide h3
        clear h3
        go_wp2_with fail
        refine (put_any base B ⟨#[92, 84, 92]⟩ _ _ hbuf hz (by have : (⟨#[92, 84, 92]⟩ : ByteArray).size = 3 := rfl; omega)).mono ?_
        rintro e w2 ⟨u, rfl, hu, hb2⟩
        go_wp2_with fail
        go_roundw
        case rel => exact ⟨k + 1, by omega, by go_num, by rw [← HE.out _ (by rw [HU.out, if_neg H1.out, if_neg H2.out, if_pos H3.out])]; exact hu, hb.trans hb2⟩
        case measure => simp [intOf]; omega
      have h3' : ((s[k].toNat : Int) == 38) = false := by simp; omega
      have H3 := hide h3
      clear h3
      by_cases h4 : s[k].toNat = 126
      · have h4' : ((s[k].toNat : Int) == 126) = true := by simp; omega
        have H4 := hide h4
        clear h4
        go_wp2_with fail
        refine (put_any base B ⟨#[92, 82, 92]⟩ _ _ hbuf hz (by have : (⟨#[92, 82, 92]⟩ : ByteArray).size = 3 := rfl; omega)).mono ?_
        rintro e w2 ⟨u, rfl, hu, hb2⟩
        go_wp2_with fail
        go_roundw
        case rel => exact ⟨k + 1, by omega, by go_num, by rw [← HE.out _ (by rw [HU.out, if_neg H1.out, if_neg H2.out, if_neg H3.out, if_pos H4.out])]; exact hu, hb.trans hb2⟩
        case measure => simp [intOf]; omega
      have h4' : ((s[k].toNat : Int) == 126) = false := by simp; omega
      have H4 := hide h4
      clear h4
      by_cases h5 : s[k].toNat = 92
      · have h5' : ((s[k].toNat : Int) == 92) = true := by simp; omega
        have H5 := hide h5
        clear h5
        go_wp2_with fail
        refine (put_any base B ⟨#[92, 69, 92]⟩ _ _ hbuf hz (by have : (⟨#[92, 69, 92]⟩ : ByteArray).size = 3 := rfl; omega)).mono ?_
        rintro e w2 ⟨u, rfl, hu, hb2⟩
        go_wp2_with fail
        go_roundw
        case rel => exact ⟨k + 1, by omega, by go_num, by rw [← HE.out _ (by rw [HU.out, if_neg H1.out, if_neg H2.out, if_neg H3.out, if_neg H4.out, if_pos H5.out])]; exact hu, hb.trans hb2⟩
        case measure => simp [intOf]; omega
      have h5' : ((s[k].toNat : Int) == 92) = false := by simp; omega
      have H5 := hide h5
      clear h5
      go_wp2_with (first
        | (at_builtin; refine wpList_append_own_at _ rfl _ _ 22 rfl base 5 i0 (.int .u8 0) 1 1 Tryd.underlying22 hi hz0 hz1 hz2 rfl (by decide) _ _ _ rfl (World.ownsRow.alloc hbuf _) ⟨wr.heap.size, 0, none⟩ 1 1 [.int .u8 s[k].toNat] rfl rfl ?c1 ?c2 ?c3 ?c4 ?c5 ?_)
        | go_in)
      case c1 => exact new_cell _ _ _
      case c2 => exact one_u8 _
      case c3 => unfold maxLen; omega
      case c4 => omega
      case c5 => simp; omega
      · intro v' w' hown' hgrow hnil hat
        have R := Buf.snoc (bs := B) s[k] _ hb rfl hown' hgrow hat
        clear hown' hgrow hnil hat hbuf hb
        go_wp2
        go_roundw
        case rel => exact ⟨k + 1, by omega, by go_num, by rw [← HE.out _ (by rw [HU.out, if_neg H1.out, if_neg H2.out, if_neg H3.out, if_neg H4.out, if_neg H5.out])]; exact R.1, R.2⟩
        case measure => simp [intOf]; omega
    · go_wp2
      go_ret
      exact ⟨_, rfl, by rw [List.take_of_length_le (by simp; omega)] at hbuf; exact hbuf, hb⟩
end Go.Proofs.YtcphfhfockjljaaDoor.Msg
