import Derived.Test.YtebdfmijlnkcbaaGreatDoorQryImpl
import Derived.Test.YtebdfmijlnkcbaaGreatDoorQryNumI
import Derived.Test.YtebdfmijlnkcbaaGreatDoorImplGet
import Derived.Deep.RegionHeld3
namespace Go.Proofs.YtebdfmijlnkcbaaGreatDoor.Msg
open Go.ChangeShapes Go.WideShapes Go.ChangeAt Go.RowKit
set_option linter.unusedVariables false
set_option linter.unusedSimpArgs false

/-- a message that lies in a world, and what Get gives of it in any later one -/
def Got (w : World) (v : Value) (xs : List Seg) : Prop := ∀ (W : World) (n : ByteArray) (f c : Int), Below w.heap.size w W → n.size ≤ 3 → 0 ≤ f → f ≤ 20 → 0 ≤ c → c ≤ 20 →
  Calls Tryz.prog 25 #[.agg #[v], .string n, .int .i64 f, .int .i64 c] W fun e W' => e = .returned (.string (getFrom xs n f c)) ∧ Below W.heap.size W W'
theorem got_of {xs : List Seg} {v : Value} {w : World} {lo : Nat} (hv : SegsAt lo w v xs) (hsz : msgSz xs ≤ 1048576) : Got w v xs := fun W n f c hb hn h1 h2 h3 h4 =>
  getImpl_any xs n f c v W (by omega) (by unfold msgSz lenSum at hsz; omega) (by omega) (by omega) (by omega) (by omega) (At.kept kept_seg hv hb) hsz
theorem Got.kept {w W : World} {v : Value} {xs : List Seg} (h : Got w v xs) (hb : Below w.heap.size w W) : Got W v xs := fun W' n f c hb' => h W' n f c (bjoin hb' hb)
def known (s : ByteArray) : ByteArray := if controlB s then s else ⟨#[]⟩

set_option maxHeartbeats 400000 in
theorem knownControl_any (xs : List Seg) (v : Value) (w : World) (hG : Got w v xs) (hsz : msgSz xs ≤ 1048576) :
    Calls Tryz.prog 19 #[.agg #[v]] w fun e w' => e = .returned (.string (known (getFrom xs ⟨#[77, 83, 72]⟩ 10 1))) ∧ Below w.heap.size w w' := by
  have hb0 := (Below.refl w.heap.size w).alloc (Nat.le_refl _) (Obj.cells #[v] 32)
  have HG := hide (hG _ ⟨#[77, 83, 72]⟩ 10 1 hb0 (by decide) (by omega) (by omega) (by omega) (by omega))
  have hz := getFrom_sz xs ⟨#[77, 83, 72]⟩ 10 1
  obtain ⟨ct, hct⟩ : ∃ ct, getFrom xs ⟨#[77, 83, 72]⟩ 10 1 = ct := ⟨_, rfl⟩
  rw [hct] at HG hz ⊢
  clear hct hG
  have hz2 : ct.size ≤ 9223372036854775807 := by omega
  cases hc : controlB ct
  · have HX : Hid (known ct = ⟨#[]⟩) := by unfold known; rw [hc]; rfl
    go_enter Tryz.func19, Tryz.ntmps19
    go_wp2_with fail
    refine HG.out.mono ?_
    rintro e w1 ⟨rfl, hb1'⟩
    have hb1 := bjoin hb1' hb0
    go_wp2_with (go_at_call 31; refine (isControl_any ct _ hz2).mono ?_; rintro e w' ⟨rfl, rfl⟩; rw [hc])
    go_ret
    exact ⟨ret_string HX.out.symm, hb1⟩
  · have HX : Hid (known ct = ct) := by unfold known; rw [hc]; rfl
    go_enter Tryz.func19, Tryz.ntmps19
    go_wp2_with fail
    refine HG.out.mono ?_
    rintro e w1 ⟨rfl, hb1'⟩
    have hb1 := bjoin hb1' hb0
    go_wp2_with (go_at_call 31; refine (isControl_any ct _ hz2).mono ?_; rintro e w' ⟨rfl, rfl⟩; rw [hc])
    go_ret
    exact ⟨ret_string HX.out.symm, hb1⟩

def pageI (s : ByteArray) : Int := if s.toList == [] then 10 else numI s.data.toList
set_option maxHeartbeats 400000 in
theorem loosePage_any (xs : List Seg) (v : Value) (w : World) (hG : Got w v xs) (hsz : msgSz xs ≤ 1048576) (hE : Env w) :
    Calls Tryz.prog 37 #[.agg #[v]] w fun e w' => e = .returned (.int .i64 (pageI (getFrom xs ⟨#[82, 67, 80]⟩ 2 1))) ∧ Below w.heap.size w w' := by
  have hb0 := (Below.refl w.heap.size w).alloc (Nat.le_refl _) (Obj.cells #[v] 32)
  have HG := hide (hG _ ⟨#[82, 67, 80]⟩ 2 1 hb0 (by decide) (by omega) (by omega) (by omega) (by omega))
  have hz := getFrom_sz xs ⟨#[82, 67, 80]⟩ 2 1
  obtain ⟨ct, hct⟩ : ∃ ct, getFrom xs ⟨#[82, 67, 80]⟩ 2 1 = ct := ⟨_, rfl⟩
  rw [hct] at HG hz ⊢
  have HE := hide hE
  clear hct hG hE
  have hz2 : ct.size ≤ 1048576 := by omega
  cases hc : (ct.toList == [])
  · have HX : Hid (pageI ct = numI ct.data.toList) := by unfold pageI; rw [hc]; rfl
    go_enter Tryz.func37, Tryz.ntmps37
    go_wp2_with fail
    refine HG.out.mono ?_
    rintro e w1 ⟨rfl, hb1'⟩
    have hb1 := bjoin hb1' hb0
    have HE1 := hide (HE.out.kept hb1)
    go_wp2_with (go_at_call 49; refine (numberOf_any ct _ hz2 HE1.out).mono ?_; rintro e w2 ⟨rfl, hb2⟩)
    go_ret
    exact ⟨ret_int HX.out.symm, bjoin hb2 hb1⟩
  · have HX : Hid (pageI ct = 10) := by unfold pageI; rw [hc]; rfl
    go_enter Tryz.func37, Tryz.ntmps37
    go_wp2_with fail
    refine HG.out.mono ?_
    rintro e w1 ⟨rfl, hb1'⟩
    have hb1 := bjoin hb1' hb0
    go_wp2_with fail
    go_ret
    exact ⟨ret_int HX.out.symm, hb1⟩

/-- the letter that stands in a message -/
def looseV (kind control idt tag query pointer : ByteArray) (page : Int) : Value :=
  if kind.toList == [81, 67, 78] then .iface 90 (.agg #[.string control, .string idt])
  else if pointer.toList == [] then .iface 95 (.agg #[.string control, .string tag, .string query, .int .i64 page])
  else .iface 92 (.agg #[.string control, .string tag, .string query, .string pointer])
theorem ret_val {a b : Value} (h : a = b) : Ending.returned a = .returned b := by rw [h]
set_option maxRecDepth 100000 in
set_option maxHeartbeats 4000000 in
theorem looseRequest_any (xs : List Seg) (kind control : ByteArray) (v : Value) (w : World) (hG : Got w v xs) (hsz : msgSz xs ≤ 1048576) (hE : Env w) :
    Calls Tryz.prog 26 #[.agg #[v], .string kind, .string control] w fun e w' => e = .returned (looseV kind control (getFrom xs ⟨#[81, 73, 68]⟩ 1 1) (getFrom xs ⟨#[81, 80, 68]⟩ 2 1) (getFrom xs ⟨#[81, 80, 68]⟩ 3 1) (getFrom xs ⟨#[68, 83, 67]⟩ 1 1) (pageI (getFrom xs ⟨#[82, 67, 80]⟩ 2 1))) ∧ Below w.heap.size w w' := by
  have hb0 := (Below.refl w.heap.size w).alloc (Nat.le_refl _) (Obj.cells #[v] 32)
  obtain ⟨w1, hw1⟩ : ∃ w1, w.alloc (Obj.cells #[v] 32) = w1 := ⟨_, rfl⟩
  rw [hw1] at hb0
  have hcv : w1.cell? ⟨w.heap.size, 0, none⟩ = some v := by rw [← hw1]; simp
  have HG := hide (hG.kept hb0)
  have HE := hide (hE.kept hb0)
  have HB0 := hide hb0
  have hlt := lt_of_cell hcv
  have HOLD : Hid (∀ W, Below w1.heap.size w1 W → W.cell? ⟨w.heap.size, 0, none⟩ = some v ∧ Below w1.heap.size w1 W) := fun W h => ⟨by rw [h.cell (p := ⟨w.heap.size, 0, none⟩) hlt]; exact hcv, h⟩
  have HPG : Hid (∀ W, Below w1.heap.size w1 W → Calls Tryz.prog 37 #[.agg #[v]] W fun e w' => e = .returned (.int .i64 (pageI (getFrom xs ⟨#[82, 67, 80]⟩ 2 1))) ∧ Below W.heap.size W w') := fun W hb => loosePage_any xs v W (HG.out.kept hb) hsz (HE.out.kept hb)
  obtain ⟨idt, h1⟩ : ∃ z, getFrom xs ⟨#[81, 73, 68]⟩ 1 1 = z := ⟨_, rfl⟩
  obtain ⟨tag, h2⟩ : ∃ z, getFrom xs ⟨#[81, 80, 68]⟩ 2 1 = z := ⟨_, rfl⟩
  obtain ⟨query, h3⟩ : ∃ z, getFrom xs ⟨#[81, 80, 68]⟩ 3 1 = z := ⟨_, rfl⟩
  obtain ⟨pointer, h4⟩ : ∃ z, getFrom xs ⟨#[68, 83, 67]⟩ 1 1 = z := ⟨_, rfl⟩
  obtain ⟨page, h5⟩ : ∃ z, pageI (getFrom xs ⟨#[82, 67, 80]⟩ 2 1) = z := ⟨_, rfl⟩
  rw [h5] at HPG
  rw [h1, h2, h3, h4, h5]
  have E1 := hide h1
  have E2 := hide h2
  have E3 := hide h3
  have E4 := hide h4
  clear h1 h2 h3 h4 h5 hG hE hb0
  have hd := (Below.refl w1.heap.size w1).drew
  cases hk : (kind.toList == [81, 67, 78])
  · have HX : Hid (looseV kind control idt tag query pointer page = if pointer.toList == [] then .iface 95 (.agg #[.string control, .string tag, .string query, .int .i64 page]) else .iface 92 (.agg #[.string control, .string tag, .string query, .string pointer])) := by unfold looseV; rw [hk]; rfl
    go_enter Tryz.func26, Tryz.ntmps26
    go_wp2_with fail
    go_region_held3 (fun W => W.cell? ⟨w.heap.size, 0, none⟩ = some v ∧ Below w1.heap.size w1 W)
      (first | exact HOLD.out _ hd | exact HOLD.out _ hbA | exact HOLD.out _ hbB | exact HOLD.out _ hbC)
      (first
        | (go_at_call 25; refine (HG.out _ _ _ _ hbB (by decide) (by decide) (by decide) (by decide) (by decide)).mono ?_; rintro e w4 ⟨rfl, hb4⟩; rw [E4.out]; have hbC := bjoin hb4 hbB)
        | (go_at_call 25; refine (HG.out _ _ _ _ hbA (by decide) (by decide) (by decide) (by decide) (by decide)).mono ?_; rintro e w3 ⟨rfl, hb3⟩; rw [E3.out]; have hbB := bjoin hb3 hbA)
        | (go_at_call 25; refine (HG.out _ _ _ _ hd (by decide) (by decide) (by decide) (by decide) (by decide)).mono ?_; rintro e w2 ⟨rfl, hb2⟩; rw [E2.out]; have hbA := bjoin hb2 hd))
    cases hp : (pointer.toList == [])
    · have HY : Hid (.iface 92 (.agg #[.string control, .string tag, .string query, .string pointer]) = looseV kind control idt tag query pointer page) := by rw [HX.out, hp]; rfl
      go_wp2_with fail
      go_ret
      exact ⟨ret_val HY.out, bjoin hbC HB0.out⟩
    · have HY : Hid (.iface 95 (.agg #[.string control, .string tag, .string query, .int .i64 page]) = looseV kind control idt tag query pointer page) := by rw [HX.out, hp]; rfl
      go_wp2_with (first | (go_at_call 37; refine (HPG.out _ hbC).mono ?_; rintro e w5 ⟨rfl, hb5⟩))
      go_ret
      exact ⟨ret_val HY.out, bjoin hb5 (bjoin hbC HB0.out)⟩
  · have HX : Hid (.iface 90 (.agg #[.string control, .string idt]) = looseV kind control idt tag query pointer page) := by unfold looseV; rw [hk]; rfl
    go_enter Tryz.func26, Tryz.ntmps26
    go_wp2_with fail
    refine (HG.out _ _ _ _ (Below.refl _ _) (by decide) (by decide) (by decide) (by decide) (by decide)).mono ?_
    rintro e w2 ⟨rfl, hb2⟩
    rw [E1.out]
    go_wp2_with fail
    go_ret
    exact ⟨ret_val HX.out, bjoin hb2 HB0.out⟩
end Go.Proofs.YtebdfmijlnkcbaaGreatDoor.Msg
