import Derived.Test.YtpdnocolmghnbaaDoorImplPure
namespace Go.Proofs.YtpdnocolmghnbaaDoor.Msg
open Go.ChangeShapes Go.WideShapes Go.ChangeAt Go.RowKit
set_option linter.unusedVariables false
set_option linter.unusedSimpArgs false

/-- what startsSegment says of a piece that is not the first -/
def startB (p : List UInt8) (m : UInt8) : Bool := decide (3 ≤ p.length) && (nameB (txt (p.take 3)) && (!(p.take 3 == [77, 83, 72]) && !((p.drop 3).head?.any (fun c => c != m))))

theorem txt_at (p : List UInt8) (i : Nat) (h : i < (txt p).size) (h2 : i < p.length) : (txt p)[i]'h = p[i]'h2 := by
  show (txt p).data[i]'h = p[i]
  simp [txt]
theorem start_cmp (p : List UInt8) (m : UInt8) (h : 3 < (txt p).size) : (!((p.drop 3).head?.any (fun c => c != m))) = ((((txt p)[3]'h).toNat : Int) == (m.toNat : Int)) := by
  have hp : 3 < p.length := by rw [txt_size] at h; exact h
  have e : (p.drop 3).head? = some (p[3]'hp) := by rw [List.head?_drop, List.getElem?_eq_getElem hp]
  rw [e, txt_at p 3 h hp]
  generalize p[3]'hp = x
  show (!(x != m)) = _
  by_cases hx : x = m
  · rw [hx]; simp
  · have h1 : (x != m) = true := by rw [bne_iff_ne]; exact hx
    rw [h1]
    symm
    show _ = false
    rw [beq_eq_false_iff_ne]
    intro h2
    exact hx (UInt8.toNat_inj.1 (by omega))
set_option maxHeartbeats 2000000 in
theorem starts_any (p : List UInt8) (i : Nat) (m : UInt8) (w : World) (hp : p.length ≤ 40000) (hi : i ≤ 1048576) :
    Calls Tryd.prog 28 #[.string (txt p), .int .i64 (i : Int), .int .u8 (m.toNat : Int)] w fun e w' => e = .returned (.bool (decide (i = 0) || startB p m)) ∧ w' = w := by
  have HTS := hide (txt_size p)
  have hps : (txt p).size ≤ 40000 := by rw [txt_size]; exact hp
  have HSB : Hid (startB p m = (decide (3 ≤ p.length) && (nameB (txt (p.take 3)) && (!(p.take 3 == [77, 83, 72]) && !((p.drop 3).head?.any (fun c => c != m)))))) := rfl
  by_cases hi0 : i = 0
  · have hi' : ((i : Int) == 0) = true := by rw [beq_iff_eq]; omega
    have HX : Hid ((decide (i = 0) || startB p m) = true) := by rw [decide_eq_true hi0]; rfl
    clear hi0
    go_enter Tryd.func28, Tryd.ntmps28
    go_wp2_with fail
    go_ret
    exact ⟨ret_bool HX.out.symm, rfl⟩
  have hi' : ((i : Int) == 0) = false := by rw [beq_eq_false_iff_ne]; omega
  have HX0 : Hid ((decide (i = 0) || startB p m) = startB p m) := by rw [decide_eq_false hi0]; rfl
  clear hi0
  by_cases h3 : ((txt p).size : Int) < 3
  · have HX : Hid (startB p m = false) := by rw [HSB.out, decide_eq_false (p := 3 ≤ p.length) (by have := HTS.out; omega)]; rfl
    go_enter Tryd.func28, Tryd.ntmps28
    go_wp2_with fail
    go_ret
    exact ⟨ret_bool (by rw [HX0.out, HX.out]), rfl⟩
  have h3' : (3 : Int) ≤ ((txt p).size : Int) := by omega
  have HTN := hide (txt_name p)
  have hns : ((txt p).extract 0 3).size ≤ 9223372036854775807 := by rw [ByteArray.size_extract]; omega
  have HS1 : Hid (startB p m = (nameB ((txt p).extract 0 3) && (!(((txt p).extract 0 3).toList == [77, 83, 72]) && !((p.drop 3).head?.any (fun c => c != m))))) := by
    rw [HSB.out, decide_eq_true (p := 3 ≤ p.length) (by have := HTS.out; omega), Bool.true_and, HTN.out, txt_toList]; trivial
  cases hnb : nameB ((txt p).extract 0 3)
  · have HX : Hid (startB p m = false) := by rw [HS1.out, hnb]; rfl
    have HNB := hide hnb
    clear hnb
    go_enter Tryd.func28, Tryd.ntmps28
    go_wp2_with fail
    refine (isSegmentName_any _ _ hns).mono ?_
    rintro e w2 ⟨rfl, rfl⟩
    rw [HNB.out]
    go_wp2_with fail
    go_ret
    exact ⟨ret_bool (by rw [HX0.out, HX.out]), rfl⟩
  have HNB := hide hnb
  cases hmm : (((txt p).extract 0 3).toList == [77, 83, 72])
  · have HS2 : Hid (startB p m = !((p.drop 3).head?.any (fun c => c != m))) := by rw [HS1.out, hnb, hmm]; rfl
    clear hnb
    by_cases h33 : (txt p).size = 3
    · have h33' : (((txt p).size : Int) == 3) = true := by rw [beq_iff_eq]; omega
      have HX : Hid (startB p m = true) := by
        rw [HS2.out, List.drop_eq_nil_of_le (by have := HTS.out; omega)]; rfl
      clear h33
      go_enter Tryd.func28, Tryd.ntmps28
      go_wp2_with fail
      refine (isSegmentName_any _ _ hns).mono ?_
      rintro e w2 ⟨rfl, rfl⟩
      rw [HNB.out]
      go_wp2_with fail
      go_ret
      exact ⟨ret_bool (by rw [HX0.out, HX.out]), rfl⟩
    · have h33' : (((txt p).size : Int) == 3) = false := by rw [beq_eq_false_iff_ne]; omega
      have h34 : (3 : Int) < ((txt p).size : Int) := by omega
      have h34n : 3 < (txt p).size := by omega
      have HX : Hid (startB p m = ((((txt p)[3]'h34n).toNat : Int) == (m.toNat : Int))) := by rw [HS2.out]; exact start_cmp p m h34n
      clear h33
      go_enter Tryd.func28, Tryd.ntmps28
      go_wp2_with fail
      refine (isSegmentName_any _ _ hns).mono ?_
      rintro e w2 ⟨rfl, rfl⟩
      rw [HNB.out]
      go_wp2_with fail
      go_ret
      exact ⟨ret_bool (by rw [HX0.out, HX.out]), rfl⟩
  · have HX : Hid (startB p m = false) := by rw [HS1.out, hnb, hmm]; rfl
    clear hnb
    go_enter Tryd.func28, Tryd.ntmps28
    go_wp2_with fail
    refine (isSegmentName_any _ _ hns).mono ?_
    rintro e w2 ⟨rfl, rfl⟩
    rw [HNB.out]
    go_wp2_with fail
    go_ret
    exact ⟨ret_bool (by rw [HX0.out, HX.out]), rfl⟩
end Go.Proofs.YtpdnocolmghnbaaDoor.Msg
