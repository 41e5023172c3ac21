import Derived.Test.YtcphfhfockjljaaGreatDoorMsgGet
import Derived.Test.YtcphfhfockjljaaGreatDoorParseCutwithMsgTo2withMarkText
import Derived.Deep.RegionHeld3
import Derived.Deep.DeepCutAuto
import Derived.Test.YtcphfhfockjljaaGreatDoorMsgWritten
import Derived.Test.YtcphfhfockjljaaGreatDoorFrameBasewithFrameWrapwithFrameSpecWrap
namespace Go.Proofs.YtcphfhfockjljaaGreatDoor.Msg
open Go.ChangeShapes Go.WideShapes Go.ChangeAt Go.RowKit
set_option linter.unusedVariables false
set_option linter.unusedSimpArgs false

/-- what stands at a place of a list, from 0; nothing beyond its ends -/
def atI {α : Type} (xs : List α) (d : α) (i : Int) : α := if i < 0 then d else xs.getD i.toNat d
theorem atI_low {α : Type} (xs : List α) (d : α) (i : Int) (h : i < 0) : atI xs d i = d := if_pos h
theorem atI_high {α : Type} (xs : List α) (d : α) (i : Int) (h : (xs.length : Int) ≤ i) : atI xs d i = d := by
  unfold atI
  split
  · rfl
  · rw [List.getD_eq_getElem?_getD, List.getElem?_eq_none (by omega)]; rfl
theorem atI_in {α : Type} (xs : List α) (d : α) (k : Nat) (h : k < xs.length) : atI xs d (k : Int) = xs[k] := by
  unfold atI
  rw [if_neg (by omega), Int.toNat_natCast, List.getD_eq_getElem?_getD, List.getElem?_eq_getElem h]; rfl
theorem atI_wrap {α : Type} (xs : List α) (d : α) (field e : Int) (h0 : -9223372036854775808 ≤ field) (h1 : field ≤ 9223372036854775807) (hd0 : 0 ≤ e) (hd : e ≤ 3) (hl : xs.length ≤ 1048576) :
    atI xs d (wrap64 (field - e)) = atI xs d (field - e) := by
  obtain ⟨z, hz, hc⟩ := wrap_at field e h0 h1 hd0 hd
  rw [hz]
  rcases hc with ⟨_, rfl⟩ | ⟨hn, hz2⟩
  · rfl
  · rw [atI_low xs d (field - e) hn]
    rcases hz2 with h | h
    · exact atI_low _ _ _ h
    · exact atI_high _ _ _ (by omega)
theorem atI_wrap1 {α : Type} (xs : List α) (d : α) (c : Int) (h0 : -9223372036854775808 ≤ c) (h1 : c ≤ 9223372036854775807) (hl : xs.length ≤ 9223372036854775807) :
    atI xs d (wrap64 (c - 1)) = atI xs d (c - 1) := by
  by_cases h : -9223372036854775808 ≤ c - 1
  · have e : wrap64 (c - 1) = c - 1 := by unfold wrap64; omega
    rw [e]
  · have e : wrap64 (c - 1) = 9223372036854775807 := by unfold wrap64; omega
    rw [e, atI_low xs d (c - 1) (by omega), atI_high _ _ _ (by omega)]
theorem atI_nil {α : Type} (d : α) (i : Int) : atI [] d i = d := by unfold atI; split <;> rfl
theorem pick_at (fs : List Field) (at_ comp : Int) : pick fs at_ comp = atI (atI (atI fs [] at_) [] 0) ⟨#[]⟩ (comp - 1) := by
  unfold pick
  by_cases h : at_ < 0
  · rw [if_pos h, atI_low fs [] at_ h, atI_nil, atI_nil]
  · rw [if_neg h]
    have e : atI fs [] at_ = fs.getD at_.toNat [] := if_neg h
    rw [e, List.getD_eq_getElem?_getD]
    cases hf : fs[at_.toNat]? with
    | none =>
      show (⟨#[]⟩ : ByteArray) = atI (atI ([] : Field) [] 0) _ _
      rw [atI_nil, atI_nil]
    | some f =>
      cases f with
      | nil =>
        show (⟨#[]⟩ : ByteArray) = atI (atI ([] : Field) [] 0) _ _
        rw [atI_nil, atI_nil]
      | cons r rs =>
        show (if comp < 1 then (⟨#[]⟩ : ByteArray) else r.getD (comp - 1).toNat ⟨#[]⟩) = atI r ⟨#[]⟩ (comp - 1)
        unfold atI
        by_cases hc : comp < 1
        · rw [if_pos hc, if_pos (by omega)]
        · rw [if_neg hc, if_neg (by omega)]

theorem at_le0 {α : Type} (f : α → Nat) (xs : List α) (k : Nat) (h : k < xs.length) : f xs[k] ≤ sumOf f xs := by
  have h1 := sum_take f xs k h
  have h2 := sum_le f xs (k + 1)
  omega
theorem StrsAt.none (lo : Nat) (w : World) : StrsAt lo w (.slice .none 0 0) [] := ⟨by simp, .inl ⟨_, _, rfl, rfl⟩⟩
theorem RepsAt.none (lo : Nat) (w : World) : RepsAt lo w (.slice .none 0 0) [] := ⟨by simp, .inl ⟨_, _, rfl, rfl⟩⟩

set_option maxHeartbeats 1000000 in
theorem atS_any (xs : List ByteArray) (i : Int) (v : Value) (w : World) {lo : Nat} (hv : StrsAt lo w v xs) :
    Calls Tryz.prog 43 #[v, .int .i64 i] w fun e w' => e = .returned (.string (atI xs ⟨#[]⟩ i)) ∧ Below w.heap.size w w' := by
  have hl := hv.1
  obtain ⟨a, cap, rfl, hc⟩ := hv.form
  by_cases h0 : i < 0
  · have HX := hide (atI_low xs (⟨#[]⟩ : ByteArray) i h0)
    clear hc hv
    go_enter Tryz.func43, Tryz.ntmps43
    go_wp2_with fail
    go_ret
    exact ⟨ret_string HX.out.symm, Below.refl _ _⟩
  · by_cases h1 : (xs.length : Int) ≤ i
    · have HX := hide (atI_high xs (⟨#[]⟩ : ByteArray) i h1)
      clear hc hv
      go_enter Tryz.func43, Tryz.ntmps43
      go_wp2_with fail
      go_ret
      exact ⟨ret_string HX.out.symm, Below.refl _ _⟩
    · obtain ⟨k, rfl⟩ := Int.eq_ofNat_of_zero_le (show 0 ≤ i by omega)
      have hlt : k < xs.length := by omega
      have hlt' : (k : Int) < (xs.length : Int) := by omega
      obtain ⟨b, off, rfl, _, hbl, hr⟩ := hc k hlt
      have hcell : w.cell? ⟨b, off + k, none⟩ = some (.string xs[k]) := by simpa using hr.1
      have HX := hide (atI_in xs (⟨#[]⟩ : ByteArray) k hlt)
      clear hc hv hr
      go_enter Tryz.func43, Tryz.ntmps43
      go_wp2_with fail
      go_ret
      exact ⟨ret_string HX.out.symm, Below.refl _ _⟩

set_option maxHeartbeats 1000000 in
theorem atR_any (xs : List Rep) (i : Int) (v : Value) (w0 w : World) (hb0 : Below w0.heap.size w0 w) {lo : Nat} (hv : RepsAt lo w0 v xs) :
    Calls Tryz.prog 40 #[v, .int .i64 i] w fun e w' => ∃ u, e = .returned (.agg #[u]) ∧ StrsAt lo w0 u (atI xs [] i) ∧ Below w.heap.size w w' := by
  have hl := hv.1
  obtain ⟨a, cap, rfl, hc⟩ := hv.form
  by_cases h0 : i < 0
  · have HX := hide (atI_low xs ([] : Rep) i h0)
    clear hc hv
    go_enter Tryz.func40, Tryz.ntmps40
    go_wp2_with fail
    exact bodyPost_ret (v := .agg #[.slice none 0 0]) (by simp [results, Tryz.results40, go_sem]) rfl ⟨_, rfl, by rw [HX.out]; exact StrsAt.none _ _, ((Below.refl _ _).alloc (Nat.le_refl _) _).alloc (by simp) _⟩
  · by_cases h1 : (xs.length : Int) ≤ i
    · have HX := hide (atI_high xs ([] : Rep) i h1)
      clear hc hv
      go_enter Tryz.func40, Tryz.ntmps40
      go_wp2_with fail
      exact bodyPost_ret (v := .agg #[.slice none 0 0]) (by simp [results, Tryz.results40, go_sem]) rfl ⟨_, rfl, by rw [HX.out]; exact StrsAt.none _ _, ((Below.refl _ _).alloc (Nat.le_refl _) _).alloc (by simp) _⟩
    · obtain ⟨k, rfl⟩ := Int.eq_ofNat_of_zero_le (show 0 ≤ i by omega)
      have hlt : k < xs.length := by omega
      have hlt' : (k : Int) < (xs.length : Int) := by omega
      obtain ⟨b, off, rfl, _, hbl, ve, hr, hel⟩ := hc k hlt
      obtain ⟨a5, cap5, rfl, _⟩ := hel.form
      have hcell : w.cell? ⟨b, off + k, none⟩ = some (.slice a5 xs[k].length cap5) := by rw [hb0.cell (p := ⟨b, off + k, none⟩) hbl]; simpa using hr
      have hblw : b < w.heap.size := Nat.lt_of_lt_of_le hbl hb0.size
      have HX := hide (atI_in xs ([] : Rep) k hlt)
      have hbw := (Below.refl w.heap.size w).alloc (Nat.le_refl _) (Obj.cells #[.slice a5 xs[k].length cap5] 51)
      have HEL := hide hel
      clear hc hv hr hel
      go_enter Tryz.func40, Tryz.ntmps40
      go_wp2_with fail
      exact bodyPost_ret (v := .agg #[.slice a5 xs[k].length cap5]) (by simp [results, Tryz.results40, go_sem]) rfl ⟨_, rfl, by rw [HX.out]; exact HEL.out, hbw⟩
set_option maxHeartbeats 1000000 in
theorem atF_any (xs : List Field) (i : Int) (v : Value) (w0 w : World) (hb0 : Below w0.heap.size w0 w) {lo : Nat} (hv : FieldsAt lo w0 v xs) :
    Calls Tryz.prog 41 #[v, .int .i64 i] w fun e w' => ∃ u, e = .returned (.agg #[u]) ∧ RepsAt lo w0 u (atI xs [] i) ∧ Below w.heap.size w w' := by
  have hl := hv.1
  obtain ⟨a, cap, rfl, hc⟩ := hv.form
  by_cases h0 : i < 0
  · have HX := hide (atI_low xs ([] : Field) i h0)
    clear hc hv
    go_enter Tryz.func41, Tryz.ntmps41
    go_wp2_with fail
    exact bodyPost_ret (v := .agg #[.slice none 0 0]) (by simp [results, Tryz.results41, go_sem]) rfl ⟨_, rfl, by rw [HX.out]; exact RepsAt.none _ _, ((Below.refl _ _).alloc (Nat.le_refl _) _).alloc (by simp) _⟩
  · by_cases h1 : (xs.length : Int) ≤ i
    · have HX := hide (atI_high xs ([] : Field) i h1)
      clear hc hv
      go_enter Tryz.func41, Tryz.ntmps41
      go_wp2_with fail
      exact bodyPost_ret (v := .agg #[.slice none 0 0]) (by simp [results, Tryz.results41, go_sem]) rfl ⟨_, rfl, by rw [HX.out]; exact RepsAt.none _ _, ((Below.refl _ _).alloc (Nat.le_refl _) _).alloc (by simp) _⟩
    · obtain ⟨k, rfl⟩ := Int.eq_ofNat_of_zero_le (show 0 ≤ i by omega)
      have hlt : k < xs.length := by omega
      have hlt' : (k : Int) < (xs.length : Int) := by omega
      obtain ⟨b, off, rfl, _, hbl, ve, hr, hel⟩ := hc k hlt
      obtain ⟨a5, cap5, rfl, _⟩ := hel.form
      have hcell : w.cell? ⟨b, off + k, none⟩ = some (.slice a5 xs[k].length cap5) := by rw [hb0.cell (p := ⟨b, off + k, none⟩) hbl]; simpa using hr
      have hblw : b < w.heap.size := Nat.lt_of_lt_of_le hbl hb0.size
      have HX := hide (atI_in xs ([] : Field) k hlt)
      have hbw := (Below.refl w.heap.size w).alloc (Nat.le_refl _) (Obj.cells #[.slice a5 xs[k].length cap5] 49)
      have HEL := hide hel
      clear hc hv hr hel
      go_enter Tryz.func41, Tryz.ntmps41
      go_wp2_with fail
      exact bodyPost_ret (v := .agg #[.slice a5 xs[k].length cap5]) (by simp [results, Tryz.results41, go_sem]) rfl ⟨_, rfl, by rw [HX.out]; exact HEL.out, hbw⟩

theorem fld_Field (a : Option Addr) (n c : Nat) (w : World) : (Instr.field 49 (.agg #[.slice a n c]) 0).run Tryz.prog w = .ok (.slice a n c) w := by kernel_rfl
def firstNo (name : ByteArray) : Int := if mshB name then 3 else 1
set_option maxHeartbeats 1000000 in
theorem firstNumber_any (name : ByteArray) (a : Option Addr) (n c : Nat) (w : World) :
    Calls Tryz.prog 42 #[.agg #[.string name, .slice a n c]] w fun e w' => e = .returned (.int .i64 (firstNo name)) ∧ Below w.heap.size w w' := by
  have HMd : Hid (mshB name = (name.toList == [77, 83, 72])) := rfl
  cases hm : (name.toList == [77, 83, 72])
  · have HX : Hid (firstNo name = 1) := by unfold firstNo; rw [HMd.out, hm]; exact rfl
    go_enter Tryz.func42, Tryz.ntmps42
    go_wp2_with fail
    go_ret
    exact ⟨ret_int HX.out.symm, (Below.refl _ _).alloc (Nat.le_refl _) _⟩
  · have HX : Hid (firstNo name = 3) := by unfold firstNo; rw [HMd.out, hm]; exact rfl
    go_enter Tryz.func42, Tryz.ntmps42
    go_wp2_with fail
    go_ret
    exact ⟨ret_int HX.out.symm, (Below.refl _ _).alloc (Nat.le_refl _) _⟩

set_option maxRecDepth 100000 in
set_option maxHeartbeats 2000000 in
theorem comp_any (name : ByteArray) (fs : List Field) (field comp : Int) (v : Value) (w : World) (hf0 : -9223372036854775808 ≤ field) (hf1 : field ≤ 9223372036854775807)
    (hc0 : -9223372036854775808 ≤ comp) (hc1 : comp ≤ 9223372036854775807) {lo : Nat} (hv : FieldsAt lo w v fs) (hfl : fs.length ≤ 1048576) :
    Calls Tryz.prog 19 #[.agg #[.string name, v], .int .i64 field, .int .i64 comp] w fun e w' => e = .returned (.string (pick fs (field - firstNo name) comp)) ∧ Below w.heap.size w w' := by
  have HB : Hid ((-9223372036854775808 ≤ field ∧ field ≤ 9223372036854775807) ∧ -9223372036854775808 ≤ comp ∧ comp ≤ 9223372036854775807) := ⟨⟨hf0, hf1⟩, hc0, hc1⟩
  clear hf0 hf1 hc0 hc1
  obtain ⟨a2, cap2, rfl, _⟩ := hv.form
  have hb := (Below.refl w.heap.size w).alloc (Nat.le_refl _) (Obj.cells #[.string name, .slice a2 fs.length cap2] 41)
  have hel1 := At.kept kept_field hv hb
  have hfd := fld_Field
  have HHB := hide hb
  clear hv hb
  have hd := (Below.refl (w.alloc (Obj.cells #[.string name, .slice a2 fs.length cap2] 41)).heap.size (w.alloc (Obj.cells #[.string name, .slice a2 fs.length cap2] 41))).drew
  have HOLD : Hid (∀ w', Below (w.alloc (Obj.cells #[.string name, .slice a2 fs.length cap2] 41)).heap.size (w.alloc (Obj.cells #[.string name, .slice a2 fs.length cap2] 41)) w' →
      w'.cell? ⟨w.heap.size, 0, none⟩ = some (.string name) ∧ w'.cell? ⟨w.heap.size, 1, none⟩ = some (.slice a2 fs.length cap2) ∧ Below (w.alloc (Obj.cells #[.string name, .slice a2 fs.length cap2] 41)).heap.size (w.alloc (Obj.cells #[.string name, .slice a2 fs.length cap2] 41)) w') := fun w' h => by
    refine ⟨?_, ?_, h⟩
    · rw [h.cell (p := ⟨w.heap.size, 0, none⟩) (by simp)]; simp
    · rw [h.cell (p := ⟨w.heap.size, 1, none⟩) (by simp)]; simp
  go_enter Tryz.func19, Tryz.ntmps19
  go_upto_region 1 with fail
  go_cut [7] (fun s wx => ∃ g a4 cap4, s = .pointer (some ⟨g, 0, none⟩) ∧ g < wx.heap.size ∧ wx.cell? ⟨g, 0, none⟩ = some (.slice a4 (atI (atI fs [] (IntKind.i64.wrap (field - firstNo name))) [] 0).length cap4) ∧ StrsAt lo (w.alloc (Obj.cells #[.string name, .slice a2 fs.length cap2] 41)) (.slice a4 (atI (atI fs [] (IntKind.i64.wrap (field - firstNo name))) [] 0).length cap4) (atI (atI fs [] (IntKind.i64.wrap (field - firstNo name))) [] 0) ∧ Below (w.alloc (Obj.cells #[.string name, .slice a2 fs.length cap2] 41)).heap.size (w.alloc (Obj.cells #[.string name, .slice a2 fs.length cap2] 41)) wx)
  case first =>
    go_region_held3 (fun w' => w'.cell? ⟨w.heap.size, 0, none⟩ = some (.string name) ∧ w'.cell? ⟨w.heap.size, 1, none⟩ = some (.slice a2 fs.length cap2) ∧ Below (w.alloc (Obj.cells #[.string name, .slice a2 fs.length cap2] 41)).heap.size (w.alloc (Obj.cells #[.string name, .slice a2 fs.length cap2] 41)) w')
      (first | exact HOLD.out _ hd | exact HOLD.out _ hb9 | exact HOLD.out _ hb10 | exact HOLD.out _ hb11 | exact HOLD.out _ (hd.alloc hd.size _) | exact HOLD.out _ (hb9.alloc hb9.size _) | exact HOLD.out _ (hb10.alloc hb10.size _) | exact HOLD.out _ (hb11.alloc hb11.size _) | exact HOLD.out _ (hb11.setCell (by first | (simp; done) | (simp; omega)) _))
      (first
        | (go_at_call 42; refine (firstNumber_any _ _ _ _ _).mono ?_; rintro e w2 ⟨rfl, hb2⟩; have hz2 : w.heap.size + 1 ≤ w2.heap.size := (by have := hb2.size; (try simp at this); omega); (first | (have hb9 := bjoin hb2 hd; skip) | (have hb9 := bjoin hb2 (hd.alloc hd.size _); have hz2a : w.heap.size + 1 < w2.heap.size := (by have := hb2.size; (try simp at this); omega); have hx2a : w2.cell? ⟨w.heap.size + 1, 0, none⟩ = some (.slice none 0 0) := (by rw [hb2.cell (p := ⟨w.heap.size + 1, 0, none⟩) (by simp)]; simp); have hy2a : w2.frozen? ⟨w.heap.size + 1, 0, none⟩ = false := (by rw [hb2.frozen (p := ⟨w.heap.size + 1, 0, none⟩) (by simp)]; simp))))
        | (go_at_call 41; refine (atF_any fs _ _ (w.alloc (Obj.cells #[.string name, .slice a2 fs.length cap2] 41)) _ (by first | exact hb9 | exact hb9.alloc hb9.size _) hel1).mono ?_; rintro e w3 ⟨u3, rfl, hu3, hb3⟩; obtain ⟨a3, cap3, rfl, _⟩ := hu3.form; have hz3 : w2.heap.size ≤ w3.heap.size := (by have := hb3.size; (try simp at this); omega); (first | (have hb10 := bjoin hb3 hb9; (first | (have hz3a : w.heap.size + 1 < w3.heap.size := (by omega); have hx3a : w3.cell? ⟨w.heap.size + 1, 0, none⟩ = some (.slice none 0 0) := (by rw [hb3.cell (p := ⟨w.heap.size + 1, 0, none⟩) (by dsimp only; omega)]; exact hx2a); have hy3a : w3.frozen? ⟨w.heap.size + 1, 0, none⟩ = false := (by rw [hb3.frozen (p := ⟨w.heap.size + 1, 0, none⟩) (by dsimp only; omega)]; exact hy2a)) | skip)) | (have hb10 := bjoin hb3 (hb9.alloc hb9.size _); have hz3b : w2.heap.size < w3.heap.size := (by have := hb3.size; (try simp at this); omega); have hx3b : w3.cell? ⟨w2.heap.size, 0, none⟩ = some (.slice none 0 0) := (by rw [hb3.cell (p := ⟨w2.heap.size, 0, none⟩) (by simp)]; simp); have hy3b : w3.frozen? ⟨w2.heap.size, 0, none⟩ = false := (by rw [hb3.frozen (p := ⟨w2.heap.size, 0, none⟩) (by simp)]; simp))))
        | (go_at_call 40; refine (atR_any _ _ _ (w.alloc (Obj.cells #[.string name, .slice a2 fs.length cap2] 41)) _ (by first | exact hb10 | exact hb10.alloc hb10.size _) hu3).mono ?_; rintro e w4 ⟨u4, rfl, hu4, hb4⟩; obtain ⟨a4, cap4, rfl, _⟩ := hu4.form; have hz4 : w3.heap.size ≤ w4.heap.size := (by have := hb4.size; (try simp at this); omega); (first | (have hb11 := bjoin hb4 hb10; (first | (have hx4a : w4.cell? ⟨w.heap.size + 1, 0, none⟩ = some (.slice none 0 0) := (by rw [hb4.cell (p := ⟨w.heap.size + 1, 0, none⟩) (by dsimp only; omega)]; exact hx3a); have hy4a : w4.frozen? ⟨w.heap.size + 1, 0, none⟩ = false := (by rw [hb4.frozen (p := ⟨w.heap.size + 1, 0, none⟩) (by dsimp only; omega)]; exact hy3a)) | (have hx4b : w4.cell? ⟨w2.heap.size, 0, none⟩ = some (.slice none 0 0) := (by rw [hb4.cell (p := ⟨w2.heap.size, 0, none⟩) (by dsimp only; omega)]; exact hx3b); have hy4b : w4.frozen? ⟨w2.heap.size, 0, none⟩ = false := (by rw [hb4.frozen (p := ⟨w2.heap.size, 0, none⟩) (by dsimp only; omega)]; exact hy3b)) | skip)) | (have hb11 := bjoin hb4 (hb10.alloc hb10.size _); have hz4c : w3.heap.size < w4.heap.size := (by have := hb4.size; (try simp at this); omega); have hx4c : w4.cell? ⟨w3.heap.size, 0, none⟩ = some (.slice none 0 0) := (by rw [hb4.cell (p := ⟨w3.heap.size, 0, none⟩) (by simp)]; simp); have hy4c : w4.frozen? ⟨w3.heap.size, 0, none⟩ = false := (by rw [hb4.frozen (p := ⟨w3.heap.size, 0, none⟩) (by simp)]; simp)))))
    · go_wp2_with fail
      go_meet
      case rel => exact ⟨_, _, _, rfl, by simp, by simp, hu4, hb11.alloc hb11.size _⟩
    · go_wp2_with fail
      go_meet
      case rel => exact ⟨_, _, _, rfl, by rw [Deep.nblk_setCell]; omega, World.cell?_setCell_same _ _ _ hx4c, hu4, hb11.setCell (by first | (simp; done) | (simp; omega)) _⟩
    · go_wp2_with fail
      go_meet
      case rel => exact ⟨_, _, _, rfl, by rw [Deep.nblk_setCell]; omega, World.cell?_setCell_same _ _ _ hx4b, hu4, hb11.setCell (by first | (simp; done) | (simp; omega)) _⟩
    · go_wp2_with fail
      go_meet
      case rel => exact ⟨_, _, _, rfl, by rw [Deep.nblk_setCell]; omega, World.cell?_setCell_same _ _ _ hx4a, hu4, hb11.setCell (by first | (simp; done) | (simp; omega)) _⟩
  case rest =>
    obtain ⟨R, hR⟩ : ∃ R, R = atI (atI fs [] (IntKind.i64.wrap (field - firstNo name))) [] 0 := ⟨_, rfl⟩
    have HR := hide (show R = atI (atI fs [] (wrap64 (field - firstNo name))) [] 0 by rw [hR, IntKind.wrap_i64]; unfold wrap64; rfl)
    rw [← hR] at hcut
    clear hR
    obtain ⟨g, a4, cap4, rfl, hgl, hgc, hst, hbx⟩ := hcut
    have hRl := hst.1
    obtain ⟨Wc, rfl⟩ : ∃ x, x = wc := ⟨_, rfl⟩
    have hst2 := At.kept kept_str hst hbx
    have HBW := hide (bjoin hbx HHB.out)
    go_wp2_with fail
    refine (atS_any R (wrap64 (comp - 1)) _ _ hst2).mono ?_
    rintro e w5 ⟨rfl, hb5⟩
    have HZ := hide (show atI R ⟨#[]⟩ (wrap64 (comp - 1)) = pick fs (field - firstNo name) comp by
      rw [pick_at, atI_wrap1 R _ comp HB.out.2.1 HB.out.2.2 hRl, HR.out, atI_wrap fs [] field (firstNo name) HB.out.1.1 HB.out.1.2 (by unfold firstNo; split <;> omega) (by unfold firstNo; split <;> omega) hfl])
    generalize atI R ⟨#[]⟩ (wrap64 (comp - 1)) = z at *
    go_wp2_with fail
    go_ret
    exact ⟨ret_string HZ.out, bjoin hb5 HBW.out⟩

set_option maxRecDepth 100000 in
set_option maxHeartbeats 2000000 in
theorem getImpl_any (xs : List Seg) (name : ByteArray) (field comp : Int) (v : Value) (w : World) (hn : name.size ≤ 9223372036854775807) (hl2 : xs.length ≤ 1048576) (hf0 : -9223372036854775808 ≤ field) (hf1 : field ≤ 9223372036854775807)
    (hc0 : -9223372036854775808 ≤ comp) (hc1 : comp ≤ 9223372036854775807) {lo : Nat} (hv : SegsAt lo w v xs) (hsz : msgSz xs ≤ 1048576) :
    Calls Tryz.prog 7 #[.agg #[v], .string name, .int .i64 field, .int .i64 comp] w fun e w' => e = .returned (.string (getFrom xs name field comp)) ∧ Below w.heap.size w w' := by
  have hb := (Below.refl w.heap.size w).alloc (Nat.le_refl _) (Obj.cells #[v] 25)
  obtain ⟨a, cap, rfl, hc⟩ := (At.kept kept_seg hv hb).form
  have HC := hide hc
  clear hc hv
  have HB : Hid ((-9223372036854775808 ≤ field ∧ field ≤ 9223372036854775807) ∧ -9223372036854775808 ≤ comp ∧ comp ≤ 9223372036854775807) := ⟨⟨hf0, hf1⟩, hc0, hc1⟩
  clear hf0 hf1 hc0 hc1
  have HG : Hid (getFrom xs name field comp = match xs.find? fun s => s.name.toList == name.toList with
    | none => ⟨#[]⟩
    | some s => pick s.fields (field - if mshB name then 3 else 1) comp) := rfl
  go_enter Tryz.func7, Tryz.ntmps7
  go_wp2_with fail
  go_loopg [14] xs.length (fun n i wr => ∃ k : Nat, k ≤ xs.length ∧ n = xs.length - k ∧ i = .int .i64 k ∧ (∀ j (hj : j < xs.length), j < k → (xs[j].name.toList == name.toList) = false) ∧ Below (w.alloc (Obj.cells #[.slice a xs.length cap] 25)).heap.size (w.alloc (Obj.cells #[.slice a xs.length cap] 25)) wr)
  case atStart => exact ⟨0, Nat.zero_le _, by simp, rfl, fun j _ h => absurd h (by omega), Below.refl _ _⟩
  case round =>
    obtain ⟨k, hk, rfl, rfl, hall, hbr⟩ := hrel
    obtain ⟨W1, rfl⟩ : ∃ x, x = wr := ⟨_, rfl⟩
    have HA := hide hall
    clear hall
    by_cases hlt : k < xs.length
    · obtain ⟨b, off, rfl, _, hbl, hc0', hns, ve, hc1', hel⟩ := HC.out k hlt
      obtain ⟨a2, cap2, rfl, _⟩ := hel.form
      have hcell0 : W1.cell? ⟨b, off + k * 2, none⟩ = some (.string xs[k].name) := by rw [hbr.cell (p := ⟨b, off + k * 2, none⟩) hbl]; exact hc0'
      have hcell1 : W1.cell? ⟨b, off + k * 2 + 1, none⟩ = some (.slice a2 xs[k].fields.length cap2) := by rw [hbr.cell (p := ⟨b, off + k * 2 + 1, none⟩) hbl]; exact hc1'
      have hbB := hbr.alloc hbr.size (Obj.cells #[.string xs[k].name, .slice a2 xs[k].fields.length cap2] 41)
      have hel1 := At.kept kept_field hel hbB
      clear hc0' hc1' hel
      cases he : (xs[k].name.toList == name.toList)
      · have HGo : Hid (∀ j (hj : j < xs.length), j < k + 1 → (xs[j].name.toList == name.toList) = false) := fun j hj h => by
          by_cases e : j = k
          · subst e; exact he
          · exact HA.out j hj (by omega)
        go_wp2_with fail
        go_roundg (xs.length - (k + 1))
        case rel => exact ⟨k + 1, by omega, rfl, by go_num, HGo.out, hbB⟩
        case measure => omega
      · have hfn : firstNo xs[k].name = firstNo name := by
          unfold firstNo mshB
          rw [beq_iff_eq.1 he]
        have HP : Hid (getFrom xs name field comp = pick xs[k].fields (field - firstNo xs[k].name) comp) := by
          rw [HG.out, find_take hlt HA.out he, hfn]; exact rfl
        have hfl : xs[k].fields.length ≤ 1048576 := by
          have h1 := at_le0 segSz xs k hlt
          unfold msgSz lenSum at hsz
          have h2 : xs[k].fields.length ≤ segSz xs[k] := by unfold segSz lenSum; omega
          omega
        have HEL := hide hel1
        have HBW := hide (bjoin hbB hb)
        clear hel1 hfn
        go_wp2_with fail
        refine (comp_any xs[k].name xs[k].fields field comp _ _ HB.out.1.1 HB.out.1.2 HB.out.2.1 HB.out.2.2 HEL.out hfl).mono ?_
        rintro e w5 ⟨rfl, hb5⟩
        obtain ⟨z, hz⟩ : ∃ z, pick xs[k].fields (field - firstNo xs[k].name) comp = z := ⟨_, rfl⟩
        have HZ : Hid (z = getFrom xs name field comp) := by rw [HP.out, hz]; trivial
        rw [hz]
        clear hz
        go_wp2_with fail
        go_ret
        exact ⟨ret_string HZ.out, bjoin hb5 HBW.out⟩
    · have HX : Hid (getFrom xs name field comp = ⟨#[]⟩) := by
        rw [HG.out, find_none (fun j hj => HA.out j hj (by omega))]; exact rfl
      go_wp2_with fail
      go_ret
      exact ⟨ret_string HX.out.symm, bjoin hbr hb⟩
end Go.Proofs.YtcphfhfockjljaaGreatDoor.Msg

namespace Go.Proofs.YtcphfhfockjljaaGreatDoor.Msg
set_option linter.unusedVariables false
set_option linter.unusedSimpArgs false

/-- B with W written behind it, or, where that is too long, a text that is too long as well -/
def Wr (B W R : List UInt8) : Prop := ((B ++ W).length ≤ 40000 ∧ R = B ++ W) ∨ (40000 < (B ++ W).length ∧ 40000 < R.length ∧ R.length ≤ (B ++ W).length)
theorem Wr.le {B W R : List UInt8} (h : Wr B W R) : R.length ≤ (B ++ W).length := by
  rcases h with ⟨_, rfl⟩ | ⟨_, _, h⟩
  · exact Nat.le_refl _
  · exact h
theorem Wr.eq {B W R : List UInt8} (h : Wr B W R) (hl : (B ++ W).length ≤ 40000) : R = B ++ W := by
  rcases h with ⟨_, h⟩ | ⟨h, _⟩
  · exact h
  · omega
theorem Wr.long {B W R : List UInt8} (h : Wr B W R) (hl : 40000 < (B ++ W).length) : 40000 < R.length := by
  rcases h with ⟨h, _⟩ | ⟨_, h, _⟩
  · omega
  · exact h
theorem Wr.nil (B : List UInt8) : Wr B [] B := by
  unfold Wr
  rw [List.append_nil]
  by_cases h : B.length ≤ 40000
  · exact .inl ⟨h, rfl⟩
  · exact .inr ⟨by omega, by omega, Nat.le_refl _⟩
theorem Wr.full (B W : List UInt8) : Wr B W (B ++ W) := by
  unfold Wr
  by_cases h : (B ++ W).length ≤ 40000
  · exact .inl ⟨h, rfl⟩
  · exact .inr ⟨by omega, by omega, Nat.le_refl _⟩
theorem Wr.stay (B W : List UInt8) (h : 40000 < B.length) : Wr B W B := by
  refine .inr ⟨?_, h, ?_⟩ <;> rw [List.length_append] <;> omega
theorem Wr.trans {B W1 R1 W2 R2 : List UInt8} (h1 : Wr B W1 R1) (h2 : Wr R1 W2 R2) : Wr B (W1 ++ W2) R2 := by
  rcases h1 with ⟨a, rfl⟩ | ⟨a, b, c⟩
  · unfold Wr at h2 ⊢
    rw [List.append_assoc] at h2
    exact h2
  · have hl : 40000 < (R1 ++ W2).length := by rw [List.length_append]; omega
    have h3 := h2.long hl
    have h4 := h2.le
    rw [List.length_append] at h4 a c
    refine .inr ⟨?_, h3, ?_⟩ <;> rw [List.length_append, List.length_append] <;> omega
theorem Wr.cast {B W W' R : List UInt8} (h : Wr B W R) (e : W = W') : Wr B W' R := e ▸ h
end Go.Proofs.YtcphfhfockjljaaGreatDoor.Msg

namespace Go.Proofs.YtcphfhfockjljaaGreatDoor.Msg
open Go.ChangeShapes Go.WideShapes Go.ChangeAt Go.RowKit
set_option linter.unusedVariables false
set_option linter.unusedSimpArgs false

def marks : ByteArray := ⟨#[124, 94, 126, 92, 38]⟩
def letters : List UInt8 := [70, 83, 82, 69, 84]
theorem mark_cases : ∀ c : UInt8, (Lib.indexByte [124, 94, 126, 92, 38] c = -1 ∧ esc c = [c]) ∨ ∃ m : Nat, m < 5 ∧ Lib.indexByte [124, 94, 126, 92, 38] c = m ∧ esc c = [92, letters.getD m 0, 92] := by
  intro c
  unfold esc letters
  by_cases h1 : c = 124
  · subst h1; exact .inr ⟨0, by decide, by decide, by decide⟩
  by_cases h2 : c = 94
  · subst h2; exact .inr ⟨1, by decide, by decide, by decide⟩
  by_cases h3 : c = 126
  · subst h3; exact .inr ⟨2, by decide, by decide, by decide⟩
  by_cases h4 : c = 92
  · subst h4; exact .inr ⟨3, by decide, by decide, by decide⟩
  by_cases h5 : c = 38
  · subst h5; exact .inr ⟨4, by decide, by decide, by decide⟩
  left
  have t : ∀ n : UInt8, c ≠ n → c.toNat ≠ n.toNat := fun n h e => h (UInt8.toNat_inj.1 e)
  have k1 := t 124 h1
  have k2 := t 94 h2
  have k3 := t 126 h3
  have k4 := t 92 h4
  have k5 := t 38 h5
  simp only [show (124 : UInt8).toNat = 124 from rfl, show (94 : UInt8).toNat = 94 from rfl, show (126 : UInt8).toNat = 126 from rfl, show (92 : UInt8).toNat = 92 from rfl, show (38 : UInt8).toNat = 38 from rfl] at k1 k2 k3 k4 k5
  refine ⟨Frame.index_no _ _ ?_, ?_⟩
  · simp only [Frame.hasB, List.any_cons, List.any_nil, Bool.or_false, Bool.or_eq_false_iff, beq_eq_false_iff_ne, show (124 : UInt8).toNat = 124 from rfl, show (94 : UInt8).toNat = 94 from rfl, show (126 : UInt8).toNat = 126 from rfl, show (92 : UInt8).toNat = 92 from rfl, show (38 : UInt8).toNat = 38 from rfl]
    omega
  · rw [if_neg k1, if_neg k2, if_neg k5, if_neg k3, if_neg k4]

theorem idx_marks (c : UInt8) (n : Int) (w : World) (h : Lib.indexByte [124, 94, 126, 92, 38] c = n) :
    Calls Tryz.prog 68 #[.string ⟨#[124, 94, 126, 92, 38]⟩, .int .u8 (c.toNat : Int)] w fun e w' => e = .returned (.int .i64 n) ∧ w' = w := by
  refine (Frame.indexByte_any _ _ _).mono ?_
  rintro e w' ⟨rfl, rfl⟩
  refine ⟨ret_int ?_, rfl⟩
  rw [← h]
  congr 1
  simp

theorem new_cells3 (w : World) (x y z : Value) (t : TypeId) : ∀ (j : Nat) (u : Value), [x, y, z][j]? = some u → (w.alloc (.cells #[x, y, z] t)).cell? ((⟨w.heap.size, 0, none⟩ : Addr).add j) = some u := by
  intro j u hj
  match j with
  | 0 => simp at hj; subst hj; simp [Addr.add]
  | 1 => simp at hj; subst hj; simp [Addr.add]
  | 2 => simp at hj; subst hj; simp [Addr.add]
  | j + 3 => simp at hj

theorem Buf.grow3 {base : Nat} {w wr w' : World} {v0 v v' : Value} {bs : List UInt8} (c d e : UInt8) (o : Obj) (hb : Grew w v0 wr v)
    {n : Nat} (hl : n = bs.length) (h : w'.ownsRow base 5 1 v' (n + 3) (u8s bs ++ [.int .u8 c.toNat, .int .u8 d.toNat, .int .u8 e.toNat])) (hg : (wr.alloc o).grownBy w' v.ownBlock) (hat : v'.ownBlock = v.ownBlock ∨ v'.ownBlock = some (wr.heap.size + 1)) :
    Buf base w' v' (bs ++ [c, d, e]) ∧ Grew w v0 w' v' := by
  subst hl
  refine ⟨by unfold Buf; simpa [u8s] using h, (hb.alloc o).trans ⟨hg, ?_⟩⟩
  rcases hat with hat | hat
  · exact .inl hat
  · exact .inr ⟨_, hat, by rw [Deep.nblk_alloc]; exact Nat.le_refl _⟩

set_option maxRecDepth 100000 in
set_option maxHeartbeats 1000000 in
theorem writeComp_any (base : Nat) (bs : List UInt8) (s : ByteArray) (v : Value) (w : World) (hown : Buf base w v bs) (hbase : base ≤ w.heap.size) (hl : bs.length + 3 * s.size ≤ 70368744177664) :
    Calls Tryz.prog 93 #[v, .string s] w fun e w' => ∃ u R, e = .returned u ∧ Wr bs (escs s.data.toList) R ∧ Buf base w' u R ∧ Grew w v w' u := by
  obtain ⟨i0, hi, hz0, hz1, hz2⟩ := u8_facts
  obtain ⟨a, cap, rfl⟩ : ∃ a cap, v = .slice a bs.length cap := by
    obtain ⟨hlen, ⟨rfl, h0⟩ | ⟨g, cap, cur, rfl, _⟩⟩ := hown
    · exact ⟨none, 0, by rw [h0]⟩
    · exact ⟨_, _, rfl⟩
  by_cases hlong : (40000 : Int) < (bs.length : Int)
  · have HW := hide (Wr.stay bs (escs s.data.toList) (by omega))
    go_enter Tryz.func93, Tryz.ntmps93
    go_wp2_with fail
    go_ret
    exact ⟨_, _, rfl, HW.out, hown, Grew.refl _ _⟩
  · have h92 : ((({ data := #[124, 94, 126, 92, 38] } : ByteArray)[3].toNat : Nat) : Int) = 92 := rfl
    go_enter Tryz.func93, Tryz.ntmps93
    go_wp2_with fail
    go_loopw [0, 15] (fun v1 i wr => ∃ k : Nat, k ≤ s.size ∧ i = .int .i64 k ∧ Buf base wr v1 (bs ++ escs (s.data.toList.take k)) ∧ Grew w (.slice a bs.length cap) wr v1) (fun _ i _ => s.size - (intOf i).toNat)
    case atStart => exact ⟨0, Nat.zero_le _, rfl, by simpa [escs] using hown, Grew.refl _ _⟩
    case round =>
      obtain ⟨k, hk, rfl, hbuf, hb⟩ := hrel
      by_cases hlt : k < s.size
      · have HE : Hid (bs ++ escs (s.data.toList.take (k + 1)) = (bs ++ escs (s.data.toList.take k)) ++ esc s[k]) := by rw [take_snoc s k hlt, escs_snoc, List.append_assoc]; trivial
        have hlen : (bs ++ escs (s.data.toList.take k)).length ≤ bs.length + 3 * k := by
          have := escs_le (s.data.toList.take k)
          have h2 : (s.data.toList.take k).length ≤ k := List.length_take_le _ _
          rw [List.length_append]; omega
        have hz : base ≤ wr.heap.size := Nat.le_trans hbase hb.1.size
        generalize hB : bs ++ escs (s.data.toList.take k) = B at *
        clear hB
        rcases mark_cases s[k] with ⟨hx, he⟩ | ⟨m, hm, hx, he⟩
        · have HI := hide hx
          have HJ : Hid (bs ++ escs (s.data.toList.take (k + 1)) = B ++ [s[k]]) := by rw [HE.out, he]; trivial
          clear hx he
          go_wp2_with fail
          refine (idx_marks s[k] _ _ HI.out).mono ?_
          rintro e w' ⟨rfl, rfl⟩
          go_wp2_with (first
            | (at_builtin; refine wpList_append_own_at _ rfl _ _ 22 rfl base 5 i0 (.int .u8 0) 1 1 Tryz.underlying22 hi hz0 hz1 hz2 rfl (by decide) _ _ _ rfl (World.ownsRow.alloc hbuf _) ⟨w'.heap.size, 0, none⟩ 1 1 [.int .u8 s[k].toNat] rfl rfl ?c1 ?c2 ?c3 ?c4 ?c5 ?_)
            | go_in)
          case c1 => exact new_cell _ _ _
          case c2 => exact one_u8 _
          case c3 => unfold maxLen; omega
          case c4 => omega
          case c5 => simp; omega
          · intro v' w2 hown' hgrow hnil hat
            have R := Buf.snoc (bs := B) s[k] _ hb rfl hown' hgrow hat
            clear hown' hgrow hnil hat hbuf hb
            go_wp2
            go_roundw
            case rel => exact ⟨k + 1, by omega, by go_num, by rw [HJ.out]; exact R.1, R.2⟩
            case measure => simp [intOf]; omega
        · have HI := hide hx
          have HJ : Hid (bs ++ escs (s.data.toList.take (k + 1)) = B ++ [92, letters.getD m 0, 92]) := by rw [HE.out, he]; trivial
          have HM : Hid (((({ data := #[70, 83, 82, 69, 84] } : ByteArray)[m]'hm).toNat : Int) = ((letters.getD m 0).toNat : Int)) := by
            match m, hm with
            | 0, _ => rfl
            | 1, _ => rfl
            | 2, _ => rfl
            | 3, _ => rfl
            | 4, _ => rfl
          clear hx he
          have hm5 : (m : Int) < 5 := by omega
          have hm0 : ¬ (m : Int) < 0 := by omega
          go_wp2_with fail
          refine (idx_marks s[k] _ _ HI.out).mono ?_
          rintro e w' ⟨rfl, rfl⟩
          go_wp2_with (first
            | (at_builtin; refine wpList_append_own_at _ rfl _ _ 22 rfl base 5 i0 (.int .u8 0) 1 1 Tryz.underlying22 hi hz0 hz1 hz2 rfl (by decide) _ _ _ rfl (World.ownsRow.alloc hbuf _) ⟨w'.heap.size, 0, none⟩ 3 3 [.int .u8 92, .int .u8 (({ data := #[70, 83, 82, 69, 84] } : ByteArray)[m]'hm).toNat, .int .u8 92] rfl rfl ?c1 ?c2 ?c3 ?c4 ?c5 ?_)
            | go_in)
          case c1 => exact new_cells3 _ _ _ _ _
          case c2 =>
            intro u hu
            simp only [List.mem_cons, List.not_mem_nil, or_false] at hu
            rcases hu with rfl | rfl | rfl <;> rfl
          case c3 => unfold maxLen; omega
          case c4 => omega
          case c5 => simp; omega
          · intro v' w2 hown' hgrow hnil hat
            rw [HM.out] at hown'
            have R := Buf.grow3 (bs := B) 92 (letters.getD m 0) 92 _ hb rfl hown' hgrow hat
            clear hown' hgrow hnil hat hbuf hb
            go_wp2
            go_roundw
            case rel => exact ⟨k + 1, by omega, by go_num, by rw [HJ.out]; exact R.1, R.2⟩
            case measure => simp [intOf]; omega
      · have HW : Hid (Wr bs (escs s.data.toList) (bs ++ escs s.data.toList)) := Wr.full _ _
        go_wp2_with fail
        go_ret
        exact ⟨_, _, rfl, HW.out, by rw [List.take_of_length_le (by simp; omega)] at hbuf; exact hbuf, hb⟩
end Go.Proofs.YtcphfhfockjljaaGreatDoor.Msg
