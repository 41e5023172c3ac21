import Derived.Test.YtpmnepalchgcbaaGreatDoorBkOpen2withBkOpen3withBkOpen4
import Derived.Laws.EntriesVeiled
namespace Go.Proofs.YtpmnepalchgcbaaGreatDoor.Msg
open Go.ChangeShapes Go.WideShapes Go.ChangeAt Go.RowKit
set_option linter.unusedVariables false
set_option linter.unusedSimpArgs false

/-! (*book).apply: a table of functions -/
set_option maxRecDepth 100000 in
set_option maxHeartbeats 16000000 in
theorem apply_open {base : Nat} {w : World} {K M nm : Nat} {SS : Nat → Prop} {R : List Sess × Int} (hbase : base ≤ w.heap.size) (client page n0 : Int) (tag query : ByteArray) (au : Option Addr) (nu cu : Nat) (hcall : ∀ D, Below w.heap.size w D → Calls Tryz.prog 41 #[.pointer (some ⟨K, 0, none⟩), .agg #[.int .i64 1, .int .i64 client, .string tag, .string query, .int .i64 page, .slice au nu cu, .int .i64 n0]] D (StPost base D K M nm SS R)) :
    Calls Tryz.prog 16 #[.pointer (some ⟨K, 0, none⟩), .agg #[.int .i64 1, .int .i64 client, .string tag, .string query, .int .i64 page, .slice au nu cu, .int .i64 n0]] w (StPost base w K M nm SS R) := by
  have HC := hide hcall
  obtain ⟨x1, hx1⟩ : ∃ x, w.alloc (Obj.cells #[.int .i64 1, .int .i64 client, .string tag, .string query, .int .i64 page, .slice au nu cu, .int .i64 n0] 33) = x := ⟨_, rfl⟩
  have s1 : x1.heap.size = w.heap.size + 1 := by rw [← hx1]; exact Deep.nblk_alloc _ _
  have b1 : Below w.heap.size w x1 := by rw [← hx1]; exact (Below.refl _ _).alloc (Nat.le_refl _) _
  have o1 : Box x1 w.heap.size 33 #[.int .i64 1, .int .i64 client, .string tag, .string query, .int .i64 page, .slice au nu cu, .int .i64 n0] := by rw [← hx1]; exact Box.new _ _ _
  obtain ⟨Y, hY⟩ : ∃ x, x1.alloc (Obj.cells #[.nilFunc, .func (.func 41) #[] #[], .func (.func 42) #[] #[], .func (.func 43) #[] #[], .func (.func 44) #[] #[], .func (.func 45) #[] #[], .func (.func 46) #[] #[]] 76) = x := ⟨_, rfl⟩
  have b2 : Below x1.heap.size x1 Y := by rw [← hY]; exact (Below.refl _ _).alloc (Nat.le_refl _) _
  have hA : Box Y (w.heap.size + 1) 76 #[.nilFunc, .func (.func 41) #[] #[], .func (.func 42) #[] #[], .func (.func 43) #[] #[], .func (.func 44) #[] #[], .func (.func 45) #[] #[], .func (.func 46) #[] #[]] := by rw [← s1, ← hY]; exact Box.new _ _ _
  have hO := o1.below b2
  have HBY : Hid (Below w.heap.size w Y) := bjoin b2 b1
  have HYE : Hid ((w.alloc (Obj.cells #[.int .i64 1, .int .i64 client, .string tag, .string query, .int .i64 page, .slice au nu cu, .int .i64 n0] 33)).alloc (Obj.cells #[.nilFunc, .func (.func 41) #[] #[], .func (.func 42) #[] #[], .func (.func 43) #[] #[], .func (.func 44) #[] #[], .func (.func 45) #[] #[], .func (.func 46) #[] #[]] 76) = Y) := by show _ = _; rw [hx1, hY]
  obtain ⟨D, hDe⟩ : ∃ D, Y.drew = D := ⟨_, rfl⟩
  have hD : Below Y.heap.size Y D := by rw [← hDe]; exact (Below.refl _ _).drew
  have HDE := hide hDe
  have hOD := hO.below hD
  have hAD := hA.below hD
  have hSd : (fun U : World => U.cell? ⟨w.heap.size, 0, none⟩ = some (.int .i64 1) ∧ U.cell? ⟨w.heap.size, 1, none⟩ = some (.int .i64 client) ∧ U.cell? ⟨w.heap.size, 2, none⟩ = some (.string tag) ∧ U.cell? ⟨w.heap.size, 3, none⟩ = some (.string query) ∧ U.cell? ⟨w.heap.size, 4, none⟩ = some (.int .i64 page) ∧ U.cell? ⟨w.heap.size, 5, none⟩ = some (.slice au nu cu) ∧ U.cell? ⟨w.heap.size, 6, none⟩ = some (.int .i64 n0) ∧ U.cell? ⟨w.heap.size + 1, 1, none⟩ = some (.func (.func 41) #[] #[])) D := ⟨hOD.cell 0 (by simp), hOD.cell 1 (by simp), hOD.cell 2 (by simp), hOD.cell 3 (by simp), hOD.cell 4 (by simp), hOD.cell 5 (by simp), hOD.cell 6 (by simp), hAD.cell 1 (by simp)⟩
  have HSD := hide hSd
  have HBD := hide (bjoin hD HBY.out)
  have HCD := hide (HC.out D HBD.out)
  clear hcall hx1 s1 b1 o1 b2 hY hO hA hDe hD hOD hAD HC
  go_enter Tryz.func16, Tryz.ntmps16
  go_upto_region 2 with fail
  rw [HYE.out]
  refine wp_region_two (fun U : World => U.cell? ⟨w.heap.size, 0, none⟩ = some (.int .i64 1) ∧ U.cell? ⟨w.heap.size, 1, none⟩ = some (.int .i64 client) ∧ U.cell? ⟨w.heap.size, 2, none⟩ = some (.string tag) ∧ U.cell? ⟨w.heap.size, 3, none⟩ = some (.string query) ∧ U.cell? ⟨w.heap.size, 4, none⟩ = some (.int .i64 page) ∧ U.cell? ⟨w.heap.size, 5, none⟩ = some (.slice au nu cu) ∧ U.cell? ⟨w.heap.size, 6, none⟩ = some (.int .i64 n0) ∧ U.cell? ⟨w.heap.size + 1, 1, none⟩ = some (.func (.func 41) #[] #[])) 6 (by kernel_rfl) ?_
  rw [HDE.out]
  refine wpTwo_take (i := 4) (some 11) (v := ?v4_1) rfl rfl (by kernel_rfl) (by kernel_rfl) (by kernel_rfl) (by kernel_rfl) (fun _ _ _ h => h) hSd (Or.inl ⟨by rfl, ?hy4_1⟩) ?rest4_1
  case hy4_1 => (intro w hSw; (try dsimp only at hSw); go_simp; try with_reducible rfl)
  try simp only [Act.put, List.setIfInBounds_toArray, List.set_cons_zero, List.set_cons_succ]
  refine wpTwo_take (i := 5) (some 12) (v := ?v5_1) rfl rfl (by kernel_rfl) (by kernel_rfl) (by kernel_rfl) (by kernel_rfl) (fun _ _ _ h => h) hSd (Or.inl ⟨by rfl, ?hy5_1⟩) ?rest5_1
  case hy5_1 => (intro w hSw; (try dsimp only at hSw); go_simp; try with_reducible rfl)
  try simp only [Act.put, List.setIfInBounds_toArray, List.set_cons_zero, List.set_cons_succ]
  refine wpTwo_one (j := 0) (by kernel_rfl) rfl (fun K2 hK => ?_)
  go_simp
  refine hK.out _ _ (fun _ => HSD.out) ?_
  clear hK K2
  try simp only [Act.put, List.setIfInBounds_toArray, List.set_cons_zero, List.set_cons_succ]
  refine wpTwo_one (j := 1) (by kernel_rfl) rfl (fun K2 hK => ?_)
  go_simp
  refine hK.out _ _ (fun _ => HSD.out) ?_
  clear hK K2
  try simp only [Act.put, List.setIfInBounds_toArray, List.set_cons_zero, List.set_cons_succ]
  refine wpTwo_one (j := 2) (by kernel_rfl) rfl (fun K2 hK => ?_)
  go_simp
  refine hK.out _ _ (fun _ => HSD.out) ?_
  clear hK K2
  try simp only [Act.put, List.setIfInBounds_toArray, List.set_cons_zero, List.set_cons_succ]
  refine wpTwo_one (j := 3) (by kernel_rfl) rfl (fun K2 hK => ?_)
  go_simp
  refine hK.out _ _ (fun _ => HSD.out) ?_
  clear hK K2
  try simp only [Act.put, List.setIfInBounds_toArray, List.set_cons_zero, List.set_cons_succ]
  refine wpTwo_one (j := 6) (by kernel_rfl) rfl (fun K2 hK => ?_)
  go_simp
  refine HCD.out.mono ?_
  rintro e U ⟨code, rfl, hbk, hbl⟩
  have HFIN : Hid (StPost base w K M nm SS R (.returned (.int .i64 code)) U) := ⟨code, rfl, hbk.elim fun o1 h => h.elim fun o2 h => h.elim fun o3 h => h.elim fun o4 h => ⟨o1, o2, o3, o4, h.1, h.2.1, h.2.2.1, (Ft.below HBD.out).trans h.2.2.2⟩, (HBD.out.mono hbase).trans hbl⟩
  refine hK.out _ _ (fun h => absurd h (by decide)) ?_
  clear hK K2 hbk hbl
  try simp only [Act.put, List.setIfInBounds_toArray, List.set_cons_zero, List.set_cons_succ]
  refine wpTwo_one (j := 7) (by kernel_rfl) rfl (fun K2 hK => ?_)
  go_simp
  refine hK.out _ _ (fun h => absurd h (by decide)) ?_
  clear hK K2
  refine wpTwo_done (by kernel_rfl) ?_ _
  go_wp2_with fail
  go_ret
  exact HFIN.out
set_option maxRecDepth 100000 in
set_option maxHeartbeats 16000000 in
theorem apply_addRows {base : Nat} {w : World} {K M nm : Nat} {SS : Nat → Prop} {R : List Sess × Int} (hbase : base ≤ w.heap.size) (client page n0 : Int) (tag query : ByteArray) (au : Option Addr) (nu cu : Nat) (hcall : ∀ D, Below w.heap.size w D → Calls Tryz.prog 42 #[.pointer (some ⟨K, 0, none⟩), .agg #[.int .i64 2, .int .i64 client, .string tag, .string query, .int .i64 page, .slice au nu cu, .int .i64 n0]] D (StPost base D K M nm SS R)) :
    Calls Tryz.prog 16 #[.pointer (some ⟨K, 0, none⟩), .agg #[.int .i64 2, .int .i64 client, .string tag, .string query, .int .i64 page, .slice au nu cu, .int .i64 n0]] w (StPost base w K M nm SS R) := by
  have HC := hide hcall
  obtain ⟨x1, hx1⟩ : ∃ x, w.alloc (Obj.cells #[.int .i64 2, .int .i64 client, .string tag, .string query, .int .i64 page, .slice au nu cu, .int .i64 n0] 33) = x := ⟨_, rfl⟩
  have s1 : x1.heap.size = w.heap.size + 1 := by rw [← hx1]; exact Deep.nblk_alloc _ _
  have b1 : Below w.heap.size w x1 := by rw [← hx1]; exact (Below.refl _ _).alloc (Nat.le_refl _) _
  have o1 : Box x1 w.heap.size 33 #[.int .i64 2, .int .i64 client, .string tag, .string query, .int .i64 page, .slice au nu cu, .int .i64 n0] := by rw [← hx1]; exact Box.new _ _ _
  obtain ⟨Y, hY⟩ : ∃ x, x1.alloc (Obj.cells #[.nilFunc, .func (.func 41) #[] #[], .func (.func 42) #[] #[], .func (.func 43) #[] #[], .func (.func 44) #[] #[], .func (.func 45) #[] #[], .func (.func 46) #[] #[]] 76) = x := ⟨_, rfl⟩
  have b2 : Below x1.heap.size x1 Y := by rw [← hY]; exact (Below.refl _ _).alloc (Nat.le_refl _) _
  have hA : Box Y (w.heap.size + 1) 76 #[.nilFunc, .func (.func 41) #[] #[], .func (.func 42) #[] #[], .func (.func 43) #[] #[], .func (.func 44) #[] #[], .func (.func 45) #[] #[], .func (.func 46) #[] #[]] := by rw [← s1, ← hY]; exact Box.new _ _ _
  have hO := o1.below b2
  have HBY : Hid (Below w.heap.size w Y) := bjoin b2 b1
  have HYE : Hid ((w.alloc (Obj.cells #[.int .i64 2, .int .i64 client, .string tag, .string query, .int .i64 page, .slice au nu cu, .int .i64 n0] 33)).alloc (Obj.cells #[.nilFunc, .func (.func 41) #[] #[], .func (.func 42) #[] #[], .func (.func 43) #[] #[], .func (.func 44) #[] #[], .func (.func 45) #[] #[], .func (.func 46) #[] #[]] 76) = Y) := by show _ = _; rw [hx1, hY]
  obtain ⟨D, hDe⟩ : ∃ D, Y.drew = D := ⟨_, rfl⟩
  have hD : Below Y.heap.size Y D := by rw [← hDe]; exact (Below.refl _ _).drew
  have HDE := hide hDe
  have hOD := hO.below hD
  have hAD := hA.below hD
  have hSd : (fun U : World => U.cell? ⟨w.heap.size, 0, none⟩ = some (.int .i64 2) ∧ U.cell? ⟨w.heap.size, 1, none⟩ = some (.int .i64 client) ∧ U.cell? ⟨w.heap.size, 2, none⟩ = some (.string tag) ∧ U.cell? ⟨w.heap.size, 3, none⟩ = some (.string query) ∧ U.cell? ⟨w.heap.size, 4, none⟩ = some (.int .i64 page) ∧ U.cell? ⟨w.heap.size, 5, none⟩ = some (.slice au nu cu) ∧ U.cell? ⟨w.heap.size, 6, none⟩ = some (.int .i64 n0) ∧ U.cell? ⟨w.heap.size + 1, 2, none⟩ = some (.func (.func 42) #[] #[])) D := ⟨hOD.cell 0 (by simp), hOD.cell 1 (by simp), hOD.cell 2 (by simp), hOD.cell 3 (by simp), hOD.cell 4 (by simp), hOD.cell 5 (by simp), hOD.cell 6 (by simp), hAD.cell 2 (by simp)⟩
  have HSD := hide hSd
  have HBD := hide (bjoin hD HBY.out)
  have HCD := hide (HC.out D HBD.out)
  clear hcall hx1 s1 b1 o1 b2 hY hO hA hDe hD hOD hAD HC
  go_enter Tryz.func16, Tryz.ntmps16
  go_upto_region 2 with fail
  rw [HYE.out]
  refine wp_region_two (fun U : World => U.cell? ⟨w.heap.size, 0, none⟩ = some (.int .i64 2) ∧ U.cell? ⟨w.heap.size, 1, none⟩ = some (.int .i64 client) ∧ U.cell? ⟨w.heap.size, 2, none⟩ = some (.string tag) ∧ U.cell? ⟨w.heap.size, 3, none⟩ = some (.string query) ∧ U.cell? ⟨w.heap.size, 4, none⟩ = some (.int .i64 page) ∧ U.cell? ⟨w.heap.size, 5, none⟩ = some (.slice au nu cu) ∧ U.cell? ⟨w.heap.size, 6, none⟩ = some (.int .i64 n0) ∧ U.cell? ⟨w.heap.size + 1, 2, none⟩ = some (.func (.func 42) #[] #[])) 6 (by kernel_rfl) ?_
  rw [HDE.out]
  refine wpTwo_take (i := 4) (some 11) (v := ?v4_1) rfl rfl (by kernel_rfl) (by kernel_rfl) (by kernel_rfl) (by kernel_rfl) (fun _ _ _ h => h) hSd (Or.inl ⟨by rfl, ?hy4_1⟩) ?rest4_1
  case hy4_1 => (intro w hSw; (try dsimp only at hSw); go_simp; try with_reducible rfl)
  try simp only [Act.put, List.setIfInBounds_toArray, List.set_cons_zero, List.set_cons_succ]
  refine wpTwo_take (i := 5) (some 12) (v := ?v5_1) rfl rfl (by kernel_rfl) (by kernel_rfl) (by kernel_rfl) (by kernel_rfl) (fun _ _ _ h => h) hSd (Or.inl ⟨by rfl, ?hy5_1⟩) ?rest5_1
  case hy5_1 => (intro w hSw; (try dsimp only at hSw); go_simp; try with_reducible rfl)
  try simp only [Act.put, List.setIfInBounds_toArray, List.set_cons_zero, List.set_cons_succ]
  refine wpTwo_one (j := 0) (by kernel_rfl) rfl (fun K2 hK => ?_)
  go_simp
  refine hK.out _ _ (fun _ => HSD.out) ?_
  clear hK K2
  try simp only [Act.put, List.setIfInBounds_toArray, List.set_cons_zero, List.set_cons_succ]
  refine wpTwo_one (j := 1) (by kernel_rfl) rfl (fun K2 hK => ?_)
  go_simp
  refine hK.out _ _ (fun _ => HSD.out) ?_
  clear hK K2
  try simp only [Act.put, List.setIfInBounds_toArray, List.set_cons_zero, List.set_cons_succ]
  refine wpTwo_one (j := 2) (by kernel_rfl) rfl (fun K2 hK => ?_)
  go_simp
  refine hK.out _ _ (fun _ => HSD.out) ?_
  clear hK K2
  try simp only [Act.put, List.setIfInBounds_toArray, List.set_cons_zero, List.set_cons_succ]
  refine wpTwo_one (j := 3) (by kernel_rfl) rfl (fun K2 hK => ?_)
  go_simp
  refine hK.out _ _ (fun _ => HSD.out) ?_
  clear hK K2
  try simp only [Act.put, List.setIfInBounds_toArray, List.set_cons_zero, List.set_cons_succ]
  refine wpTwo_one (j := 6) (by kernel_rfl) rfl (fun K2 hK => ?_)
  go_simp
  refine HCD.out.mono ?_
  rintro e U ⟨code, rfl, hbk, hbl⟩
  have HFIN : Hid (StPost base w K M nm SS R (.returned (.int .i64 code)) U) := ⟨code, rfl, hbk.elim fun o1 h => h.elim fun o2 h => h.elim fun o3 h => h.elim fun o4 h => ⟨o1, o2, o3, o4, h.1, h.2.1, h.2.2.1, (Ft.below HBD.out).trans h.2.2.2⟩, (HBD.out.mono hbase).trans hbl⟩
  refine hK.out _ _ (fun h => absurd h (by decide)) ?_
  clear hK K2 hbk hbl
  try simp only [Act.put, List.setIfInBounds_toArray, List.set_cons_zero, List.set_cons_succ]
  refine wpTwo_one (j := 7) (by kernel_rfl) rfl (fun K2 hK => ?_)
  go_simp
  refine hK.out _ _ (fun h => absurd h (by decide)) ?_
  clear hK K2
  refine wpTwo_done (by kernel_rfl) ?_ _
  go_wp2_with fail
  go_ret
  exact HFIN.out
set_option maxRecDepth 100000 in
set_option maxHeartbeats 16000000 in
theorem apply_finish {base : Nat} {w : World} {K M nm : Nat} {SS : Nat → Prop} {R : List Sess × Int} (hbase : base ≤ w.heap.size) (client page n0 : Int) (tag query : ByteArray) (au : Option Addr) (nu cu : Nat) (hcall : ∀ D, Below w.heap.size w D → Calls Tryz.prog 43 #[.pointer (some ⟨K, 0, none⟩), .agg #[.int .i64 3, .int .i64 client, .string tag, .string query, .int .i64 page, .slice au nu cu, .int .i64 n0]] D (StPost base D K M nm SS R)) :
    Calls Tryz.prog 16 #[.pointer (some ⟨K, 0, none⟩), .agg #[.int .i64 3, .int .i64 client, .string tag, .string query, .int .i64 page, .slice au nu cu, .int .i64 n0]] w (StPost base w K M nm SS R) := by
  have HC := hide hcall
  obtain ⟨x1, hx1⟩ : ∃ x, w.alloc (Obj.cells #[.int .i64 3, .int .i64 client, .string tag, .string query, .int .i64 page, .slice au nu cu, .int .i64 n0] 33) = x := ⟨_, rfl⟩
  have s1 : x1.heap.size = w.heap.size + 1 := by rw [← hx1]; exact Deep.nblk_alloc _ _
  have b1 : Below w.heap.size w x1 := by rw [← hx1]; exact (Below.refl _ _).alloc (Nat.le_refl _) _
  have o1 : Box x1 w.heap.size 33 #[.int .i64 3, .int .i64 client, .string tag, .string query, .int .i64 page, .slice au nu cu, .int .i64 n0] := by rw [← hx1]; exact Box.new _ _ _
  obtain ⟨Y, hY⟩ : ∃ x, x1.alloc (Obj.cells #[.nilFunc, .func (.func 41) #[] #[], .func (.func 42) #[] #[], .func (.func 43) #[] #[], .func (.func 44) #[] #[], .func (.func 45) #[] #[], .func (.func 46) #[] #[]] 76) = x := ⟨_, rfl⟩
  have b2 : Below x1.heap.size x1 Y := by rw [← hY]; exact (Below.refl _ _).alloc (Nat.le_refl _) _
  have hA : Box Y (w.heap.size + 1) 76 #[.nilFunc, .func (.func 41) #[] #[], .func (.func 42) #[] #[], .func (.func 43) #[] #[], .func (.func 44) #[] #[], .func (.func 45) #[] #[], .func (.func 46) #[] #[]] := by rw [← s1, ← hY]; exact Box.new _ _ _
  have hO := o1.below b2
  have HBY : Hid (Below w.heap.size w Y) := bjoin b2 b1
  have HYE : Hid ((w.alloc (Obj.cells #[.int .i64 3, .int .i64 client, .string tag, .string query, .int .i64 page, .slice au nu cu, .int .i64 n0] 33)).alloc (Obj.cells #[.nilFunc, .func (.func 41) #[] #[], .func (.func 42) #[] #[], .func (.func 43) #[] #[], .func (.func 44) #[] #[], .func (.func 45) #[] #[], .func (.func 46) #[] #[]] 76) = Y) := by show _ = _; rw [hx1, hY]
  obtain ⟨D, hDe⟩ : ∃ D, Y.drew = D := ⟨_, rfl⟩
  have hD : Below Y.heap.size Y D := by rw [← hDe]; exact (Below.refl _ _).drew
  have HDE := hide hDe
  have hOD := hO.below hD
  have hAD := hA.below hD
  have hSd : (fun U : World => U.cell? ⟨w.heap.size, 0, none⟩ = some (.int .i64 3) ∧ U.cell? ⟨w.heap.size, 1, none⟩ = some (.int .i64 client) ∧ U.cell? ⟨w.heap.size, 2, none⟩ = some (.string tag) ∧ U.cell? ⟨w.heap.size, 3, none⟩ = some (.string query) ∧ U.cell? ⟨w.heap.size, 4, none⟩ = some (.int .i64 page) ∧ U.cell? ⟨w.heap.size, 5, none⟩ = some (.slice au nu cu) ∧ U.cell? ⟨w.heap.size, 6, none⟩ = some (.int .i64 n0) ∧ U.cell? ⟨w.heap.size + 1, 3, none⟩ = some (.func (.func 43) #[] #[])) D := ⟨hOD.cell 0 (by simp), hOD.cell 1 (by simp), hOD.cell 2 (by simp), hOD.cell 3 (by simp), hOD.cell 4 (by simp), hOD.cell 5 (by simp), hOD.cell 6 (by simp), hAD.cell 3 (by simp)⟩
  have HSD := hide hSd
  have HBD := hide (bjoin hD HBY.out)
  have HCD := hide (HC.out D HBD.out)
  clear hcall hx1 s1 b1 o1 b2 hY hO hA hDe hD hOD hAD HC
  go_enter Tryz.func16, Tryz.ntmps16
  go_upto_region 2 with fail
  rw [HYE.out]
  refine wp_region_two (fun U : World => U.cell? ⟨w.heap.size, 0, none⟩ = some (.int .i64 3) ∧ U.cell? ⟨w.heap.size, 1, none⟩ = some (.int .i64 client) ∧ U.cell? ⟨w.heap.size, 2, none⟩ = some (.string tag) ∧ U.cell? ⟨w.heap.size, 3, none⟩ = some (.string query) ∧ U.cell? ⟨w.heap.size, 4, none⟩ = some (.int .i64 page) ∧ U.cell? ⟨w.heap.size, 5, none⟩ = some (.slice au nu cu) ∧ U.cell? ⟨w.heap.size, 6, none⟩ = some (.int .i64 n0) ∧ U.cell? ⟨w.heap.size + 1, 3, none⟩ = some (.func (.func 43) #[] #[])) 6 (by kernel_rfl) ?_
  rw [HDE.out]
  refine wpTwo_take (i := 4) (some 11) (v := ?v4_1) rfl rfl (by kernel_rfl) (by kernel_rfl) (by kernel_rfl) (by kernel_rfl) (fun _ _ _ h => h) hSd (Or.inl ⟨by rfl, ?hy4_1⟩) ?rest4_1
  case hy4_1 => (intro w hSw; (try dsimp only at hSw); go_simp; try with_reducible rfl)
  try simp only [Act.put, List.setIfInBounds_toArray, List.set_cons_zero, List.set_cons_succ]
  refine wpTwo_take (i := 5) (some 12) (v := ?v5_1) rfl rfl (by kernel_rfl) (by kernel_rfl) (by kernel_rfl) (by kernel_rfl) (fun _ _ _ h => h) hSd (Or.inl ⟨by rfl, ?hy5_1⟩) ?rest5_1
  case hy5_1 => (intro w hSw; (try dsimp only at hSw); go_simp; try with_reducible rfl)
  try simp only [Act.put, List.setIfInBounds_toArray, List.set_cons_zero, List.set_cons_succ]
  refine wpTwo_one (j := 0) (by kernel_rfl) rfl (fun K2 hK => ?_)
  go_simp
  refine hK.out _ _ (fun _ => HSD.out) ?_
  clear hK K2
  try simp only [Act.put, List.setIfInBounds_toArray, List.set_cons_zero, List.set_cons_succ]
  refine wpTwo_one (j := 1) (by kernel_rfl) rfl (fun K2 hK => ?_)
  go_simp
  refine hK.out _ _ (fun _ => HSD.out) ?_
  clear hK K2
  try simp only [Act.put, List.setIfInBounds_toArray, List.set_cons_zero, List.set_cons_succ]
  refine wpTwo_one (j := 2) (by kernel_rfl) rfl (fun K2 hK => ?_)
  go_simp
  refine hK.out _ _ (fun _ => HSD.out) ?_
  clear hK K2
  try simp only [Act.put, List.setIfInBounds_toArray, List.set_cons_zero, List.set_cons_succ]
  refine wpTwo_one (j := 3) (by kernel_rfl) rfl (fun K2 hK => ?_)
  go_simp
  refine hK.out _ _ (fun _ => HSD.out) ?_
  clear hK K2
  try simp only [Act.put, List.setIfInBounds_toArray, List.set_cons_zero, List.set_cons_succ]
  refine wpTwo_one (j := 6) (by kernel_rfl) rfl (fun K2 hK => ?_)
  go_simp
  refine HCD.out.mono ?_
  rintro e U ⟨code, rfl, hbk, hbl⟩
  have HFIN : Hid (StPost base w K M nm SS R (.returned (.int .i64 code)) U) := ⟨code, rfl, hbk.elim fun o1 h => h.elim fun o2 h => h.elim fun o3 h => h.elim fun o4 h => ⟨o1, o2, o3, o4, h.1, h.2.1, h.2.2.1, (Ft.below HBD.out).trans h.2.2.2⟩, (HBD.out.mono hbase).trans hbl⟩
  refine hK.out _ _ (fun h => absurd h (by decide)) ?_
  clear hK K2 hbk hbl
  try simp only [Act.put, List.setIfInBounds_toArray, List.set_cons_zero, List.set_cons_succ]
  refine wpTwo_one (j := 7) (by kernel_rfl) rfl (fun K2 hK => ?_)
  go_simp
  refine hK.out _ _ (fun h => absurd h (by decide)) ?_
  clear hK K2
  refine wpTwo_done (by kernel_rfl) ?_ _
  go_wp2_with fail
  go_ret
  exact HFIN.out
set_option maxRecDepth 100000 in
set_option maxHeartbeats 16000000 in
theorem apply_moveCursor {base : Nat} {w : World} {K M nm : Nat} {SS : Nat → Prop} {R : List Sess × Int} (hbase : base ≤ w.heap.size) (client page n0 : Int) (tag query : ByteArray) (au : Option Addr) (nu cu : Nat) (hcall : ∀ D, Below w.heap.size w D → Calls Tryz.prog 44 #[.pointer (some ⟨K, 0, none⟩), .agg #[.int .i64 4, .int .i64 client, .string tag, .string query, .int .i64 page, .slice au nu cu, .int .i64 n0]] D (StPost base D K M nm SS R)) :
    Calls Tryz.prog 16 #[.pointer (some ⟨K, 0, none⟩), .agg #[.int .i64 4, .int .i64 client, .string tag, .string query, .int .i64 page, .slice au nu cu, .int .i64 n0]] w (StPost base w K M nm SS R) := by
  have HC := hide hcall
  obtain ⟨x1, hx1⟩ : ∃ x, w.alloc (Obj.cells #[.int .i64 4, .int .i64 client, .string tag, .string query, .int .i64 page, .slice au nu cu, .int .i64 n0] 33) = x := ⟨_, rfl⟩
  have s1 : x1.heap.size = w.heap.size + 1 := by rw [← hx1]; exact Deep.nblk_alloc _ _
  have b1 : Below w.heap.size w x1 := by rw [← hx1]; exact (Below.refl _ _).alloc (Nat.le_refl _) _
  have o1 : Box x1 w.heap.size 33 #[.int .i64 4, .int .i64 client, .string tag, .string query, .int .i64 page, .slice au nu cu, .int .i64 n0] := by rw [← hx1]; exact Box.new _ _ _
  obtain ⟨Y, hY⟩ : ∃ x, x1.alloc (Obj.cells #[.nilFunc, .func (.func 41) #[] #[], .func (.func 42) #[] #[], .func (.func 43) #[] #[], .func (.func 44) #[] #[], .func (.func 45) #[] #[], .func (.func 46) #[] #[]] 76) = x := ⟨_, rfl⟩
  have b2 : Below x1.heap.size x1 Y := by rw [← hY]; exact (Below.refl _ _).alloc (Nat.le_refl _) _
  have hA : Box Y (w.heap.size + 1) 76 #[.nilFunc, .func (.func 41) #[] #[], .func (.func 42) #[] #[], .func (.func 43) #[] #[], .func (.func 44) #[] #[], .func (.func 45) #[] #[], .func (.func 46) #[] #[]] := by rw [← s1, ← hY]; exact Box.new _ _ _
  have hO := o1.below b2
  have HBY : Hid (Below w.heap.size w Y) := bjoin b2 b1
  have HYE : Hid ((w.alloc (Obj.cells #[.int .i64 4, .int .i64 client, .string tag, .string query, .int .i64 page, .slice au nu cu, .int .i64 n0] 33)).alloc (Obj.cells #[.nilFunc, .func (.func 41) #[] #[], .func (.func 42) #[] #[], .func (.func 43) #[] #[], .func (.func 44) #[] #[], .func (.func 45) #[] #[], .func (.func 46) #[] #[]] 76) = Y) := by show _ = _; rw [hx1, hY]
  obtain ⟨D, hDe⟩ : ∃ D, Y.drew = D := ⟨_, rfl⟩
  have hD : Below Y.heap.size Y D := by rw [← hDe]; exact (Below.refl _ _).drew
  have HDE := hide hDe
  have hOD := hO.below hD
  have hAD := hA.below hD
  have hSd : (fun U : World => U.cell? ⟨w.heap.size, 0, none⟩ = some (.int .i64 4) ∧ U.cell? ⟨w.heap.size, 1, none⟩ = some (.int .i64 client) ∧ U.cell? ⟨w.heap.size, 2, none⟩ = some (.string tag) ∧ U.cell? ⟨w.heap.size, 3, none⟩ = some (.string query) ∧ U.cell? ⟨w.heap.size, 4, none⟩ = some (.int .i64 page) ∧ U.cell? ⟨w.heap.size, 5, none⟩ = some (.slice au nu cu) ∧ U.cell? ⟨w.heap.size, 6, none⟩ = some (.int .i64 n0) ∧ U.cell? ⟨w.heap.size + 1, 4, none⟩ = some (.func (.func 44) #[] #[])) D := ⟨hOD.cell 0 (by simp), hOD.cell 1 (by simp), hOD.cell 2 (by simp), hOD.cell 3 (by simp), hOD.cell 4 (by simp), hOD.cell 5 (by simp), hOD.cell 6 (by simp), hAD.cell 4 (by simp)⟩
  have HSD := hide hSd
  have HBD := hide (bjoin hD HBY.out)
  have HCD := hide (HC.out D HBD.out)
  clear hcall hx1 s1 b1 o1 b2 hY hO hA hDe hD hOD hAD HC
  go_enter Tryz.func16, Tryz.ntmps16
  go_upto_region 2 with fail
  rw [HYE.out]
  refine wp_region_two (fun U : World => U.cell? ⟨w.heap.size, 0, none⟩ = some (.int .i64 4) ∧ U.cell? ⟨w.heap.size, 1, none⟩ = some (.int .i64 client) ∧ U.cell? ⟨w.heap.size, 2, none⟩ = some (.string tag) ∧ U.cell? ⟨w.heap.size, 3, none⟩ = some (.string query) ∧ U.cell? ⟨w.heap.size, 4, none⟩ = some (.int .i64 page) ∧ U.cell? ⟨w.heap.size, 5, none⟩ = some (.slice au nu cu) ∧ U.cell? ⟨w.heap.size, 6, none⟩ = some (.int .i64 n0) ∧ U.cell? ⟨w.heap.size + 1, 4, none⟩ = some (.func (.func 44) #[] #[])) 6 (by kernel_rfl) ?_
  rw [HDE.out]
  refine wpTwo_take (i := 4) (some 11) (v := ?v4_1) rfl rfl (by kernel_rfl) (by kernel_rfl) (by kernel_rfl) (by kernel_rfl) (fun _ _ _ h => h) hSd (Or.inl ⟨by rfl, ?hy4_1⟩) ?rest4_1
  case hy4_1 => (intro w hSw; (try dsimp only at hSw); go_simp; try with_reducible rfl)
  try simp only [Act.put, List.setIfInBounds_toArray, List.set_cons_zero, List.set_cons_succ]
  refine wpTwo_take (i := 5) (some 12) (v := ?v5_1) rfl rfl (by kernel_rfl) (by kernel_rfl) (by kernel_rfl) (by kernel_rfl) (fun _ _ _ h => h) hSd (Or.inl ⟨by rfl, ?hy5_1⟩) ?rest5_1
  case hy5_1 => (intro w hSw; (try dsimp only at hSw); go_simp; try with_reducible rfl)
  try simp only [Act.put, List.setIfInBounds_toArray, List.set_cons_zero, List.set_cons_succ]
  refine wpTwo_one (j := 0) (by kernel_rfl) rfl (fun K2 hK => ?_)
  go_simp
  refine hK.out _ _ (fun _ => HSD.out) ?_
  clear hK K2
  try simp only [Act.put, List.setIfInBounds_toArray, List.set_cons_zero, List.set_cons_succ]
  refine wpTwo_one (j := 1) (by kernel_rfl) rfl (fun K2 hK => ?_)
  go_simp
  refine hK.out _ _ (fun _ => HSD.out) ?_
  clear hK K2
  try simp only [Act.put, List.setIfInBounds_toArray, List.set_cons_zero, List.set_cons_succ]
  refine wpTwo_one (j := 2) (by kernel_rfl) rfl (fun K2 hK => ?_)
  go_simp
  refine hK.out _ _ (fun _ => HSD.out) ?_
  clear hK K2
  try simp only [Act.put, List.setIfInBounds_toArray, List.set_cons_zero, List.set_cons_succ]
  refine wpTwo_one (j := 3) (by kernel_rfl) rfl (fun K2 hK => ?_)
  go_simp
  refine hK.out _ _ (fun _ => HSD.out) ?_
  clear hK K2
  try simp only [Act.put, List.setIfInBounds_toArray, List.set_cons_zero, List.set_cons_succ]
  refine wpTwo_one (j := 6) (by kernel_rfl) rfl (fun K2 hK => ?_)
  go_simp
  refine HCD.out.mono ?_
  rintro e U ⟨code, rfl, hbk, hbl⟩
  have HFIN : Hid (StPost base w K M nm SS R (.returned (.int .i64 code)) U) := ⟨code, rfl, hbk.elim fun o1 h => h.elim fun o2 h => h.elim fun o3 h => h.elim fun o4 h => ⟨o1, o2, o3, o4, h.1, h.2.1, h.2.2.1, (Ft.below HBD.out).trans h.2.2.2⟩, (HBD.out.mono hbase).trans hbl⟩
  refine hK.out _ _ (fun h => absurd h (by decide)) ?_
  clear hK K2 hbk hbl
  try simp only [Act.put, List.setIfInBounds_toArray, List.set_cons_zero, List.set_cons_succ]
  refine wpTwo_one (j := 7) (by kernel_rfl) rfl (fun K2 hK => ?_)
  go_simp
  refine hK.out _ _ (fun h => absurd h (by decide)) ?_
  clear hK K2
  refine wpTwo_done (by kernel_rfl) ?_ _
  go_wp2_with fail
  go_ret
  exact HFIN.out
set_option maxRecDepth 100000 in
set_option maxHeartbeats 16000000 in
theorem apply_fail {base : Nat} {w : World} {K M nm : Nat} {SS : Nat → Prop} {R : List Sess × Int} (hbase : base ≤ w.heap.size) (client page n0 : Int) (tag query : ByteArray) (au : Option Addr) (nu cu : Nat) (hcall : ∀ D, Below w.heap.size w D → Calls Tryz.prog 45 #[.pointer (some ⟨K, 0, none⟩), .agg #[.int .i64 5, .int .i64 client, .string tag, .string query, .int .i64 page, .slice au nu cu, .int .i64 n0]] D (StPost base D K M nm SS R)) :
    Calls Tryz.prog 16 #[.pointer (some ⟨K, 0, none⟩), .agg #[.int .i64 5, .int .i64 client, .string tag, .string query, .int .i64 page, .slice au nu cu, .int .i64 n0]] w (StPost base w K M nm SS R) := by
  have HC := hide hcall
  obtain ⟨x1, hx1⟩ : ∃ x, w.alloc (Obj.cells #[.int .i64 5, .int .i64 client, .string tag, .string query, .int .i64 page, .slice au nu cu, .int .i64 n0] 33) = x := ⟨_, rfl⟩
  have s1 : x1.heap.size = w.heap.size + 1 := by rw [← hx1]; exact Deep.nblk_alloc _ _
  have b1 : Below w.heap.size w x1 := by rw [← hx1]; exact (Below.refl _ _).alloc (Nat.le_refl _) _
  have o1 : Box x1 w.heap.size 33 #[.int .i64 5, .int .i64 client, .string tag, .string query, .int .i64 page, .slice au nu cu, .int .i64 n0] := by rw [← hx1]; exact Box.new _ _ _
  obtain ⟨Y, hY⟩ : ∃ x, x1.alloc (Obj.cells #[.nilFunc, .func (.func 41) #[] #[], .func (.func 42) #[] #[], .func (.func 43) #[] #[], .func (.func 44) #[] #[], .func (.func 45) #[] #[], .func (.func 46) #[] #[]] 76) = x := ⟨_, rfl⟩
  have b2 : Below x1.heap.size x1 Y := by rw [← hY]; exact (Below.refl _ _).alloc (Nat.le_refl _) _
  have hA : Box Y (w.heap.size + 1) 76 #[.nilFunc, .func (.func 41) #[] #[], .func (.func 42) #[] #[], .func (.func 43) #[] #[], .func (.func 44) #[] #[], .func (.func 45) #[] #[], .func (.func 46) #[] #[]] := by rw [← s1, ← hY]; exact Box.new _ _ _
  have hO := o1.below b2
  have HBY : Hid (Below w.heap.size w Y) := bjoin b2 b1
  have HYE : Hid ((w.alloc (Obj.cells #[.int .i64 5, .int .i64 client, .string tag, .string query, .int .i64 page, .slice au nu cu, .int .i64 n0] 33)).alloc (Obj.cells #[.nilFunc, .func (.func 41) #[] #[], .func (.func 42) #[] #[], .func (.func 43) #[] #[], .func (.func 44) #[] #[], .func (.func 45) #[] #[], .func (.func 46) #[] #[]] 76) = Y) := by show _ = _; rw [hx1, hY]
  obtain ⟨D, hDe⟩ : ∃ D, Y.drew = D := ⟨_, rfl⟩
  have hD : Below Y.heap.size Y D := by rw [← hDe]; exact (Below.refl _ _).drew
  have HDE := hide hDe
  have hOD := hO.below hD
  have hAD := hA.below hD
  have hSd : (fun U : World => U.cell? ⟨w.heap.size, 0, none⟩ = some (.int .i64 5) ∧ U.cell? ⟨w.heap.size, 1, none⟩ = some (.int .i64 client) ∧ U.cell? ⟨w.heap.size, 2, none⟩ = some (.string tag) ∧ U.cell? ⟨w.heap.size, 3, none⟩ = some (.string query) ∧ U.cell? ⟨w.heap.size, 4, none⟩ = some (.int .i64 page) ∧ U.cell? ⟨w.heap.size, 5, none⟩ = some (.slice au nu cu) ∧ U.cell? ⟨w.heap.size, 6, none⟩ = some (.int .i64 n0) ∧ U.cell? ⟨w.heap.size + 1, 5, none⟩ = some (.func (.func 45) #[] #[])) D := ⟨hOD.cell 0 (by simp), hOD.cell 1 (by simp), hOD.cell 2 (by simp), hOD.cell 3 (by simp), hOD.cell 4 (by simp), hOD.cell 5 (by simp), hOD.cell 6 (by simp), hAD.cell 5 (by simp)⟩
  have HSD := hide hSd
  have HBD := hide (bjoin hD HBY.out)
  have HCD := hide (HC.out D HBD.out)
  clear hcall hx1 s1 b1 o1 b2 hY hO hA hDe hD hOD hAD HC
  go_enter Tryz.func16, Tryz.ntmps16
  go_upto_region 2 with fail
  rw [HYE.out]
  refine wp_region_two (fun U : World => U.cell? ⟨w.heap.size, 0, none⟩ = some (.int .i64 5) ∧ U.cell? ⟨w.heap.size, 1, none⟩ = some (.int .i64 client) ∧ U.cell? ⟨w.heap.size, 2, none⟩ = some (.string tag) ∧ U.cell? ⟨w.heap.size, 3, none⟩ = some (.string query) ∧ U.cell? ⟨w.heap.size, 4, none⟩ = some (.int .i64 page) ∧ U.cell? ⟨w.heap.size, 5, none⟩ = some (.slice au nu cu) ∧ U.cell? ⟨w.heap.size, 6, none⟩ = some (.int .i64 n0) ∧ U.cell? ⟨w.heap.size + 1, 5, none⟩ = some (.func (.func 45) #[] #[])) 6 (by kernel_rfl) ?_
  rw [HDE.out]
  refine wpTwo_take (i := 4) (some 11) (v := ?v4_1) rfl rfl (by kernel_rfl) (by kernel_rfl) (by kernel_rfl) (by kernel_rfl) (fun _ _ _ h => h) hSd (Or.inl ⟨by rfl, ?hy4_1⟩) ?rest4_1
  case hy4_1 => (intro w hSw; (try dsimp only at hSw); go_simp; try with_reducible rfl)
  try simp only [Act.put, List.setIfInBounds_toArray, List.set_cons_zero, List.set_cons_succ]
  refine wpTwo_take (i := 5) (some 12) (v := ?v5_1) rfl rfl (by kernel_rfl) (by kernel_rfl) (by kernel_rfl) (by kernel_rfl) (fun _ _ _ h => h) hSd (Or.inl ⟨by rfl, ?hy5_1⟩) ?rest5_1
  case hy5_1 => (intro w hSw; (try dsimp only at hSw); go_simp; try with_reducible rfl)
  try simp only [Act.put, List.setIfInBounds_toArray, List.set_cons_zero, List.set_cons_succ]
  refine wpTwo_one (j := 0) (by kernel_rfl) rfl (fun K2 hK => ?_)
  go_simp
  refine hK.out _ _ (fun _ => HSD.out) ?_
  clear hK K2
  try simp only [Act.put, List.setIfInBounds_toArray, List.set_cons_zero, List.set_cons_succ]
  refine wpTwo_one (j := 1) (by kernel_rfl) rfl (fun K2 hK => ?_)
  go_simp
  refine hK.out _ _ (fun _ => HSD.out) ?_
  clear hK K2
  try simp only [Act.put, List.setIfInBounds_toArray, List.set_cons_zero, List.set_cons_succ]
  refine wpTwo_one (j := 2) (by kernel_rfl) rfl (fun K2 hK => ?_)
  go_simp
  refine hK.out _ _ (fun _ => HSD.out) ?_
  clear hK K2
  try simp only [Act.put, List.setIfInBounds_toArray, List.set_cons_zero, List.set_cons_succ]
  refine wpTwo_one (j := 3) (by kernel_rfl) rfl (fun K2 hK => ?_)
  go_simp
  refine hK.out _ _ (fun _ => HSD.out) ?_
  clear hK K2
  try simp only [Act.put, List.setIfInBounds_toArray, List.set_cons_zero, List.set_cons_succ]
  refine wpTwo_one (j := 6) (by kernel_rfl) rfl (fun K2 hK => ?_)
  go_simp
  refine HCD.out.mono ?_
  rintro e U ⟨code, rfl, hbk, hbl⟩
  have HFIN : Hid (StPost base w K M nm SS R (.returned (.int .i64 code)) U) := ⟨code, rfl, hbk.elim fun o1 h => h.elim fun o2 h => h.elim fun o3 h => h.elim fun o4 h => ⟨o1, o2, o3, o4, h.1, h.2.1, h.2.2.1, (Ft.below HBD.out).trans h.2.2.2⟩, (HBD.out.mono hbase).trans hbl⟩
  refine hK.out _ _ (fun h => absurd h (by decide)) ?_
  clear hK K2 hbk hbl
  try simp only [Act.put, List.setIfInBounds_toArray, List.set_cons_zero, List.set_cons_succ]
  refine wpTwo_one (j := 7) (by kernel_rfl) rfl (fun K2 hK => ?_)
  go_simp
  refine hK.out _ _ (fun h => absurd h (by decide)) ?_
  clear hK K2
  refine wpTwo_done (by kernel_rfl) ?_ _
  go_wp2_with fail
  go_ret
  exact HFIN.out
set_option maxRecDepth 100000 in
set_option maxHeartbeats 16000000 in
theorem apply_shut {base : Nat} {w : World} {K M nm : Nat} {SS : Nat → Prop} {R : List Sess × Int} (hbase : base ≤ w.heap.size) (client page n0 : Int) (tag query : ByteArray) (au : Option Addr) (nu cu : Nat) (hcall : ∀ D, Below w.heap.size w D → Calls Tryz.prog 46 #[.pointer (some ⟨K, 0, none⟩), .agg #[.int .i64 6, .int .i64 client, .string tag, .string query, .int .i64 page, .slice au nu cu, .int .i64 n0]] D (StPost base D K M nm SS R)) :
    Calls Tryz.prog 16 #[.pointer (some ⟨K, 0, none⟩), .agg #[.int .i64 6, .int .i64 client, .string tag, .string query, .int .i64 page, .slice au nu cu, .int .i64 n0]] w (StPost base w K M nm SS R) := by
  have HC := hide hcall
  obtain ⟨x1, hx1⟩ : ∃ x, w.alloc (Obj.cells #[.int .i64 6, .int .i64 client, .string tag, .string query, .int .i64 page, .slice au nu cu, .int .i64 n0] 33) = x := ⟨_, rfl⟩
  have s1 : x1.heap.size = w.heap.size + 1 := by rw [← hx1]; exact Deep.nblk_alloc _ _
  have b1 : Below w.heap.size w x1 := by rw [← hx1]; exact (Below.refl _ _).alloc (Nat.le_refl _) _
  have o1 : Box x1 w.heap.size 33 #[.int .i64 6, .int .i64 client, .string tag, .string query, .int .i64 page, .slice au nu cu, .int .i64 n0] := by rw [← hx1]; exact Box.new _ _ _
  obtain ⟨Y, hY⟩ : ∃ x, x1.alloc (Obj.cells #[.nilFunc, .func (.func 41) #[] #[], .func (.func 42) #[] #[], .func (.func 43) #[] #[], .func (.func 44) #[] #[], .func (.func 45) #[] #[], .func (.func 46) #[] #[]] 76) = x := ⟨_, rfl⟩
  have b2 : Below x1.heap.size x1 Y := by rw [← hY]; exact (Below.refl _ _).alloc (Nat.le_refl _) _
  have hA : Box Y (w.heap.size + 1) 76 #[.nilFunc, .func (.func 41) #[] #[], .func (.func 42) #[] #[], .func (.func 43) #[] #[], .func (.func 44) #[] #[], .func (.func 45) #[] #[], .func (.func 46) #[] #[]] := by rw [← s1, ← hY]; exact Box.new _ _ _
  have hO := o1.below b2
  have HBY : Hid (Below w.heap.size w Y) := bjoin b2 b1
  have HYE : Hid ((w.alloc (Obj.cells #[.int .i64 6, .int .i64 client, .string tag, .string query, .int .i64 page, .slice au nu cu, .int .i64 n0] 33)).alloc (Obj.cells #[.nilFunc, .func (.func 41) #[] #[], .func (.func 42) #[] #[], .func (.func 43) #[] #[], .func (.func 44) #[] #[], .func (.func 45) #[] #[], .func (.func 46) #[] #[]] 76) = Y) := by show _ = _; rw [hx1, hY]
  obtain ⟨D, hDe⟩ : ∃ D, Y.drew = D := ⟨_, rfl⟩
  have hD : Below Y.heap.size Y D := by rw [← hDe]; exact (Below.refl _ _).drew
  have HDE := hide hDe
  have hOD := hO.below hD
  have hAD := hA.below hD
  have hSd : (fun U : World => U.cell? ⟨w.heap.size, 0, none⟩ = some (.int .i64 6) ∧ U.cell? ⟨w.heap.size, 1, none⟩ = some (.int .i64 client) ∧ U.cell? ⟨w.heap.size, 2, none⟩ = some (.string tag) ∧ U.cell? ⟨w.heap.size, 3, none⟩ = some (.string query) ∧ U.cell? ⟨w.heap.size, 4, none⟩ = some (.int .i64 page) ∧ U.cell? ⟨w.heap.size, 5, none⟩ = some (.slice au nu cu) ∧ U.cell? ⟨w.heap.size, 6, none⟩ = some (.int .i64 n0) ∧ U.cell? ⟨w.heap.size + 1, 6, none⟩ = some (.func (.func 46) #[] #[])) D := ⟨hOD.cell 0 (by simp), hOD.cell 1 (by simp), hOD.cell 2 (by simp), hOD.cell 3 (by simp), hOD.cell 4 (by simp), hOD.cell 5 (by simp), hOD.cell 6 (by simp), hAD.cell 6 (by simp)⟩
  have HSD := hide hSd
  have HBD := hide (bjoin hD HBY.out)
  have HCD := hide (HC.out D HBD.out)
  clear hcall hx1 s1 b1 o1 b2 hY hO hA hDe hD hOD hAD HC
  go_enter Tryz.func16, Tryz.ntmps16
  go_upto_region 2 with fail
  rw [HYE.out]
  refine wp_region_two (fun U : World => U.cell? ⟨w.heap.size, 0, none⟩ = some (.int .i64 6) ∧ U.cell? ⟨w.heap.size, 1, none⟩ = some (.int .i64 client) ∧ U.cell? ⟨w.heap.size, 2, none⟩ = some (.string tag) ∧ U.cell? ⟨w.heap.size, 3, none⟩ = some (.string query) ∧ U.cell? ⟨w.heap.size, 4, none⟩ = some (.int .i64 page) ∧ U.cell? ⟨w.heap.size, 5, none⟩ = some (.slice au nu cu) ∧ U.cell? ⟨w.heap.size, 6, none⟩ = some (.int .i64 n0) ∧ U.cell? ⟨w.heap.size + 1, 6, none⟩ = some (.func (.func 46) #[] #[])) 6 (by kernel_rfl) ?_
  rw [HDE.out]
  refine wpTwo_take (i := 4) (some 11) (v := ?v4_1) rfl rfl (by kernel_rfl) (by kernel_rfl) (by kernel_rfl) (by kernel_rfl) (fun _ _ _ h => h) hSd (Or.inl ⟨by rfl, ?hy4_1⟩) ?rest4_1
  case hy4_1 => (intro w hSw; (try dsimp only at hSw); go_simp; try with_reducible rfl)
  try simp only [Act.put, List.setIfInBounds_toArray, List.set_cons_zero, List.set_cons_succ]
  refine wpTwo_take (i := 5) (some 12) (v := ?v5_1) rfl rfl (by kernel_rfl) (by kernel_rfl) (by kernel_rfl) (by kernel_rfl) (fun _ _ _ h => h) hSd (Or.inl ⟨by rfl, ?hy5_1⟩) ?rest5_1
  case hy5_1 => (intro w hSw; (try dsimp only at hSw); go_simp; try with_reducible rfl)
  try simp only [Act.put, List.setIfInBounds_toArray, List.set_cons_zero, List.set_cons_succ]
  refine wpTwo_one (j := 0) (by kernel_rfl) rfl (fun K2 hK => ?_)
  go_simp
  refine hK.out _ _ (fun _ => HSD.out) ?_
  clear hK K2
  try simp only [Act.put, List.setIfInBounds_toArray, List.set_cons_zero, List.set_cons_succ]
  refine wpTwo_one (j := 1) (by kernel_rfl) rfl (fun K2 hK => ?_)
  go_simp
  refine hK.out _ _ (fun _ => HSD.out) ?_
  clear hK K2
  try simp only [Act.put, List.setIfInBounds_toArray, List.set_cons_zero, List.set_cons_succ]
  refine wpTwo_one (j := 2) (by kernel_rfl) rfl (fun K2 hK => ?_)
  go_simp
  refine hK.out _ _ (fun _ => HSD.out) ?_
  clear hK K2
  try simp only [Act.put, List.setIfInBounds_toArray, List.set_cons_zero, List.set_cons_succ]
  refine wpTwo_one (j := 3) (by kernel_rfl) rfl (fun K2 hK => ?_)
  go_simp
  refine hK.out _ _ (fun _ => HSD.out) ?_
  clear hK K2
  try simp only [Act.put, List.setIfInBounds_toArray, List.set_cons_zero, List.set_cons_succ]
  refine wpTwo_one (j := 6) (by kernel_rfl) rfl (fun K2 hK => ?_)
  go_simp
  refine HCD.out.mono ?_
  rintro e U ⟨code, rfl, hbk, hbl⟩
  have HFIN : Hid (StPost base w K M nm SS R (.returned (.int .i64 code)) U) := ⟨code, rfl, hbk.elim fun o1 h => h.elim fun o2 h => h.elim fun o3 h => h.elim fun o4 h => ⟨o1, o2, o3, o4, h.1, h.2.1, h.2.2.1, (Ft.below HBD.out).trans h.2.2.2⟩, (HBD.out.mono hbase).trans hbl⟩
  refine hK.out _ _ (fun h => absurd h (by decide)) ?_
  clear hK K2 hbk hbl
  try simp only [Act.put, List.setIfInBounds_toArray, List.set_cons_zero, List.set_cons_succ]
  refine wpTwo_one (j := 7) (by kernel_rfl) rfl (fun K2 hK => ?_)
  go_simp
  refine hK.out _ _ (fun h => absurd h (by decide)) ?_
  clear hK K2
  refine wpTwo_done (by kernel_rfl) ?_ _
  go_wp2_with fail
  go_ret
  exact HFIN.out
end Go.Proofs.YtpmnepalchgcbaaGreatDoor.Msg
