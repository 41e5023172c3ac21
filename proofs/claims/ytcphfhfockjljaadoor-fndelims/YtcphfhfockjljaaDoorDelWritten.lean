import Derived.Test.YtcphfhfockjljaaDoorDelComp
import Derived.Deep.CutBlock
import Derived.Test.YtcphfhfockjljaaDoorPhase
namespace Go.Proofs.YtcphfhfockjljaaDoor.Msg
open Go.ChangeShapes Go.WideShapes Go.ChangeAt Go.RowKit
set_option linter.unusedVariables false
set_option linter.unusedSimpArgs false

/-! wWritten: a message with other delimiters -/
def dlD (d : Dl) (k : Nat) : List UInt8 := if k = 0 then d.list else []
theorem segE_eq (d : Dl) (k : Nat) (s : Seg) : segE d k s = s.name.data.toList ++ dlD d k ++ ledW d.c0 (fieldD d) s.fields ++ [13] := rfl
theorem three {nm : ByteArray} (h : nm.size = 3) : nm.data.toList = [nm[0], nm[1], nm[2]] := by
  have e : nm.data.toList.length = 3 := by simpa using h
  match hl : nm.data.toList, e with
  | [a, b, c], _ =>
    have e0 : nm[0] = nm.data.toList[0]'(by rw [hl]; simp) := by simp [ByteArray.getElem_eq_getElem_data]
    have e1 : nm[1] = nm.data.toList[1]'(by rw [hl]; simp) := by simp [ByteArray.getElem_eq_getElem_data]
    have e2 : nm[2] = nm.data.toList[2]'(by rw [hl]; simp) := by simp [ByteArray.getElem_eq_getElem_data]
    rw [e0, e1, e2]
    simp [hl]
theorem list_take (d : Dl) : ∀ j, j < 5 → d.list.take (j + 1) = d.list.take j ++ [d.at j]
  | 0, _ => rfl
  | 1, _ => rfl
  | 2, _ => rfl
  | 3, _ => rfl
  | 4, _ => rfl
  | n + 5, h => absurd h (by omega)
theorem joined_nil {α : Type} (c : UInt8) (f : α → List UInt8) (xs : List α) : joined c f (xs.take 0) = [] := by simp [joined]

set_option maxRecDepth 100000 in
set_option maxHeartbeats 16000000 in
theorem wWritten_any (xs : List Seg) (v : Value) (ds : ByteArray) (d : Dl) (w : World) (hd : d.Ok) (hds : ds.size = 5) (hda : ∀ j (h : j < ds.size), ds[j] = d.at j) (hnm : ∀ k (h : k < xs.length), xs[k].name.size = 3) (hsz : msgSz xs ≤ 1048576) {lo : Nat} (hv : SegsAt lo w v xs) :
    Calls Tryd.prog 8 #[.agg #[v], .string ds] w fun e w' => e = .returned (.string (txt (msgD d xs))) ∧ Below w.heap.size w w' := by
  have hmw : (msgD d xs).length ≤ 6291456 := by have := msgD_le d xs; omega
  have hlx : xs.length ≤ 1048576 := by unfold msgSz lenSum at hsz; omega
  obtain ⟨a, cap, rfl, hc⟩ := hv.form
  have HC := hide hc
  have HNM := hide hnm
  have HDA := hide hda
  have HOK := hide hd
  have d0 : ds[0] = d.c0 := hda 0 (by omega)
  have d1 : ds[1] = d.c1 := hda 1 (by omega)
  have d2 : ds[2] = d.c2 := hda 2 (by omega)
  obtain ⟨n, hn⟩ : ∃ n, xs.length = n := ⟨_, rfl⟩
  have HN := hide hn
  rw [hn]
  clear hc hv hnm hda hd hn
  go_enter Tryd.func8, Tryd.ntmps8
  go_wp2_with fail
  go_loopg [5, 6] n (fun q v3 i wr => ∃ k : Nat, k ≤ n ∧ q = n - k ∧ i = .int .i64 (k : Int) ∧ Buf (w.heap.size + 1) wr v3 (msgD d (xs.take k)) ∧ Below (w.heap.size + 1) (w.alloc (.cells #[.slice a n cap] 25)) wr)
  case atStart => exact ⟨0, Nat.zero_le _, rfl, rfl, by simpa [msgD] using Buf.empty (w.heap.size + 1) (w.alloc (.cells #[.slice a n cap] 25)) (by simp), (Below.refl _ _).alloc (by simp) _⟩
  case round =>
    obtain ⟨k, hk, rfl, rfl, hbuf, hb⟩ := hrel
    obtain ⟨W1, rfl⟩ : ∃ x, x = wr := ⟨_, rfl⟩
    obtain ⟨V1, rfl⟩ : ∃ x, x = u5 := ⟨_, rfl⟩
    have hm : W1.cell? ⟨w.heap.size, 0, none⟩ = some (.slice a n cap) := by rw [hb.cell (p := ⟨w.heap.size, 0, none⟩) (by simp)]; simp
    by_cases hlt : k < n
    · have hltx : k < xs.length := by have := HN.out; omega
      obtain ⟨b, off, rfl, _, hbl, hc0, hns, ve, hc1, hel⟩ := HC.out k hltx
      have hkn : (k : Int) < (n : Int) := by omega
      have hroom := msgD_room d xs k hltx
      have HS : Hid (msgD d (xs.take (k + 1)) = msgD d (xs.take k) ++ xs[k].name.data.toList ++ dlD d k ++ ledW d.c0 (fieldD d) xs[k].fields ++ [13]) := by rw [msgD_snoc d xs k hltx, segE_eq]; simp only [List.append_assoc]; trivial
      have hn3 := HNM.out k hltx
      obtain ⟨sg, hsg⟩ : ∃ s, xs[k] = s := ⟨_, rfl⟩
      rw [hsg] at hc0 hel hroom HS hn3 hns
      rw [segE_eq] at hroom
      obtain ⟨a2, cap2, rfl, hcf⟩ := hel.form
      have HF := hide hcf
      have hlf : sg.fields.length ≤ 9223372036854775807 := hel.1
      obtain ⟨nm, hnme⟩ : ∃ x, sg.name = x := ⟨_, rfl⟩
      obtain ⟨fs, hfse⟩ : ∃ x, sg.fields = x := ⟨_, rfl⟩
      rw [hnme] at hc0 hroom HS hn3 hns
      rw [hfse] at HF hroom HS hlf hc1
      obtain ⟨nf, hnf⟩ : ∃ x, fs.length = x := ⟨_, rfl⟩
      have HNF := hide hnf
      rw [hnf] at hlf hc1
      have hz : w.heap.size + 1 ≤ W1.heap.size := by have := hb.size; simp at this; omega
      have hop := hbuf.own
      have FR : Hid (∀ wX vX, Grew W1 V1 wX vX → Below (w.heap.size + 1) (w.alloc (.cells #[.slice (some ⟨b, off, none⟩) n cap] 25)) wX ∧ Below w.heap.size w wX ∧ w.heap.size + 1 ≤ wX.heap.size ∧
          wX.cell? ⟨w.heap.size, 0, none⟩ = some (.slice (some ⟨b, off, none⟩) n cap) ∧ wX.cell? ⟨b, off + k * 2, none⟩ = some (.string nm) ∧ wX.cell? ⟨b, off + k * 2 + 1, none⟩ = some (.slice a2 nf cap2)) := fun wX vX hg => by
        have h1 := hb.trans (hg.below hop (by omega))
        have h2 : Below w.heap.size w wX := ((Below.refl w.heap.size w).alloc (Nat.le_refl _) _).trans (h1.mono (by omega))
        refine ⟨h1, h2, by have := hg.1.size; omega, ?_, ?_, ?_⟩
        · rw [h1.cell (p := ⟨w.heap.size, 0, none⟩) (by simp)]; simp
        · rw [h2.cell (p := ⟨b, off + k * 2, none⟩) hbl]; exact hc0
        · rw [h2.cell (p := ⟨b, off + k * 2 + 1, none⟩) hbl]; exact hc1
      have H3 := hide (three hn3)
      have hnl : nm.data.toList.length = 3 := by simpa using hn3
      have hP0 : (msgD d (xs.take k)).length + 3 + (dlD d k).length + (ledW d.c0 (fieldD d) fs).length + 1 ≤ 6291456 := by
        simp only [List.length_append, List.length_singleton, hnl] at hroom
        omega
      obtain ⟨P0, hP0e⟩ : ∃ P, msgD d (xs.take k) = P := ⟨_, rfl⟩
      rw [hP0e] at hP0 hbuf HS
      have HBUF := hide hbuf
      obtain ⟨D, hD⟩ : ∃ D, W1.drew = D := ⟨_, rfl⟩
      have hbD : Below W1.heap.size W1 D := by rw [← hD]; exact (Below.refl _ _).drew
      have gD := (Grew.refl W1 V1).ofB hbD
      obtain ⟨_, _, hzD, q0, q1, _⟩ := FR.out D V1 gD
      have lD0 : w.heap.size < D.heap.size := by omega
      have lDb : b < D.heap.size := by omega
      obtain ⟨av, capv, hv1, _, _⟩ := hbuf.form
      obtain ⟨n0, hn0⟩ : ∃ n, P0.length = n := ⟨_, rfl⟩
      rw [hn0] at hv1
      subst hv1
      obtain ⟨v', w', hr, hb', hg'⟩ := (hbuf.keepB hbD).run3 nm[0] nm[1] nm[2] 22 hzD (by omega)
      have HB' : Hid (Buf (w.heap.size + 1) w' v' (P0 ++ nm.data.toList) ∧ Grew W1 (.slice av n0 capv) w' v') := ⟨by rw [H3.out]; exact hb', gD.trans hg'⟩
      have k0 : 0 < nm.size := by omega
      have k1 : 1 < nm.size := by omega
      have k2 : 2 < nm.size := by omega
      clear hc0 hc1 hcf hel hbuf hb hroom hsg hnme hfse hnf hP0e hbD hb' hg' hn0
      have hSd : (fun U : World => U.cell? ⟨w.heap.size, 0, none⟩ = some (.slice (some ⟨b, off, none⟩) n cap) ∧ U.cell? ⟨b, off + k * 2, none⟩ = some (.string nm)) D := ⟨q0, q1⟩
      have hSa : (fun U : World => U.cell? ⟨w.heap.size, 0, none⟩ = some (.slice (some ⟨b, off, none⟩) n cap) ∧ U.cell? ⟨b, off + k * 2, none⟩ = some (.string nm)) (D.alloc (.cells #[.int .u8 (nm[0].toNat : Int), .int .u8 (nm[1].toNat : Int), .int .u8 (nm[2].toNat : Int)] 5)) := by
        obtain ⟨_, _, _, e0, e1, _⟩ := FR.out _ _ (gD.alloc (.cells #[.int .u8 (nm[0].toNat : Int), .int .u8 (nm[1].toNat : Int), .int .u8 (nm[2].toNat : Int)] 5))
        exact ⟨e0, e1⟩
      have hS6 : (fun U : World => U.cell? ⟨w.heap.size, 0, none⟩ = some (.slice (some ⟨b, off, none⟩) n cap) ∧ U.cell? ⟨b, off + k * 2, none⟩ = some (.string nm)) w' := by
        obtain ⟨_, _, _, e0, e1, _⟩ := FR.out _ _ HB'.out.2
        exact ⟨e0, e1⟩
      clear q0 q1 gD
      go_upto_region 5 with fail
      refine wp_region_two (fun U : World => U.cell? ⟨w.heap.size, 0, none⟩ = some (.slice (some ⟨b, off, none⟩) n cap) ∧ U.cell? ⟨b, off + k * 2, none⟩ = some (.string nm)) 24 (by kernel_rfl) ?_
      rw [hD]
      clear hD
      refine wpTwo_take (i := 0) (some 20) (v := ?v0_5) rfl rfl (by kernel_rfl) (by kernel_rfl) (by kernel_rfl) (by kernel_rfl) (fun _ _ _ h => h) hSd (Or.inl ⟨by rfl, ?hy0_5⟩) ?rest0_5
      case hy0_5 => (intro w hSw; (try dsimp only at hSw); go_simp; try with_reducible rfl)
      try simp only [Act.put, List.setIfInBounds_toArray, List.set_cons_zero, List.set_cons_succ]
      refine wpTwo_take (i := 1) (some 21) (v := ?v1_5) rfl rfl (by kernel_rfl) (by kernel_rfl) (by kernel_rfl) (by kernel_rfl) (fun _ _ _ h => h) hSd (Or.inl ⟨by rfl, ?hy1_5⟩) ?rest1_5
      case hy1_5 => (intro w hSw; (try dsimp only at hSw); go_simp; try with_reducible rfl)
      try simp only [Act.put, List.setIfInBounds_toArray, List.set_cons_zero, List.set_cons_succ]
      refine wpTwo_take (i := 2) (some 22) (v := ?v2_5) rfl rfl (by kernel_rfl) (by kernel_rfl) (by kernel_rfl) (by kernel_rfl) (fun _ _ _ h => h) hSd (Or.inl ⟨by rfl, ?hy2_5⟩) ?rest2_5
      case hy2_5 => (intro w hSw; (try dsimp only at hSw); go_simp; try with_reducible rfl)
      try simp only [Act.put, List.setIfInBounds_toArray, List.set_cons_zero, List.set_cons_succ]
      refine wpTwo_take (i := 3) (some 23) (v := ?v3_5) rfl rfl (by kernel_rfl) (by kernel_rfl) (by kernel_rfl) (by kernel_rfl) (fun _ _ _ h => h) hSd (Or.inl ⟨by rfl, ?hy3_5⟩) ?rest3_5
      case hy3_5 => (intro w hSw; (try dsimp only at hSw); go_simp; try with_reducible rfl)
      try simp only [Act.put, List.setIfInBounds_toArray, List.set_cons_zero, List.set_cons_succ]
      refine wpTwo_take (i := 4) (some 24) (v := ?v4_5) rfl rfl (by kernel_rfl) (by kernel_rfl) (by kernel_rfl) (by kernel_rfl) (fun _ _ _ h => h) hSd (Or.inl ⟨by rfl, ?hy4_5⟩) ?rest4_5
      case hy4_5 => (intro w hSw; (try dsimp only at hSw); go_simp; try with_reducible rfl)
      try simp only [Act.put, List.setIfInBounds_toArray, List.set_cons_zero, List.set_cons_succ]
      refine wpTwo_take (i := 5) (some 25) (v := ?v5_5) rfl rfl (by kernel_rfl) (by kernel_rfl) (by kernel_rfl) (by kernel_rfl) (fun _ _ _ h => h) hSd (Or.inl ⟨by rfl, ?hy5_5⟩) ?rest5_5
      case hy5_5 => (intro w hSw; (try dsimp only at hSw); go_simp; try with_reducible rfl)
      try simp only [Act.put, List.setIfInBounds_toArray, List.set_cons_zero, List.set_cons_succ]
      refine wpTwo_take (i := 6) (some 26) (v := ?v6_5) rfl rfl (by kernel_rfl) (by kernel_rfl) (by kernel_rfl) (by kernel_rfl) (fun _ _ _ h => h) hSd (Or.inl ⟨by rfl, ?hy6_5⟩) ?rest6_5
      case hy6_5 => (intro w hSw; (try dsimp only at hSw); go_simp; try with_reducible rfl)
      try simp only [Act.put, List.setIfInBounds_toArray, List.set_cons_zero, List.set_cons_succ]
      refine wpTwo_take (i := 7) (some 27) (v := ?v7_5) rfl rfl (by kernel_rfl) (by kernel_rfl) (by kernel_rfl) (by kernel_rfl) (fun _ _ _ h => h) hSd (Or.inl ⟨by rfl, ?hy7_5⟩) ?rest7_5
      case hy7_5 => (intro w hSw; (try dsimp only at hSw); go_simp; try with_reducible rfl)
      try simp only [Act.put, List.setIfInBounds_toArray, List.set_cons_zero, List.set_cons_succ]
      refine wpTwo_take (i := 8) (some 28) (v := ?v8_5) rfl rfl (by kernel_rfl) (by kernel_rfl) (by kernel_rfl) (by kernel_rfl) (fun _ _ _ h => h) hSd (Or.inl ⟨by rfl, ?hy8_5⟩) ?rest8_5
      case hy8_5 => (intro w hSw; (try dsimp only at hSw); go_simp; try with_reducible rfl)
      try simp only [Act.put, List.setIfInBounds_toArray, List.set_cons_zero, List.set_cons_succ]
      refine wpTwo_take (i := 9) (some 29) (v := ?v9_5) rfl rfl (by kernel_rfl) (by kernel_rfl) (by kernel_rfl) (by kernel_rfl) (fun _ _ _ h => h) hSd (Or.inl ⟨by rfl, ?hy9_5⟩) ?rest9_5
      case hy9_5 => (intro w hSw; (try dsimp only at hSw); go_simp; try with_reducible rfl)
      try simp only [Act.put, List.setIfInBounds_toArray, List.set_cons_zero, List.set_cons_succ]
      refine wpTwo_take (i := 10) (some 30) (v := ?v10_5) rfl rfl (by kernel_rfl) (by kernel_rfl) (by kernel_rfl) (by kernel_rfl) (fun _ _ _ h => h) hSd (Or.inl ⟨by rfl, ?hy10_5⟩) ?rest10_5
      case hy10_5 => (intro w hSw; (try dsimp only at hSw); go_simp; try with_reducible rfl)
      try simp only [Act.put, List.setIfInBounds_toArray, List.set_cons_zero, List.set_cons_succ]
      refine wpTwo_take (i := 11) (some 31) (v := ?v11_5) rfl rfl (by kernel_rfl) (by kernel_rfl) (by kernel_rfl) (by kernel_rfl) (fun _ _ _ h => h) hSd (Or.inl ⟨by rfl, ?hy11_5⟩) ?rest11_5
      case hy11_5 => (intro w hSw; (try dsimp only at hSw); go_simp; try with_reducible rfl)
      try simp only [Act.put, List.setIfInBounds_toArray, List.set_cons_zero, List.set_cons_succ]
      refine wpTwo_take (i := 12) (some 32) (v := ?v12_5) rfl rfl (by kernel_rfl) (by kernel_rfl) (by kernel_rfl) (by kernel_rfl) (fun _ _ _ h => h) hSd (Or.inl ⟨by rfl, ?hy12_5⟩) ?rest12_5
      case hy12_5 => (intro w hSw; (try dsimp only at hSw); go_simp; try with_reducible rfl)
      try simp only [Act.put, List.setIfInBounds_toArray, List.set_cons_zero, List.set_cons_succ]
      refine wpTwo_take (i := 13) (some 33) (v := ?v13_5) rfl rfl (by kernel_rfl) (by kernel_rfl) (by kernel_rfl) (by kernel_rfl) (fun _ _ _ h => h) hSd (Or.inl ⟨by rfl, ?hy13_5⟩) ?rest13_5
      case hy13_5 => (intro w hSw; (try dsimp only at hSw); go_simp; try with_reducible rfl)
      try simp only [Act.put, List.setIfInBounds_toArray, List.set_cons_zero, List.set_cons_succ]
      refine wpTwo_take (i := 14) (some 34) (v := ?v14_5) rfl rfl (by kernel_rfl) (by kernel_rfl) (by kernel_rfl) (by kernel_rfl) (fun _ _ _ h => h) hSd (Or.inl ⟨by rfl, ?hy14_5⟩) ?rest14_5
      case hy14_5 => (intro w hSw; (try dsimp only at hSw); go_simp; try with_reducible rfl)
      try simp only [Act.put, List.setIfInBounds_toArray, List.set_cons_zero, List.set_cons_succ]
      refine wpTwo_take (i := 15) (some 35) (v := ?v15_5) rfl rfl (by kernel_rfl) (by kernel_rfl) (by kernel_rfl) (by kernel_rfl) (fun _ _ _ h => h) hSd (Or.inl ⟨by rfl, ?hy15_5⟩) ?rest15_5
      case hy15_5 => (intro w hSw; (try dsimp only at hSw); go_simp; try with_reducible rfl)
      try simp only [Act.put, List.setIfInBounds_toArray, List.set_cons_zero, List.set_cons_succ]
      refine wpTwo_take (i := 16) (some 36) (v := ?v16_5) rfl rfl (by kernel_rfl) (by kernel_rfl) (by kernel_rfl) (by kernel_rfl) (fun _ _ _ h => h) hSd (Or.inl ⟨by rfl, ?hy16_5⟩) ?rest16_5
      case hy16_5 => (intro w hSw; (try dsimp only at hSw); go_simp; try with_reducible rfl)
      try simp only [Act.put, List.setIfInBounds_toArray, List.set_cons_zero, List.set_cons_succ]
      refine wpTwo_take (i := 17) (some 37) (v := ?v17_5) rfl rfl (by kernel_rfl) (by kernel_rfl) (by kernel_rfl) (by kernel_rfl) (fun _ _ _ h => h) hSd (Or.inl ⟨by rfl, ?hy17_5⟩) ?rest17_5
      case hy17_5 => (intro w hSw; (try dsimp only at hSw); go_simp; try with_reducible rfl)
      try simp only [Act.put, List.setIfInBounds_toArray, List.set_cons_zero, List.set_cons_succ]
      refine wpTwo_take (i := 18) (some 38) (v := ?v18_5) rfl rfl (by kernel_rfl) (by kernel_rfl) (by kernel_rfl) (by kernel_rfl) (fun _ _ _ h => h) hSd (Or.inl ⟨by rfl, ?hy18_5⟩) ?rest18_5
      case hy18_5 => (intro w hSw; (try dsimp only at hSw); go_simp; try with_reducible rfl)
      try simp only [Act.put, List.setIfInBounds_toArray, List.set_cons_zero, List.set_cons_succ]
      refine wpTwo_take (i := 19) (some 39) (v := ?v19_5) rfl rfl (by kernel_rfl) (by kernel_rfl) (by kernel_rfl) (by kernel_rfl) (fun _ _ _ h => h) hSd (Or.inl ⟨by rfl, ?hy19_5⟩) ?rest19_5
      case hy19_5 => (intro w hSw; (try dsimp only at hSw); go_simp; try with_reducible rfl)
      try simp only [Act.put, List.setIfInBounds_toArray, List.set_cons_zero, List.set_cons_succ]
      refine wpTwo_take (i := 20) (some 40) (v := ?v20_5) rfl rfl (by kernel_rfl) (by kernel_rfl) (by kernel_rfl) (by kernel_rfl) (fun _ _ _ h => h) hSd (Or.inl ⟨by rfl, ?hy20_5⟩) ?rest20_5
      case hy20_5 => (intro w hSw; (try dsimp only at hSw); go_simp; try with_reducible rfl)
      try simp only [Act.put, List.setIfInBounds_toArray, List.set_cons_zero, List.set_cons_succ]
      refine wpTwo_take (i := 21) (some 41) (v := ?v21_5) rfl rfl (by kernel_rfl) (by kernel_rfl) (by kernel_rfl) (by kernel_rfl) (fun _ _ _ h => h) hSd (Or.inl ⟨by rfl, ?hy21_5⟩) ?rest21_5
      case hy21_5 => (intro w hSw; (try dsimp only at hSw); go_simp; try with_reducible rfl)
      try simp only [Act.put, List.setIfInBounds_toArray, List.set_cons_zero, List.set_cons_succ]
      refine wpTwo_one (j := 22) (by kernel_rfl) rfl (fun K hK => ?_)
      go_simp
      refine hK.out _ _ (fun _ => hSa) ?_
      clear hK K
      try simp only [Act.put, List.setIfInBounds_toArray, List.set_cons_zero, List.set_cons_succ]
      refine wpTwo_one (j := 23) (by kernel_rfl) rfl (fun K hK => ?_)
      refine step_app rfl _ _ 22 rfl hr (by first | rfl | simp [Act.eval, Act.put]) (by first | rfl | simp [Act.eval, Act.put]) ?_
      show K (Act.put _ (some 43) _) _
      refine hK.out _ _ (fun _ => hS6) ?_
      clear hK K
      try simp only [Act.put, List.setIfInBounds_toArray, List.set_cons_zero, List.set_cons_succ]
      refine wpTwo_one (j := 24) (by kernel_rfl) rfl (fun K hK => ?_)
      go_simp
      refine hK.out _ _ (fun h => absurd h (by decide)) ?_
      clear hK K
      refine wpTwo_done (by kernel_rfl) ?_ _
      clear hSd hSa hS6 hr hm k0 k1 k2 hzD lD0 lDb
      obtain ⟨P1, hP1e⟩ : ∃ P, P0 ++ nm.data.toList = P := ⟨_, rfl⟩
      have hP1 : P1.length + (dlD d k).length + (ledW d.c0 (fieldD d) fs).length + 1 ≤ 6291456 := by rw [← hP1e, List.length_append]; omega
      rw [hP1e] at HB' HS
      have HB1 := hide HB'.out.1
      have HG1 := hide HB'.out.2
      obtain ⟨VV, hVV⟩ : ∃ v, Value.slice av n0 capv = v := ⟨_, rfl⟩
      rw [hVV] at FR HG1
      have HVV := hide hVV
      clear HB' hP1e HBUF H3 hVV
      go_upto_block 2 with fail
      go_cut [5] (fun s5 wx => Buf (w.heap.size + 1) wx s5 (P1 ++ dlD d k) ∧ Grew W1 VV wx s5)
      case first =>
        go_wp2_with fail
        go_loopg [5, 7] 5 (fun q v5 j wr => ∃ y : Nat, y ≤ 5 ∧ q = 5 - y ∧ Hid (k ≠ 0 → y = 0) ∧ j = .int .i64 (y : Int) ∧ Buf (w.heap.size + 1) wr v5 (P1 ++ d.list.take y) ∧ Grew W1 VV wr v5)
        case atStart => exact ⟨0, Nat.zero_le _, rfl, hide (fun _ => rfl), rfl, by simpa using HB1.out, HG1.out⟩
        case round =>
          obtain ⟨y, hy, rfl, hky, rfl, hbuf, hg⟩ := hrel
          obtain ⟨W2, rfl⟩ : ∃ x, x = wr := ⟨_, rfl⟩
          obtain ⟨V2, rfl⟩ : ∃ x, x = u5 := ⟨_, rfl⟩
          have HBU := hide hbuf
          have HGU := hide hg
          clear hbuf hg
          by_cases hk0 : k = 0
          · have hkb : ((k : Int) == 0) = true := by simp; omega
            by_cases hy5 : y < 5
            · have hyi : (y : Int) < 5 := by omega
              have hyd : y < ds.size := by omega
              have hydi : (y : Int) < (ds.size : Int) := by omega
              have HLT := hide (list_take d y hy5)
              have hsz2 := (FR.out _ _ HGU.out).2.2.1
              have hll : (d.list.take y).length ≤ 5 := by rw [List.length_take]; omega
              obtain ⟨av2, cv2, hv2, _, _⟩ := HBU.out.form
              obtain ⟨m2, hm2⟩ : ∃ m, (P1 ++ d.list.take y).length = m := ⟨_, rfl⟩
              rw [hm2] at hv2
              subst hv2
              obtain ⟨v', w', hr, hb', hg'⟩ := HBU.out.run1 ds[y] 22 hsz2 (by rw [List.length_append]; omega)
              have HF : Hid (Buf (w.heap.size + 1) w' v' (P1 ++ d.list.take (y + 1)) ∧ Grew W1 VV w' v') := ⟨by rw [HLT.out, ← List.append_assoc, ← HDA.out y hyd]; exact hb', HGU.out.trans hg'⟩
              have HK0 : Hid (k ≠ 0 → y + 1 = 0) := fun h => absurd hk0 h
              clear hb' hg' hll hm2 hk0 hsz2
              go_wp2_with (first | (at_builtin; refine wpList_app rfl _ _ 22 rfl hr (by first | rfl | simp [Act.eval, Act.put]) (by first | rfl | simp [Act.eval, Act.put]) ?_))
              go_roundg (5 - (y + 1))
              case measure => omega
              case rel => exact ⟨y + 1, by omega, rfl, HK0, by go_num, HF.out.1, HF.out.2⟩
            · obtain rfl : y = 5 := by omega
              have HF : Hid (P1 ++ d.list.take 5 = P1 ++ dlD d k) := by unfold dlD; rw [if_pos hk0]; exact rfl
              clear hk0
              go_wp2_with fail
              go_meet
              case rel => exact ⟨by rw [← HF.out]; exact HBU.out, HGU.out⟩
          · have hkb : ((k : Int) == 0) = false := by simp; omega
            have hy0 := hky.out hk0
            subst hy0
            have HF : Hid (P1 ++ d.list.take 0 = P1 ++ dlD d k) := by unfold dlD; rw [if_neg hk0]; exact rfl
            clear hk0
            go_wp2_with fail
            go_meet
            case rel => exact ⟨by rw [← HF.out]; exact HBU.out, HGU.out⟩
      case rest =>
        clear HB1 HG1
        obtain ⟨P, hPe⟩ : ∃ P, P1 ++ dlD d k = P := ⟨_, rfl⟩
        have hP : P.length + (ledW d.c0 (fieldD d) fs).length + 1 ≤ 6291456 := by rw [← hPe, List.length_append]; omega
        rw [hPe] at hcut HS
        have HCUT := hide hcut
        clear hcut hPe hP1 hP0
        obtain ⟨Wf, rfl⟩ : ∃ x, x = wc := ⟨_, rfl⟩
        go_wp2_with fail
        go_loopg [5, 8] nf (fun q v5 j wr => ∃ y : Nat, y ≤ nf ∧ q = nf - y ∧ j = .int .i64 (y : Int) ∧ Buf (w.heap.size + 1) wr v5 (P ++ ledW d.c0 (fieldD d) (fs.take y)) ∧ Grew W1 VV wr v5)
        case atStart => exact ⟨0, Nat.zero_le _, rfl, rfl, by simpa [ledW] using HCUT.out.1, HCUT.out.2⟩
        case round =>
          clear HCUT
          obtain ⟨y, hy, rfl, rfl, hbuf, hg⟩ := hrel
          obtain ⟨W2, rfl⟩ : ∃ x, x = wr := ⟨_, rfl⟩
          obtain ⟨V2, rfl⟩ : ∃ x, x = u5 := ⟨_, rfl⟩
          have HGU := hide hg
          obtain ⟨hBm, _, hsz2, c0, _, c2⟩ := FR.out _ _ hg
          by_cases hy2 : y < nf
          · have hyx : y < fs.length := by have := HNF.out; omega
            have hyi : (y : Int) < (nf : Int) := by omega
            obtain ⟨b2, off2, rfl, _, hbl2, vf, hcf, helf⟩ := HF.out y hyx
            have hcf' : w.cell? ⟨b2, off2 + y, none⟩ = some vf := by simpa using hcf
            have hroom2 := ledW_room d.c0 (fieldD d) fs y hyx
            have HS2 := hide (ledW_snoc d.c0 (fieldD d) fs y hyx)
            obtain ⟨f, hfe⟩ : ∃ f, fs[y] = f := ⟨_, rfl⟩
            rw [hfe] at helf hroom2 HS2
            obtain ⟨a3, cap3, rfl, hcr⟩ := helf.form
            have HR := hide hcr
            have hlr : f.length ≤ 9223372036854775807 := helf.1
            obtain ⟨nr, hnr⟩ : ∃ x, f.length = x := ⟨_, rfl⟩
            have HNR := hide hnr
            rw [hnr] at hlr hcf'
            obtain ⟨P2, hP2e⟩ : ∃ Q, P ++ ledW d.c0 (fieldD d) (fs.take y) = Q := ⟨_, rfl⟩
            rw [hP2e] at hbuf
            have hlP2 : P2.length + (1 + (fieldD d f).length) + 1 ≤ 6291456 := by rw [← hP2e, List.length_append]; omega
            have HP2 : Hid (P2 ++ [d.c0] ++ fieldD d f = P ++ ledW d.c0 (fieldD d) (fs.take (y + 1))) := by rw [HS2.out, ← hP2e]; simp only [List.append_assoc, List.singleton_append]; trivial
            obtain ⟨av2, cv2, hv2, _, _⟩ := hbuf.form
            obtain ⟨m2, hm2⟩ : ∃ m, P2.length = m := ⟨_, rfl⟩
            rw [hm2] at hv2
            subst hv2
            obtain ⟨v', w', hr, hb', hg'⟩ := hbuf.run1 d.c0 22 hsz2 (by omega)
            have hgw := hg.trans hg'
            obtain ⟨_, hBw, _, e0, _, e2⟩ := FR.out _ _ hgw
            have e3 : w'.cell? ⟨b2, off2 + y, none⟩ = some (.slice a3 nr cap3) := by rw [hBw.cell (p := ⟨b2, off2 + y, none⟩) hbl2]; exact hcf'
            have HB2 := hide hb'
            have HG2 := hide hgw
            clear hcf hcf' hcr helf hroom2 HS2 hfe hnr hP2e hb' hg' hgw hg hbuf hm2 hBm
            go_wp2_with (first | (at_builtin; refine wpList_app rfl _ _ 22 rfl hr (by first | rfl | simp [Act.eval, Act.put]) (by first | rfl | simp [Act.eval, Act.put]) ?_))
            clear c0 c2 e0 e2 e3 hr
            go_loopg [5, 10] nr (fun q v5 j wr => ∃ p : Nat, p ≤ nr ∧ q = nr - p ∧ j = .int .i64 (p : Int) ∧ Buf (w.heap.size + 1) wr v5 (P2 ++ [d.c0] ++ joined d.c2 (repD d) (f.take p)) ∧ Grew W1 VV wr v5)
            case atStart => exact ⟨0, Nat.zero_le _, rfl, rfl, by rw [joined_nil, List.append_nil]; exact HB2.out, HG2.out⟩
            case round =>
              clear HB2 HG2
              obtain ⟨p, hp, rfl, rfl, hbuf3, hg3⟩ := hrel
              obtain ⟨W3, rfl⟩ : ∃ x, x = wr := ⟨_, rfl⟩
              obtain ⟨V3, rfl⟩ : ∃ x, x = u5 := ⟨_, rfl⟩
              by_cases hp2 : p < nr
              · have hpx : p < f.length := by have := HNR.out; omega
                have hpi : (p : Int) < (nr : Int) := by omega
                obtain ⟨b3, off3, rfl, _, hbl3, vr, hcr, helr⟩ := HR.out p hpx
                have hcr' : w.cell? ⟨b3, off3 + p, none⟩ = some vr := by simpa using hcr
                have hroom3 := joined_room d.c2 (repD d) f p hpx
                have HS3 := hide (joined_snoc d.c2 (repD d) f p hpx)
                obtain ⟨r, hre⟩ : ∃ r, f[p] = r := ⟨_, rfl⟩
                rw [hre] at helr hroom3 HS3
                obtain ⟨a4, cap4, rfl, hcc⟩ := helr.form
                have HCC := hide hcc
                have hlc : r.length ≤ 9223372036854775807 := helr.1
                obtain ⟨nc, hnc⟩ : ∃ x, r.length = x := ⟨_, rfl⟩
                have HNC := hide hnc
                rw [hnc] at hlc hcr'
                have HCR := hide hcr'
                have hfl : (fieldD d f).length = (joined d.c2 (repD d) f).length := rfl
                obtain ⟨P3, hP3e⟩ : ∃ Q, P2 ++ [d.c0] ++ joined d.c2 (repD d) (f.take p) = Q := ⟨_, rfl⟩
                rw [hP3e] at hbuf3
                have hlP3 : P3.length + ((sp d.c2 p).length + (repD d r).length) ≤ 6291456 := by rw [← hP3e, List.length_append, List.length_append, List.length_singleton, sp_len]; omega
                have HP3 : Hid (P3 ++ sp d.c2 p ++ repD d r = P2 ++ [d.c0] ++ joined d.c2 (repD d) (f.take (p + 1))) := by rw [HS3.out, ← hP3e]; unfold sp; simp only [List.append_assoc]; trivial
                have HBU3 := hide hbuf3
                have HGU3 := hide hg3
                have hsz3 := (FR.out _ _ hg3).2.2.1
                clear hcr hcr' hcc helr hroom3 HS3 hfl hre hnc hP3e hbuf3 hg3
                go_upto_if 91 with fail
                go_cut [5] (fun s5 wx => Buf (w.heap.size + 1) wx s5 (P3 ++ sp d.c2 p) ∧ Grew W1 VV wx s5)
                case first =>
                  by_cases hp0 : p = 0
                  · have hp' : ¬ (0 : Int) < (p : Int) := by omega
                    have HD : Hid (sp d.c2 p = []) := if_pos hp0
                    clear hp0
                    go_wp2_with fail
                    go_meet
                    case rel => exact ⟨by rw [HD.out, List.append_nil]; exact HBU3.out, HGU3.out⟩
                  · have hp' : (0 : Int) < (p : Int) := by omega
                    have HD : Hid (sp d.c2 p = [d.c2]) := if_neg hp0
                    obtain ⟨av3, cv3, hv3, _, _⟩ := HBU3.out.form
                    obtain ⟨m3, hm3⟩ : ∃ m, P3.length = m := ⟨_, rfl⟩
                    rw [hm3] at hv3
                    subst hv3
                    obtain ⟨v', w', hr, hb', hg'⟩ := HBU3.out.run1 d.c2 22 hsz3 (by omega)
                    have HF3 : Hid (Buf (w.heap.size + 1) w' v' (P3 ++ sp d.c2 p) ∧ Grew W1 VV w' v') := ⟨by rw [HD.out]; exact hb', HGU3.out.trans hg'⟩
                    clear hb' hg' hp0 hm3
                    go_wp2_with (first | (at_builtin; refine wpList_app rfl _ _ 22 rfl hr (by first | rfl | simp [Act.eval, Act.put]) (by first | rfl | simp [Act.eval, Act.put]) ?_))
                    go_meet
                    case rel => exact HF3.out
                case rest =>
                  clear HBU3 HGU3 hsz3
                  obtain ⟨P4, hP4e⟩ : ∃ Q, P3 ++ sp d.c2 p = Q := ⟨_, rfl⟩
                  have hlP4 : P4.length + (repD d r).length ≤ 6291456 := by rw [← hP4e, List.length_append]; omega
                  rw [hP4e] at hcut HP3
                  have HCUT := hide hcut
                  obtain ⟨Wc, rfl⟩ : ∃ x, x = wc := ⟨_, rfl⟩
                  have hr3 : Wc.cell? ⟨b3, off3 + p, none⟩ = some (.slice a4 nc cap4) := by rw [(FR.out _ _ hcut.2).2.1.cell (p := ⟨b3, off3 + p, none⟩) hbl3]; exact HCR.out
                  clear hcut hP4e hlP3
                  go_wp2_with fail
                  clear hr3
                  go_loopg [5, 11] nc (fun q v5 j wr => ∃ z : Nat, z ≤ nc ∧ q = nc - z ∧ j = .int .i64 (z : Int) ∧ Buf (w.heap.size + 1) wr v5 (P4 ++ joined d.c1 (fun c => escsD d c.data.toList) (r.take z)) ∧ Grew W1 VV wr v5)
                  case atStart => exact ⟨0, Nat.zero_le _, rfl, rfl, by rw [joined_nil, List.append_nil]; exact HCUT.out.1, HCUT.out.2⟩
                  case round =>
                    clear HCUT
                    obtain ⟨z, hz, rfl, rfl, hbuf4, hg4⟩ := hrel
                    obtain ⟨W4, rfl⟩ : ∃ x, x = wr := ⟨_, rfl⟩
                    obtain ⟨V4, rfl⟩ : ∃ x, x = u5 := ⟨_, rfl⟩
                    have hr4 : W4.cell? ⟨b3, off3 + p, none⟩ = some (.slice a4 nc cap4) := by rw [(FR.out _ _ hg4).2.1.cell (p := ⟨b3, off3 + p, none⟩) hbl3]; exact HCR.out
                    have HGU4 := hide hg4
                    have hsz4 := (FR.out _ _ hg4).2.2.1
                    by_cases hz2 : z < nc
                    · have hzx : z < r.length := by have := HNC.out; omega
                      have hzi : (z : Int) < (nc : Int) := by omega
                      obtain ⟨b4, off4, rfl, _, hbl4, hc4, hs4⟩ := HCC.out z hzx
                      have hc4' : w.cell? ⟨b4, off4 + z, none⟩ = some (.string r[z]) := by simpa using hc4
                      have hroom4 := joined_room d.c1 (fun c : ByteArray => escsD d c.data.toList) r z hzx
                      have HS4 := hide (joined_snoc d.c1 (fun c : ByteArray => escsD d c.data.toList) r z hzx)
                      have hge := escsD_ge d r[z].data.toList
                      have hsz5 : r[z].data.toList.length = r[z].size := by simp
                      have hrl : (repD d r).length = (joined d.c1 (fun c : ByteArray => escsD d c.data.toList) r).length := rfl
                      obtain ⟨P5, hP5e⟩ : ∃ Q, P4 ++ joined d.c1 (fun c => escsD d c.data.toList) (r.take z) = Q := ⟨_, rfl⟩
                      rw [hP5e] at hbuf4
                      have hlP5 : P5.length + ((sp d.c1 z).length + r[z].size) ≤ 6291456 := by rw [← hP5e, List.length_append, sp_len]; omega
                      obtain ⟨x, hxe⟩ : ∃ x, r[z] = x := ⟨_, rfl⟩
                      rw [hxe] at hc4' hlP5 HS4
                      have HP5 : Hid (P5 ++ sp d.c1 z ++ escsD d x.data.toList = P4 ++ joined d.c1 (fun c => escsD d c.data.toList) (r.take (z + 1))) := by rw [HS4.out, ← hP5e]; unfold sp; simp only [List.append_assoc, hxe]; trivial
                      have HC4 := hide hc4'
                      have HBU4 := hide hbuf4
                      clear hc4 hc4' hs4 hroom4 HS4 hge hsz5 hrl hP5e hxe hbuf4 hg4
                      go_upto_if 108 with fail
                      go_cut [5] (fun s5 wx => Buf (w.heap.size + 1) wx s5 (P5 ++ sp d.c1 z) ∧ Grew W1 VV wx s5)
                      case first =>
                        clear hr4
                        by_cases hz0 : z = 0
                        · have hz' : ¬ (0 : Int) < (z : Int) := by omega
                          have HD : Hid (sp d.c1 z = []) := if_pos hz0
                          clear hz0
                          go_wp2_with fail
                          go_meet
                          case rel => exact ⟨by rw [HD.out, List.append_nil]; exact HBU4.out, HGU4.out⟩
                        · have hz' : (0 : Int) < (z : Int) := by omega
                          have HD : Hid (sp d.c1 z = [d.c1]) := if_neg hz0
                          obtain ⟨av4, cv4, hv4, _, _⟩ := HBU4.out.form
                          obtain ⟨m4, hm4⟩ : ∃ m, P5.length = m := ⟨_, rfl⟩
                          rw [hm4] at hv4
                          subst hv4
                          obtain ⟨v', w', hr, hb', hg'⟩ := HBU4.out.run1 d.c1 22 hsz4 (by omega)
                          have HF4 : Hid (Buf (w.heap.size + 1) w' v' (P5 ++ sp d.c1 z) ∧ Grew W1 VV w' v') := ⟨by rw [HD.out]; exact hb', HGU4.out.trans hg'⟩
                          clear hb' hg' hz0 hm4
                          go_wp2_with (first | (at_builtin; refine wpList_app rfl _ _ 22 rfl hr (by first | rfl | simp [Act.eval, Act.put]) (by first | rfl | simp [Act.eval, Act.put]) ?_))
                          go_meet
                          case rel => exact HF4.out
                      case rest =>
                        clear HBU4 HGU4 hsz4 hr4
                        obtain ⟨P6, hP6e⟩ : ∃ Q, P5 ++ sp d.c1 z = Q := ⟨_, rfl⟩
                        have hlP6 : P6.length + x.size ≤ 6291456 := by rw [← hP6e, List.length_append]; omega
                        rw [hP6e] at hcut HP5
                        have HCUT := hide hcut
                        obtain ⟨Wd, rfl⟩ : ∃ x, x = wc := ⟨_, rfl⟩
                        have hBd := (FR.out _ _ hcut.2).2
                        have hr5 : Wd.cell? ⟨b3, off3 + p, none⟩ = some (.slice (some ⟨b4, off4, none⟩) nc cap4) := by rw [hBd.1.cell (p := ⟨b3, off3 + p, none⟩) hbl3]; exact HCR.out
                        have hc5 : Wd.cell? ⟨b4, off4 + z, none⟩ = some (.string x) := by rw [hBd.1.cell (p := ⟨b4, off4 + z, none⟩) hbl4]; exact HC4.out
                        have HCALL := hide (wComp_any (w.heap.size + 1) P6 x ds d _ Wd HOK.out hds HDA.out hcut.1 hBd.2.1 (by omega))
                        clear hcut hP6e hBd
                        go_wp2_with fail
                        refine HCALL.out.mono ?_
                        rintro e w6 ⟨u6', rfl, hu6, hg6⟩
                        have HF6 : Hid (Buf (w.heap.size + 1) w6 u6' (P4 ++ joined d.c1 (fun c => escsD d c.data.toList) (r.take (z + 1))) ∧ Grew W1 VV w6 u6') := ⟨by rw [← HP5.out]; exact hu6, HCUT.out.2.trans hg6⟩
                        clear hu6 hg6 hr5 hc5
                        go_wp2_with fail
                        go_roundg (nc - (z + 1))
                        case measure => omega
                        case rel => exact ⟨z + 1, by omega, rfl, by go_num, HF6.out.1, HF6.out.2⟩
                    · have hzi : ¬ (z : Int) < (nc : Int) := by omega
                      have HT : Hid (r.take z = r) := List.take_of_length_le (by have := HNC.out; omega)
                      have HBU5 : Hid (Buf (w.heap.size + 1) W4 V4 (P2 ++ [d.c0] ++ joined d.c2 (repD d) (f.take (p + 1)))) := by rw [HT.out] at hbuf4; rw [← HP3.out]; exact hbuf4
                      clear hbuf4 hg4
                      go_wp2_with fail
                      go_roundg (nr - (p + 1))
                      case measure => omega
                      case rel => exact ⟨p + 1, by omega, rfl, by go_num, HBU5.out, HGU4.out⟩
              · have hpi : ¬ (p : Int) < (nr : Int) := by omega
                have HT : Hid (f.take p = f) := List.take_of_length_le (by have := HNR.out; omega)
                have HBU4 : Hid (Buf (w.heap.size + 1) W3 V3 (P ++ ledW d.c0 (fieldD d) (fs.take (y + 1)))) := by rw [HT.out] at hbuf3; rw [← HP2.out]; exact hbuf3
                have HGU3 := hide hg3
                clear hbuf3 hg3
                go_wp2_with fail
                go_roundg (nf - (y + 1))
                case measure => omega
                case rel => exact ⟨y + 1, by omega, rfl, by go_num, HBU4.out, HGU3.out⟩
          · have hyi : ¬ (y : Int) < (nf : Int) := by omega
            have HT : Hid (fs.take y = fs) := List.take_of_length_le (by have := HNF.out; omega)
            rw [HT.out] at hbuf
            obtain ⟨P2, hP2e⟩ : ∃ Q, P ++ ledW d.c0 (fieldD d) fs = Q := ⟨_, rfl⟩
            rw [hP2e] at hbuf HS
            have hlP2 : P2.length + 1 ≤ 6291456 := by rw [← hP2e, List.length_append]; omega
            obtain ⟨av2, cv2, hv2, _, _⟩ := hbuf.form
            obtain ⟨m2, hm2⟩ : ∃ m, P2.length = m := ⟨_, rfl⟩
            rw [hm2] at hv2
            subst hv2
            obtain ⟨v', w', hr, hb', hg'⟩ := hbuf.run1 13 22 hsz2 (by omega)
            have HB2 : Hid (Buf (w.heap.size + 1) w' v' (msgD d (xs.take (k + 1)))) := by rw [HS.out]; exact hb'
            have HBB := hide (FR.out _ _ (hg.trans hg')).1
            clear hb' hg' hg hbuf hP2e hm2 hBm
            go_wp2_with (first | (at_builtin; refine wpList_app rfl _ _ 22 rfl hr (by first | rfl | simp [Act.eval, Act.put]) (by first | rfl | simp [Act.eval, Act.put]) ?_))
            go_roundg (n - (k + 1))
            case measure => omega
            case rel => exact ⟨k + 1, by omega, rfl, by go_num, HB2.out, HBB.out⟩
    · obtain rfl : k = n := by omega
      have hst := hbuf.string
      have HB : Hid (Below w.heap.size w W1) := ((Below.refl w.heap.size w).alloc (Nat.le_refl _) _).trans (hb.mono (by omega))
      have HT : Hid (xs.take k = xs) := List.take_of_length_le (by have := HN.out; omega)
      rw [HT.out] at hst
      clear hbuf hb hlt
      go_wp2_with fail
      go_ret
      exact ⟨rfl, HB.out⟩
end Go.Proofs.YtcphfhfockjljaaDoor.Msg
