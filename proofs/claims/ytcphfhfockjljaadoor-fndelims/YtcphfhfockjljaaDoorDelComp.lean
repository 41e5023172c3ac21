import Derived.Test.YtcphfhfockjljaaDoorParseSegswithParseBackwithDelPure
import Derived.Test.YtcphfhfockjljaaDoorMsgWritten
import Derived.Test.YtcphfhfockjljaaDoorFlatKitwithFlatAppwithBufKit
import Derived.Deep.QuietTactic
import Derived.BigQuiet
import Derived.Deep.RegionLaw
namespace Go.Proofs.YtcphfhfockjljaaDoor.Msg
open Go.ChangeShapes Go.WideShapes Go.ChangeAt Go.RowKit
set_option linter.unusedVariables false
set_option linter.unusedSimpArgs false

/-! wComp: a component with other delimiters -/
theorem Buf.keepB {base : Nat} {w w' : World} {v : Value} {bs : List UInt8} (h : Buf base w v bs) (hb : Below w.heap.size w w') : Buf base w' v bs := by
  unfold Buf at *
  obtain ⟨h0, ⟨rfl, h1⟩ | ⟨g, cap, cur, rfl, hg, hh, rest⟩⟩ := h
  · exact ⟨h0, .inl ⟨rfl, h1⟩⟩
  · have hlt : g < w.heap.size := by rw [Array.getElem?_eq_some_iff] at hh; exact hh.1
    exact ⟨h0, .inr ⟨g, cap, cur, rfl, hg, by rw [hb.block g hlt]; exact hh, rest⟩⟩
theorem Grew.ofB {w w1 w2 : World} {v v1 : Value} (h : Grew w v w1 v1) (hb : Below w1.heap.size w1 w2) : Grew w v w2 v1 :=
  h.trans ⟨⟨hb.os, hb.tape, hb.output, hb.size, fun x hx _ => hb.block x hx⟩, .inl rfl⟩
/-- an append whose run is known -/
theorem Buf.run3 {base : Nat} {w : World} {v : Value} {bs : List UInt8} (h : Buf base w v bs) (a b c : UInt8) (ty : TypeId) (hb : base ≤ w.heap.size) (hl : bs.length ≤ 1000000000) :
    ∃ v' w', (Builtin.append_ #[22, 22] ty #[v, .slice (some ⟨w.heap.size, 0, none⟩) 3 3]).run Tryd.prog (w.alloc (.cells #[.int .u8 (a.toNat : Int), .int .u8 (b.toNat : Int), .int .u8 (c.toNat : Int)] 5)) = .ok v' w' ∧ Buf base w' v' (bs ++ [a, b, c]) ∧ Grew w v w' v' := by
  obtain ⟨i0, hi, hz0, hz1, hz2⟩ := u8_facts
  obtain ⟨v', w', hr, ho, hg, _, hat⟩ := run_append_own_at (P := Tryd.prog) (w := w.alloc (.cells #[.int .u8 (a.toNat : Int), .int .u8 (b.toNat : Int), .int .u8 (c.toNat : Int)] 5)) base 22 ty 5 i0 (.int .u8 0) 1 1 Tryd.underlying22 hi hz0 hz1 hz2 rfl (by decide) v bs.length (u8s bs) (World.ownsRow.alloc h _) ⟨w.heap.size, 0, none⟩ 3 3 [.int .u8 (a.toNat : Int), .int .u8 (b.toNat : Int), .int .u8 (c.toNat : Int)] rfl (news_cells _ _) (by intro u hu; simp at hu; rcases hu with rfl | rfl | rfl <;> rfl) (by unfold maxLen; omega) (by omega) (by rw [Deep.nblk_alloc]; omega)
  refine ⟨v', w', hr, ?_, ?_⟩
  · unfold Buf
    simpa [u8s] using ho
  · refine ((Grew.refl w v).alloc _).trans ⟨hg, ?_⟩
    rcases hat with hat | hat
    · exact .inl hat
    · exact .inr ⟨_, hat, Nat.le_refl _⟩
theorem Buf.run1 {base : Nat} {w : World} {v : Value} {bs : List UInt8} (h : Buf base w v bs) (a : UInt8) (ty : TypeId) (hb : base ≤ w.heap.size) (hl : bs.length ≤ 1000000000) :
    ∃ v' w', (Builtin.append_ #[22, 22] ty #[v, .slice (some ⟨w.heap.size, 0, none⟩) 1 1]).run Tryd.prog (w.alloc (.cells #[.int .u8 (a.toNat : Int)] 5)) = .ok v' w' ∧ Buf base w' v' (bs ++ [a]) ∧ Grew w v w' v' := by
  obtain ⟨i0, hi, hz0, hz1, hz2⟩ := u8_facts
  obtain ⟨v', w', hr, ho, hg, _, hat⟩ := run_append_own_at (P := Tryd.prog) (w := w.alloc (.cells #[.int .u8 (a.toNat : Int)] 5)) base 22 ty 5 i0 (.int .u8 0) 1 1 Tryd.underlying22 hi hz0 hz1 hz2 rfl (by decide) v bs.length (u8s bs) (World.ownsRow.alloc h _) ⟨w.heap.size, 0, none⟩ 1 1 [.int .u8 (a.toNat : Int)] rfl (news_cells _ _) (by intro u hu; simp at hu; subst hu; rfl) (by unfold maxLen; omega) (by omega) (by rw [Deep.nblk_alloc]; omega)
  refine ⟨v', w', hr, ?_, ?_⟩
  · unfold Buf
    simpa [u8s] using ho
  · refine ((Grew.refl w v).alloc _).trans ⟨hg, ?_⟩
    rcases hat with hat | hat
    · exact .inl hat
    · exact .inr ⟨_, hat, Nat.le_refl _⟩
def letterS : ByteArray := ⟨#[70, 83, 82, 69, 84]⟩
theorem letter_at : ∀ j, j < 5 → ∀ h : j < (⟨#[70, 83, 82, 69, 84]⟩ : ByteArray).size, (⟨#[70, 83, 82, 69, 84]⟩ : ByteArray)[j]'h = ltr j
  | 0, _, _ => rfl
  | 1, _, _ => rfl
  | 2, _, _ => rfl
  | 3, _, _ => rfl
  | 4, _, _ => rfl
  | n + 5, h, _ => absurd h (by omega)
set_option maxRecDepth 100000 in
set_option maxHeartbeats 4000000 in
theorem wComp_any (base : Nat) (bs : List UInt8) (s ds : ByteArray) (d : Dl) (v : Value) (w : World) (hd : d.Ok) (hds : ds.size = 5) (hda : ∀ j (h : j < ds.size), ds[j] = d.at j) (hown : Buf base w v bs) (hbase : base ≤ w.heap.size) (hl : bs.length + 3 * s.size ≤ 100000000) :
    Calls Tryd.prog 18 #[v, .string s, .string ds] w fun e w' => ∃ u, e = .returned u ∧ Buf base w' u (bs ++ escsD d s.data.toList) ∧ Grew w v w' u := by
  have HE5 := hide (fun c => eP_five hd c)
  have HDA := hide hda
  have h3 : ds[3] = d.c3 := hda 3 (by omega)
  have HOWN := hide hown
  clear hda hd hown
  go_enter Tryd.func18, Tryd.ntmps18
  go_wp2_with fail
  go_loopg [0, 8] s.size (fun n v1 i wr => ∃ k : Nat, k ≤ s.size ∧ n = s.size - k ∧ i = .int .i64 (k : Int) ∧ Buf base wr v1 (bs ++ escsD d (s.data.toList.take k)) ∧ Grew w v wr v1)
  case atStart => exact ⟨0, Nat.zero_le _, rfl, rfl, by simpa [escsD] using HOWN.out, Grew.refl _ _⟩
  case round =>
    obtain ⟨k, hk, rfl, rfl, hbuf, hg⟩ := hrel
    by_cases hlt : k < s.size
    · have HT : Hid (bs ++ escsD d (s.data.toList.take (k + 1)) = (bs ++ escsD d (s.data.toList.take k)) ++ escD d s[k]) := by rw [take_snoc s k hlt, escsD_snoc, List.append_assoc]; trivial
      have hlen : (bs ++ escsD d (s.data.toList.take k)).length ≤ bs.length + 3 * k := by
        have := escsD_le d (s.data.toList.take k)
        have h2 : (s.data.toList.take k).length ≤ k := List.length_take_le _ _
        rw [List.length_append]; omega
      generalize bs ++ escsD d (s.data.toList.take k) = B at *
      have HBUF := hide hbuf
      have HG := hide hg
      clear hbuf hg
      obtain ⟨W1, rfl⟩ : ∃ x, x = wr := ⟨_, rfl⟩
      obtain ⟨V1, rfl⟩ : ∃ x, x = u0 := ⟨_, rfl⟩
      go_wp2_with fail
      go_loopg [0, 9, 10] 5 (fun n v1 pl i wr => ∃ j : Nat, j ≤ 5 ∧ n = 5 - j ∧ pl = .bool (decide ((eP d s[k] j).length = 0)) ∧ i = .int .i64 (j : Int) ∧ Buf base wr v1 (B ++ eP d s[k] j) ∧ Grew w v wr v1)
      case atStart => exact ⟨0, Nat.zero_le _, rfl, rfl, rfl, by simpa [eP] using HBUF.out, HG.out⟩
      case round =>
        obtain ⟨j, hj, rfl, rfl, rfl, hbuf, hg⟩ := hrel
        obtain ⟨W2, rfl⟩ : ∃ x, x = wr := ⟨_, rfl⟩
        obtain ⟨V2, rfl⟩ : ∃ x, x = u0 := ⟨_, rfl⟩
        by_cases hj5 : j < 5
        · have hjd : j < ds.size := by omega
          have hjl : j < (⟨#[70, 83, 82, 69, 84]⟩ : ByteArray).size := hj5
          have HDJ := hide (HDA.out j hjd)
          have HLT := hide (letter_at j hj5 hjl)
          have heq := hide (show eP d s[k] (j + 1) = eP d s[k] j ++ (if s[k] = d.at j then [d.c3, ltr j, d.c3] else []) from rfl)
          have hez := eP_len d s[k] j
          have hji : (j : Int) < 5 := by omega
          have hki : (k : Int) < (s.size : Int) := by omega
          have hjdi : (j : Int) < (ds.size : Int) := by omega
          have HBUF2 := hide hbuf
          have HG2 := hide hg
          clear hbuf hg
          obtain ⟨pb, hpb⟩ : ∃ b, decide ((eP d s[k] j).length = 0) = b := ⟨_, rfl⟩
          have HPB := hide hpb
          rw [hpb]
          clear hpb
          go_wp2_with fail
          go_quiet (fail)
          obtain ⟨Y, hY⟩ : ∃ Y, W2.drewN nq = Y := ⟨_, rfl⟩
          have hbY : Below W2.heap.size W2 Y := by rw [← hY]; exact below_drewN (Below.refl _ _) _
          rw [hY]
          by_cases hc : s[k].toNat = ds[j].toNat
          · have hcb : ((s[k].toNat : Int) == (ds[j].toNat : Int)) = true := by simp; omega
            have hce : s[k] = d.at j := by rw [← HDJ.out]; exact UInt8.toNat_inj.1 hc
            obtain ⟨D, hD⟩ : ∃ D, Y.drew = D := ⟨_, rfl⟩
            have hbD : Below W2.heap.size W2 D := by rw [← hD]; exact hbY.drew
            obtain ⟨a, cap, hv2, _, _⟩ := HBUF2.out.form
            obtain ⟨n, hn⟩ : ∃ n, (B ++ eP d s[k] j).length = n := ⟨_, rfl⟩
            rw [hn] at hv2
            subst hv2
            obtain ⟨v', w', hr, hb', hg'⟩ := (HBUF2.out.keepB hbD).run3 d.c3 ((⟨#[70, 83, 82, 69, 84]⟩ : ByteArray)[j]'hjl) d.c3 22 (by have := hbD.size; have := HG2.out.1.size; omega) (by rw [List.length_append]; omega)
            have HF : Hid (Buf base w' v' (B ++ eP d s[k] (j + 1)) ∧ Grew w v w' v' ∧ (decide ((eP d s[k] (j + 1)).length = 0)) = false) := by
              refine ⟨?_, (HG2.out.ofB hbD).trans hg', ?_⟩
              · rw [heq.out, if_pos hce, ← List.append_assoc, ← HLT.out]
                exact hb'
              · rw [heq.out, if_pos hce]
                simp
            clear hb' hg' hY hce hc hbY hn
            go_wp2_with fail
            go_region_law (refine step_app rfl _ _ 22 rfl hr (by first | rfl | simp [Act.eval, Act.put]) (by first | rfl | simp [Act.eval, Act.put]) ?_)
            all_goals
              go_wp2_with fail
              go_roundg (5 - (j + 1))
              case measure => omega
              case rel => exact ⟨j + 1, by omega, rfl, by rw [HF.out.2.2], by go_num, HF.out.1, HF.out.2.1⟩
          · have hcb : ((s[k].toNat : Int) == (ds[j].toNat : Int)) = false := by simp; omega
            have hce : ¬ s[k] = d.at j := fun h => hc (by rw [HDJ.out, h])
            have HF : Hid (Buf base Y V2 (B ++ eP d s[k] (j + 1)) ∧ Grew w v Y V2 ∧ eP d s[k] (j + 1) = eP d s[k] j) := by
              have e : eP d s[k] (j + 1) = eP d s[k] j := by rw [heq.out, if_neg hce, List.append_nil]
              refine ⟨?_, HG2.out.ofB hbY, e⟩
              rw [e]; exact HBUF2.out.keepB hbY
            clear hce hc hY hbY
            go_wp2_with fail
            go_roundg (5 - (j + 1))
            case measure => omega
            case rel => exact ⟨j + 1, by omega, rfl, by rw [HF.out.2.2, HPB.out], by go_num, HF.out.1, HF.out.2.1⟩
        · obtain rfl : j = 5 := by omega
          have HB5 := hide (HE5.out s[k])
          have HBUF2 := hide hbuf
          have HG2 := hide hg
          have hez := eP_len d s[k] 5
          clear hbuf hg
          have hki : (k : Int) < (s.size : Int) := by omega
          by_cases hz : (eP d s[k] 5).length = 0
          · have hzb : decide ((eP d s[k] 5).length = 0) = true := by simpa using hz
            have hnil : eP d s[k] 5 = [] := List.eq_nil_of_length_eq_zero hz
            have HE : Hid (B ++ [s[k]] = bs ++ escsD d (s.data.toList.take (k + 1))) := by rw [HT.out, HB5.out, if_pos hz]; trivial
            have HBB : Hid (Buf base W2 V2 B) := by have := HBUF2.out; rw [hnil, List.append_nil] at this; exact this
            obtain ⟨a, cap, rfl, _, _⟩ := HBB.out.form
            obtain ⟨v', w', hr, hb', hg'⟩ := HBB.out.run1 s[k] 22 (by have := HG2.out.1.size; omega) (by omega)
            have HF : Hid (Buf base w' v' (bs ++ escsD d (s.data.toList.take (k + 1))) ∧ Grew w v w' v') := ⟨by rw [← HE.out]; exact hb', HG2.out.trans hg'⟩
            clear hb' hg' hnil hez hz
            rw [hzb]
            go_wp2_with (first
              | (at_builtin; refine wpList_app rfl _ _ 22 rfl hr (by first | rfl | simp [Act.eval, Act.put]) (by first | rfl | simp [Act.eval, Act.put]) ?_)
              | fail)
            go_roundg (s.size - (k + 1))
            case measure => omega
            case rel => exact ⟨k + 1, by omega, rfl, by go_num, HF.out.1, HF.out.2⟩
          · have hzb : decide ((eP d s[k] 5).length = 0) = false := by simpa using hz
            have HF : Hid (Buf base W2 V2 (bs ++ escsD d (s.data.toList.take (k + 1))) ∧ Grew w v W2 V2) := ⟨by rw [HT.out, HB5.out, if_neg hz]; exact HBUF2.out, HG2.out⟩
            clear hez hz
            rw [hzb]
            go_wp2_with fail
            go_roundg (s.size - (k + 1))
            case measure => omega
            case rel => exact ⟨k + 1, by omega, rfl, by go_num, HF.out.1, HF.out.2⟩
    · obtain rfl : k = s.size := by omega
      have HBUF := hide hbuf
      have HG := hide hg
      clear hbuf hg
      go_wp2_with fail
      go_ret
      refine ⟨_, rfl, ?_, HG.out⟩
      have hB := HBUF.out
      rw [List.take_of_length_le (by simp)] at hB
      exact hB
end Go.Proofs.YtcphfhfockjljaaDoor.Msg
