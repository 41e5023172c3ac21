import Derived.Test.YtfdefjdogmhinaaDoorAnsPurewithPlRun
import Derived.Test.YtfdefjdogmhinaaDoorLawNewwithMsgOk
import Derived.Deep.QuietTactic
import Derived.BigQuiet
namespace Go.Proofs.YtfdefjdogmhinaaDoor.Msg
open Go.ChangeShapes Go.WideShapes Go.ChangeAt Go.RowKit
set_option linter.unusedVariables false
set_option linter.unusedSimpArgs false

/-! a list of bytes, read -/
def ByteR (_ : Nat) (w : World) (b off : Nat) (x : UInt8) : Prop := w.cell? ⟨b, off, none⟩ = some (.int .u8 (x.toNat : Int))
def BytesAt : Nat → World → Value → List UInt8 → Prop := At 1 ByteR
theorem kept_byte : Kept ByteR := fun lo w w' b off x h h1 h2 hb => by unfold ByteR at *; rw [hb.cell h1 h2]; exact h
theorem bytes_form {lo : Nat} {w : World} {v : Value} {xs : List UInt8} (h : BytesAt lo w v xs) : ∃ a cap, v = .slice a xs.length cap ∧ ∀ i, i < xs.length → ∃ b off, a = some ⟨b, off, none⟩ ∧ b < w.heap.size ∧ w.cell? ⟨b, off + i, none⟩ = some (.int .u8 ((xs.getD i 0).toNat : Int)) := by
  obtain ⟨hl, h⟩ := h
  rcases h with ⟨a, cap, rfl, rfl⟩ | ⟨b, off, cap, rfl, hlt, h⟩
  · exact ⟨a, cap, rfl, fun i hi => absurd hi (by simp)⟩
  · exact ⟨_, cap, rfl, fun i hi => ⟨b, off, rfl, hlt.2, by have := h i hi; unfold ByteR at this; rw [List.getD_eq_getElem?_getD, List.getElem?_eq_getElem hi]; simpa using this⟩⟩
def pickN (bs : List UInt8) (i : Nat) : Nat := if bs.length = 0 then i else (bs.getD (i % bs.length) 0).toNat
theorem pickN_le (bs : List UInt8) (i : Nat) (h : i ≤ 1000) : pickN bs i ≤ 1000 := by
  unfold pickN
  split
  · exact h
  · have := (bs.getD (i % bs.length) 0).toNat_lt; omega
set_option maxRecDepth 100000 in
set_option maxHeartbeats 1000000 in
theorem pick_any (xs : List UInt8) (v : Value) (i : Nat) (w : World) {lo : Nat} (hv : BytesAt lo w v xs) (hi : i ≤ 1000) :
    Calls Tryd.prog 4 #[v, .int .i64 (i : Int)] w fun e w' => e = .returned (.int .i64 ((pickN xs i : Nat) : Int)) ∧ w' = w := by
  have hl := hv.1
  obtain ⟨a, cap, rfl, hc⟩ := bytes_form hv
  clear hv
  by_cases h0 : xs.length = 0
  · have HX : Hid (pickN xs i = i) := by unfold pickN; rw [if_pos h0]; exact rfl
    rw [h0]
    clear hc
    go_enter Tryd.func4, Tryd.ntmps4
    go_wp2_with fail
    go_ret
    exact ⟨by rw [HX.out]; rfl, rfl⟩
  · obtain ⟨q, hq⟩ : ∃ q, i % xs.length = q := ⟨_, rfl⟩
    have hql : q < xs.length := by rw [← hq]; exact Nat.mod_lt _ (by omega)
    have HX : Hid (pickN xs i = (xs.getD q 0).toNat) := by unfold pickN; rw [if_neg h0, hq]; exact rfl
    obtain ⟨b, off, rfl, hb, hcell⟩ := hc q hql
    obtain ⟨c, hcc⟩ : ∃ c : Nat, (xs.getD q 0).toNat = c := ⟨_, rfl⟩
    have hc6 : c ≤ 255 := by have := (xs.getD q 0).toNat_lt; omega
    rw [hcc] at HX hcell
    obtain ⟨n, hn⟩ : ∃ n, xs.length = n := ⟨_, rfl⟩
    rw [hn] at h0 hq hql hl
    rw [hn]
    have h1 : (i : Int).tmod (n : Int) = (q : Int) := by rw [Int.tmod_eq_emod_of_nonneg (by omega), ← hq]; omega
    have h1' : (i : Int) % (n : Int) = (q : Int) := by rw [← hq]; omega
    have h2 : (q : Int) < (n : Int) := by omega
    have h3 : ¬ (n : Int) = 0 := by omega
    have h3b : ((n : Int) == 0) = false := by simpa using h3
    have h4 : (0 : Int) ≤ (c : Int) := by omega
    have h5 : (c : Int) ≤ 255 := by omega
    clear hc hq hcc hn
    go_enter Tryd.func4, Tryd.ntmps4
    go_wp2_with fail
    go_ret
    exact ⟨by rw [HX.out]; rfl, rfl⟩

theorem rem_pos (u : Nat) : Int.tmod (u : Int) 10 = ((u % 10 : Nat) : Int) := by
  rw [Int.tmod_eq_emod_of_nonneg (by omega)]
  omega
theorem quo_pos (u : Nat) : Int.tdiv (u : Int) 10 = ((u / 10 : Nat) : Int) := by
  rw [Int.tdiv_eq_ediv_of_nonneg (by omega)]
  omega
set_option maxHeartbeats 400000 in
set_option maxRecDepth 100000 in
theorem digits_any (u : Nat) : ∀ (w : World), u ≤ 9999999 →
    Calls Tryd.prog 7 #[.int .i64 (u : Int)] w fun e w' => e = .returned (.string (decT u)) ∧ Below w.heap.size w w' := by
  induction u using Nat.strongRecOn with
  | _ u ih =>
    intro w hu
    have hr := rem_pos u
    have hq := quo_pos u
    by_cases h : u < 10
    · have h1 : (u : Int) < 10 := by omega
      have hsl := digit_at u h
      have HX := hide (decT_one u h)
      have hw1 : IntKind.i64.wrap ((u : Int) + 1) = (u : Int) + 1 := by rw [IntKind.wrap_i64]; omega
      clear ih hq hr
      go_enter Tryd.func7, Tryd.ntmps7
      go_wp2_with fail
      go_ret
      exact ⟨ret_string HX.out.symm, Below.refl _ _⟩
    · have h1 : ¬ (u : Int) < 10 := by omega
      have HX := hide (decT_more u h)
      have HIH := hide (ih (u / 10) (by omega))
      obtain ⟨d, hd⟩ : ∃ d, u % 10 = d := ⟨_, rfl⟩
      have hd10 : d < 10 := by omega
      rw [hd] at hr HX
      have hsl := digit_at d hd10
      have hlen : (decT (u / 10)).size ≤ 7 := decT_size _ (by omega)
      obtain ⟨q, hq2⟩ : ∃ q, u / 10 = q := ⟨_, rfl⟩
      rw [hq2] at hq HX HIH hlen
      have hq9 : q ≤ 9999999 := by omega
      have hw1 : IntKind.i64.wrap ((d : Int) + 1) = (d : Int) + 1 := by rw [IntKind.wrap_i64]; omega
      have hw2 : IntKind.i64.wrap (q : Int) = (q : Int) := by rw [IntKind.wrap_i64]; omega
      have hlen2 : ¬ 9223372036854775807 < (decT q).size + 1 := by omega
      clear ih hd hq2
      go_enter Tryd.func7, Tryd.ntmps7
      go_wp2_with fail
      go_region_held3 (fun w' => Below w.heap.size w w')
        (first | exact (Below.refl _ _).drew | exact hb3)
        (first | (go_at_call 7; refine (HIH.out _ hq9).mono ?_; rintro e w2 ⟨rfl, hb2⟩; have hb3 : Below w.heap.size w w2 := bjoin hb2 ((Below.refl _ _).drew)))
      go_wp2_with fail
      go_ret
      exact ⟨ret_string HX.out.symm, hb3⟩

set_option maxRecDepth 100000 in
set_option maxHeartbeats 1000000 in
theorem value_any (s : ByteArray) (w : World) (hs : s.size ≤ 9) (ha : s.data.toList.all digitB = true) :
    Calls Tryd.prog 18 #[.string s] w fun e w' => e = .returned (.int .i64 ((decV 0 s.data.toList : Nat) : Int)) ∧ w' = w := by
  have hsz : s.data.toList.length = s.size := by simp
  have HBD : Hid (∀ k, k ≤ s.size → decV 0 (s.data.toList.take k) < 1000000000) := fun k hk => decV_bound _ _ (by rw [hsz]; exact hs) (all_take _ _ _ ha) (by rw [hsz]; exact hk)
  have HD : Hid (∀ k (h : k < s.size), ∃ c : Nat, (s[k].toNat : Int) = (c : Int) ∧ 48 ≤ c ∧ c ≤ 57 ∧ ((decV 0 (s.data.toList.take (k + 1)) : Nat) : Int) = ((decV 0 (s.data.toList.take k) : Nat) : Int) * 10 + ((c : Int) - 48)) := fun k h => by
    have h2 : k < s.data.toList.length := by rw [hsz]; exact h
    have e1 : s.data.toList[k] = s[k] := rfl
    have hd := List.all_eq_true.1 ha s.data.toList[k] (List.getElem_mem h2)
    have h3 := decV_next s.data.toList k h2 hd
    simp only [digitB, Bool.and_eq_true, decide_eq_true_eq] at hd
    rw [e1] at hd h3
    exact ⟨s[k].toNat, rfl, hd.1, hd.2, h3⟩
  have HALL : Hid (s.data.toList.take s.size = s.data.toList) := by show _ = _; rw [← hsz, List.take_length]
  have hs2 : (s.size : Int) ≤ 9 := by omega
  clear hsz ha
  go_enter Tryd.func18, Tryd.ntmps18
  go_wp2_with fail
  go_loop [3, 4] (fun n i => ∃ k : Nat, k ≤ s.size ∧ i = .int .i64 k ∧ n = .int .i64 ((decV 0 (s.data.toList.take k) : Nat) : Int)) (fun _ i => s.size - (intOf i).toNat)
  case atStart => exact ⟨0, Nat.zero_le _, rfl, rfl⟩
  case round =>
    obtain ⟨k, hk, rfl, rfl⟩ := hrel
    by_cases hlt : k < s.size
    · have hi : (k : Int) < (s.size : Int) := by omega
      obtain ⟨c, hc0, hc1, hc2, HN⟩ := HD.out k hlt
      have HN := hide HN
      have hbd := HBD.out k hk
      obtain ⟨m, hm⟩ : ∃ m : Nat, decV 0 (s.data.toList.take k) = m := ⟨_, rfl⟩
      rw [hm] at hbd HN ⊢
      have hcc1 : (48 : Int) ≤ (c : Int) := by omega
      have hcc2 : (c : Int) ≤ 57 := by omega
      have hw1 : IntKind.i64.wrap ((m : Int) * 10) = (m : Int) * 10 := by rw [IntKind.wrap_i64]; omega
      have hw2 : IntKind.u8.wrap ((c : Int) - 48) = (c : Int) - 48 := by rw [IntKind.wrap_u8]; omega
      have hw3 : IntKind.i64.wrap ((c : Int) - 48) = (c : Int) - 48 := by rw [IntKind.wrap_i64]; omega
      have hw4 : IntKind.i64.wrap ((m : Int) * 10 + ((c : Int) - 48)) = (m : Int) * 10 + ((c : Int) - 48) := by rw [IntKind.wrap_i64]; omega
      clear hm
      go_wp2_with fail
      go_round
      case rel => exact ⟨k + 1, by omega, by go_num, by rw [HN.out]⟩
      case measure => simp [intOf]; omega
    · have e : k = s.size := by omega
      subst e
      go_wp2_with fail
      go_ret
      exact ⟨by rw [HALL.out]; rfl, rfl⟩

set_option maxRecDepth 100000 in
set_option maxHeartbeats 1000000 in
theorem busy_any (x : Pl) (cv qv : Value) (w : World) {lo : Nat} (hp : PlAt lo w x cv qv) (hl4 : x.conns.length ≤ 4) :
    Calls Tryd.prog 14 #[plV x cv qv] w fun en w' => en = .returned (.int .i64 ((busyN x.conns : Nat) : Int)) ∧ Below w.heap.size w w' := by
  obtain ⟨e, n, cs, qs⟩ := x
  obtain ⟨hc, hq⟩ := hp
  simp only at hc hq hl4 ⊢
  obtain ⟨a1, c1, rfl, _⟩ := hc.form
  obtain ⟨a2, c2, rfl, _⟩ := hq.form
  show Calls Tryd.prog 14 #[.agg #[.int .i64 e, .int .i64 n, .slice a1 cs.length c1, .slice a2 qs.length c2]] w fun en w' => en = .returned (.int .i64 ((busyN cs : Nat) : Int)) ∧ Below w.heap.size w w'
  have HB0 := hide ((Below.refl w.heap.size w).alloc (Nat.le_refl _) (Obj.cells #[.int .i64 e, .int .i64 n, .slice a1 cs.length c1, .slice a2 qs.length c2] 27))
  have HCV := hide hc
  have HNX : Hid (∀ k (h : k < cs.length), busyN (cs.take (k + 1)) = busyN (cs.take k) + (if cs[k].busy then 1 else 0)) := fun k h => by
    unfold busyN
    rw [take_snoc' _ _ h, List.countP_append, List.countP_singleton]
  have HLE : Hid (∀ k, busyN (cs.take k) ≤ 4) := fun k => Nat.le_trans (busyN_le _) (by rw [List.length_take]; omega)
  have HALL : Hid (cs.take cs.length = cs) := by show _ = _; rw [List.take_length]
  clear hc hq
  go_enter Tryd.func14, Tryd.ntmps14
  go_wp2_with fail
  go_loop [3, 4] (fun n i => ∃ k : Nat, k ≤ cs.length ∧ i = .int .i64 k ∧ n = .int .i64 ((busyN (cs.take k) : Nat) : Int)) (fun _ i => cs.length - (intOf i).toNat)
  case atStart => exact ⟨0, Nat.zero_le _, rfl, rfl⟩
  case round =>
    obtain ⟨k, hk, rfl, rfl⟩ := hrel
    by_cases hlt : k < cs.length
    · obtain ⟨b, off, rfl, hbl, hel, _⟩ := at_place HCV.out hlt
      have hi : (k : Int) < (cs.length : Int) := by omega
      have hk4 : (k : Int) ≤ 4 := by omega
      have g0 : w.cell? ⟨b, off + k * 7, none⟩ = some (.bool cs[k].busy) := hel 0 (by simp [cnC])
      have HN := hide (HNX.out k hlt)
      have hle := HLE.out k
      obtain ⟨m, hm⟩ : ∃ m : Nat, busyN (cs.take k) = m := ⟨_, rfl⟩
      rw [hm] at HN hle ⊢
      have hle2 : (m : Int) ≤ 4 := by omega
      clear hm hel
      cases hbz : cs[k].busy with
      | true =>
        rw [hbz] at g0 HN
        have HN2 : Hid (busyN (cs.take (k + 1)) = m + 1) := HN.out
        clear hbz HN
        go_wp2_with fail
        go_round
        case rel => exact ⟨k + 1, by omega, by go_num, by rw [HN2.out]; go_num⟩
        case measure => simp [intOf]; omega
      | false =>
        rw [hbz] at g0 HN
        have HN2 : Hid (busyN (cs.take (k + 1)) = m) := HN.out
        clear hbz HN
        go_wp2_with fail
        go_round
        case rel => exact ⟨k + 1, by omega, by go_num, by rw [HN2.out]⟩
        case measure => simp [intOf]; omega
    · have e : k = cs.length := by omega
      subst e
      go_wp2_with fail
      go_ret
      exact ⟨rfl, HB0.out⟩
end Go.Proofs.YtfdefjdogmhinaaDoor.Msg

namespace Go.Proofs.YtfdefjdogmhinaaDoor.Msg
open Go.ChangeShapes Go.WideShapes Go.ChangeAt Go.RowKit
set_option linter.unusedVariables false
set_option linter.unusedSimpArgs false

set_option maxRecDepth 100000 in
set_option maxHeartbeats 4000000 in
theorem samePool_any (x : Pl) (cv qv cv2 qv2 : Value) (w : World) {lo lo2 : Nat} (hp : PlAt lo w x cv qv) (hp2 : PlAt lo2 w x cv2 qv2) :
    Calls Tryd.prog 17 #[plV x cv qv, plV x cv2 qv2] w fun en w' => en = .returned (.bool true) ∧ Below w.heap.size w w' := by
  obtain ⟨e, n, cs, qs⟩ := x
  obtain ⟨hc, hq⟩ := hp
  obtain ⟨hc2, hq2⟩ := hp2
  simp only at hc hq hc2 hq2
  have hl := hc.1
  have hlq := hq.1
  obtain ⟨a1, c1, rfl, _⟩ := hc.form
  obtain ⟨a2, c2, rfl, _⟩ := hq.form
  obtain ⟨a3, c3, rfl, _⟩ := hc2.form
  obtain ⟨a4, c4, rfl, _⟩ := hq2.form
  show Calls Tryd.prog 17 #[.agg #[.int .i64 e, .int .i64 n, .slice a1 cs.length c1, .slice a2 qs.length c2], .agg #[.int .i64 e, .int .i64 n, .slice a3 cs.length c3, .slice a4 qs.length c4]] w _
  obtain ⟨w1, hw1⟩ : ∃ w1, w.alloc (Obj.cells #[.int .i64 e, .int .i64 n, .slice a1 cs.length c1, .slice a2 qs.length c2] 27) = w1 := ⟨_, rfl⟩
  obtain ⟨w2, hw2⟩ : ∃ w2, w1.alloc (Obj.cells #[.int .i64 e, .int .i64 n, .slice a3 cs.length c3, .slice a4 qs.length c4] 27) = w2 := ⟨_, rfl⟩
  have hb1 : Below w.heap.size w w1 := by rw [← hw1]; exact (Below.refl w.heap.size w).alloc (Nat.le_refl _) _
  have hb12 : Below w1.heap.size w1 w2 := by rw [← hw2]; exact (Below.refl w1.heap.size w1).alloc (Nat.le_refl _) _
  have HB2 : Hid (Below w.heap.size w w2) := bjoin hb12 hb1
  have hx1 : Box w2 w.heap.size 27 #[.int .i64 e, .int .i64 n, .slice a1 cs.length c1, .slice a2 qs.length c2] := Box.below (by rw [← hw1]; exact Box.new w _ _) hb12
  have hx2 : Box w2 w1.heap.size 27 #[.int .i64 e, .int .i64 n, .slice a3 cs.length c3, .slice a4 qs.length c4] := by rw [← hw2]; exact Box.new w1 _ _
  have KX : Hid (∀ X, Below w2.heap.size w2 X → (X.cell? ⟨w.heap.size, 0, none⟩ = some (.int .i64 e) ∧ X.cell? ⟨w.heap.size, 1, none⟩ = some (.int .i64 n) ∧ X.cell? ⟨w.heap.size, 2, none⟩ = some (.slice a1 cs.length c1) ∧ X.cell? ⟨w.heap.size, 3, none⟩ = some (.slice a2 qs.length c2)) ∧ (X.cell? ⟨w1.heap.size, 0, none⟩ = some (.int .i64 e) ∧ X.cell? ⟨w1.heap.size, 1, none⟩ = some (.int .i64 n) ∧ X.cell? ⟨w1.heap.size, 2, none⟩ = some (.slice a3 cs.length c3) ∧ X.cell? ⟨w1.heap.size, 3, none⟩ = some (.slice a4 qs.length c4))) := fun X hX => ⟨(hx1.below hX).pool.1, (hx2.below hX).pool.1⟩
  have HC1 := hide (fun X (hX : Below w2.heap.size w2 X) => At.kept kept_flat hc (bjoin hX HB2.out))
  have HC2 := hide (fun X (hX : Below w2.heap.size w2 X) => At.kept kept_flat hc2 (bjoin hX HB2.out))
  have HQ1 := hide (fun X (hX : Below w2.heap.size w2 X) => At.kept kept_flat hq (bjoin hX HB2.out))
  have HQ2 := hide (fun X (hX : Below w2.heap.size w2 X) => At.kept kept_flat hq2 (bjoin hX HB2.out))
  clear hc hc2 hq hq2 hb1 hb12 hx1 hx2
  obtain ⟨⟨p0, p1, p2, p3⟩, r0, r1, r2, r3⟩ := KX.out w2 (Below.refl _ _)
  go_enter Tryd.func17, Tryd.ntmps17
  go_wp2_with fail
  clear p0 p1 p2 p3 r0 r1 r2 r3
  go_loopw [5] (fun i wx => ∃ k : Nat, k ≤ cs.length ∧ i = .int .i64 k ∧ Below w2.heap.size w2 wx) (fun i _ => cs.length - (intOf i).toNat)
  case atStart => exact ⟨0, Nat.zero_le _, rfl, Below.refl _ _⟩
  case round =>
    obtain ⟨k, hk, rfl, hb⟩ := hrel
    obtain ⟨⟨p0, p1, p2, p3⟩, r0, r1, r2, r3⟩ := KX.out wr hb
    by_cases hlt : k < cs.length
    · obtain ⟨b, off, rfl, hbl, hel, _⟩ := at_place (HC1.out wr hb) hlt
      obtain ⟨b2, off2, rfl, hbl2, hel2, _⟩ := at_place (HC2.out wr hb) hlt
      have hi : (k : Int) < (cs.length : Int) := by omega
      obtain ⟨c, hck⟩ : ∃ c, cs[k] = c := ⟨_, rfl⟩
      rw [hck] at hel hel2
      have g0 : wr.cell? ⟨b, off + k * 7, none⟩ = some (.bool c.busy) := hel 0 (by simp [cnC])
      have g1 : wr.cell? ⟨b, off + k * 7 + 1, none⟩ = some (.string c.control) := hel 1 (by simp [cnC])
      have g2 : wr.cell? ⟨b, off + k * 7 + 2, none⟩ = some (.int .i64 c.want.client) := hel 2 (by simp [cnC])
      have g3 : wr.cell? ⟨b, off + k * 7 + 3, none⟩ = some (.string c.want.tag) := hel 3 (by simp [cnC])
      have g4 : wr.cell? ⟨b, off + k * 7 + 4, none⟩ = some (.string c.want.query) := hel 4 (by simp [cnC])
      have g5 : wr.cell? ⟨b, off + k * 7 + 5, none⟩ = some (.string c.want.pointer) := hel 5 (by simp [cnC])
      have g6 : wr.cell? ⟨b, off + k * 7 + 6, none⟩ = some (.int .i64 c.due) := hel 6 (by simp [cnC])
      have f0 : wr.cell? ⟨b2, off2 + k * 7, none⟩ = some (.bool c.busy) := hel2 0 (by simp [cnC])
      have f1 : wr.cell? ⟨b2, off2 + k * 7 + 1, none⟩ = some (.string c.control) := hel2 1 (by simp [cnC])
      have f2 : wr.cell? ⟨b2, off2 + k * 7 + 2, none⟩ = some (.int .i64 c.want.client) := hel2 2 (by simp [cnC])
      have f3 : wr.cell? ⟨b2, off2 + k * 7 + 3, none⟩ = some (.string c.want.tag) := hel2 3 (by simp [cnC])
      have f4 : wr.cell? ⟨b2, off2 + k * 7 + 4, none⟩ = some (.string c.want.query) := hel2 4 (by simp [cnC])
      have f5 : wr.cell? ⟨b2, off2 + k * 7 + 5, none⟩ = some (.string c.want.pointer) := hel2 5 (by simp [cnC])
      have f6 : wr.cell? ⟨b2, off2 + k * 7 + 6, none⟩ = some (.int .i64 c.due) := hel2 6 (by simp [cnC])
      clear hel hel2 hck
      go_wp2_with fail
      go_quiet (fail)
      go_wp2_with fail
      go_roundw
      case rel => exact ⟨k + 1, by omega, by go_num, below_drewN hb _⟩
      case measure => simp [intOf]; omega
    · go_wp2_with fail
      clear p0 p1 p2 p3 r0 r1 r2 r3
      obtain ⟨X1, hX1⟩ : ∃ X1, wr = X1 := ⟨_, rfl⟩
      rw [hX1] at hb
      go_loopw [6] (fun i wx => ∃ k : Nat, k ≤ qs.length ∧ i = .int .i64 k ∧ Below w2.heap.size w2 wx) (fun i _ => qs.length - (intOf i).toNat)
      case atStart => exact ⟨0, Nat.zero_le _, rfl, by rw [hX1]; exact hb⟩
      case round =>
        obtain ⟨k, hk, rfl, hb⟩ := hrel
        obtain ⟨⟨p0, p1, p2, p3⟩, r0, r1, r2, r3⟩ := KX.out wr hb
        by_cases hlt : k < qs.length
        · obtain ⟨b, off, rfl, hbl, hel, _⟩ := at_place (HQ1.out wr hb) hlt
          obtain ⟨b2, off2, rfl, hbl2, hel2, _⟩ := at_place (HQ2.out wr hb) hlt
          have hi : (k : Int) < (qs.length : Int) := by omega
          obtain ⟨c, hck⟩ : ∃ c, qs[k] = c := ⟨_, rfl⟩
          rw [hck] at hel hel2
          have g2 : wr.cell? ⟨b, off + k * 4, none⟩ = some (.int .i64 c.client) := hel 0 (by simp [wnC])
          have g3 : wr.cell? ⟨b, off + k * 4 + 1, none⟩ = some (.string c.tag) := hel 1 (by simp [wnC])
          have g4 : wr.cell? ⟨b, off + k * 4 + 2, none⟩ = some (.string c.query) := hel 2 (by simp [wnC])
          have g5 : wr.cell? ⟨b, off + k * 4 + 3, none⟩ = some (.string c.pointer) := hel 3 (by simp [wnC])
          have f2 : wr.cell? ⟨b2, off2 + k * 4, none⟩ = some (.int .i64 c.client) := hel2 0 (by simp [wnC])
          have f3 : wr.cell? ⟨b2, off2 + k * 4 + 1, none⟩ = some (.string c.tag) := hel2 1 (by simp [wnC])
          have f4 : wr.cell? ⟨b2, off2 + k * 4 + 2, none⟩ = some (.string c.query) := hel2 2 (by simp [wnC])
          have f5 : wr.cell? ⟨b2, off2 + k * 4 + 3, none⟩ = some (.string c.pointer) := hel2 3 (by simp [wnC])
          clear hel hel2 hck
          go_wp2_with fail
          go_quiet (fail)
          go_wp2_with fail
          go_roundw
          case rel => exact ⟨k + 1, by omega, by go_num, below_drewN hb _⟩
          case measure => simp [intOf]; omega
        · go_wp2_with fail
          go_ret
          exact ⟨rfl, bjoin hb HB2.out⟩
end Go.Proofs.YtfdefjdogmhinaaDoor.Msg
