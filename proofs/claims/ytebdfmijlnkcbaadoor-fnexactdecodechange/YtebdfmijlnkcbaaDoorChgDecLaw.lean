import Derived.Test.YtebdfmijlnkcbaaDoorChgDecS
import Derived.Test.YtebdfmijlnkcbaaDoorChgLaw
import Derived.Test.YtebdfmijlnkcbaaDoorMarkStr
import Derived.Test.YtebdfmijlnkcbaaDoorHeldMsg
namespace Go.Proofs.YtebdfmijlnkcbaaDoor.Msg
open Go.ChangeShapes Go.WideShapes Go.ChangeAt Go.RowKit
set_option linter.unusedVariables false
set_option linter.unusedSimpArgs false

theorem dec_rows (s : ByteArray) : (decR (decS s)).1.rows.length ≤ 200 := by
  rw [← dec_same]
  unfold decI
  split
  · exact Nat.zero_le _
  rename_i h0
  split
  · rename_i h
    have hk := (encB_ok h (by omega)).1
    show (looseI (cutL 10 s.data.toList)).rows.length ≤ 200
    rcases chgB_cases hk with ⟨_, _, _, _, e, _⟩ | ⟨_, _, _, e, _, _⟩ | ⟨_, _, _, e, _, _⟩ | ⟨_, _, _, e, _⟩
    · rw [e]; simp
    · exact e
    · rw [e]; simp
    · rw [e]; simp
  · exact Nat.zero_le _

set_option maxHeartbeats 1000000 in
theorem markChg_any (c : Chg) (v : Value) (bs : List Nat) (w : World) (hkb : 1 + cRep c.rows ≤ 4611686018427387904) (hv : OStrs w v c.rows bs) :
    Calls Tryd.prog 7 #[chgV c v, .int .i64 1] w fun e w' => e = .returned (.int .i64 ((1 + cRep c.rows : Nat) : Int)) ∧ Only bs w w' ∧ OStrs w' v (mkRep 1 c.rows) bs := by
  obtain ⟨kind, client, tag, query, page, rows, n⟩ := c
  simp only at hkb hv
  obtain ⟨a, cap, hf, _⟩ := (OAt.toAt toAt_str hv (lo := 0) (fun _ _ => Nat.zero_le _)).form
  subst hf
  show Calls Tryd.prog 7 #[.agg #[.int .i64 kind, .int .i64 client, .string tag, .string query, .int .i64 page, .slice a rows.length cap, .int .i64 n], .int .i64 1] w _
  have hb := (Below.refl w.heap.size w).alloc (Nat.le_refl _) (Obj.cells #[.int .i64 kind, .int .i64 client, .string tag, .string query, .int .i64 page, .slice a rows.length cap, .int .i64 n] 24)
  have HM : Hid (Calls Tryd.prog 16 #[.slice a rows.length cap, .int .i64 1] (w.alloc (Obj.cells #[.int .i64 kind, .int .i64 client, .string tag, .string query, .int .i64 page, .slice a rows.length cap, .int .i64 n] 24)) fun e w' => e = .returned (.int .i64 ((1 + cRep rows : Nat) : Int)) ∧ Only bs (w.alloc (Obj.cells #[.int .i64 kind, .int .i64 client, .string tag, .string query, .int .i64 page, .slice a rows.length cap, .int .i64 n] 24)) w' ∧ OStrs w' (.slice a rows.length cap) (mkRep 1 rows) bs) := markStrs_any rows _ bs 1 _ (Nat.le_refl _) hkb (OAt.kept keptO_str hv hb.size (fun d hd => hb.block d (OAt.lt ltO_str hv d hd)))
  have HB := hide hb
  clear hv hb hkb
  go_enter Tryd.func7, Tryd.ntmps7
  go_wp2_with fail
  refine HM.out.mono ?_
  rintro e w4 ⟨rfl, hon, hO⟩
  have HON := hide hon
  have HO := hide hO
  clear hon hO
  go_wp2_with fail
  go_ret
  exact ⟨rfl, (Only.of_below HB.out).trans HON.out, HO.out⟩
set_option maxHeartbeats 1000000 in
theorem heldChg_any (c : Chg) (v : Value) (w : World) (hl : c.rows.length ≤ 9223372036854775807) (hkb : 1 + cRep c.rows ≤ 4611686018427387904) {lo : Nat} (hv : StrsAt lo w v (mkRep 1 c.rows)) :
    Calls Tryd.prog 8 #[chgV c v, .int .i64 1] w fun e w' => e = .returned (.int .i64 ((1 + cRep c.rows : Nat) : Int)) ∧ Below w.heap.size w w' := by
  obtain ⟨kind, client, tag, query, page, rows, n⟩ := c
  simp only at hl hkb hv
  obtain ⟨a, cap, hf, _⟩ := hv.form
  subst hf
  obtain ⟨L, hL⟩ : ∃ L, (mkRep 1 rows).length = L := ⟨_, rfl⟩
  rw [hL] at hv ⊢
  show Calls Tryd.prog 8 #[.agg #[.int .i64 kind, .int .i64 client, .string tag, .string query, .int .i64 page, .slice a L cap, .int .i64 n], .int .i64 1] w _
  have hb := (Below.refl w.heap.size w).alloc (Nat.le_refl _) (Obj.cells #[.int .i64 kind, .int .i64 client, .string tag, .string query, .int .i64 page, .slice a L cap, .int .i64 n] 24)
  have HM : Hid (Calls Tryd.prog 17 #[.slice a L cap, .int .i64 1] (w.alloc (Obj.cells #[.int .i64 kind, .int .i64 client, .string tag, .string query, .int .i64 page, .slice a L cap, .int .i64 n] 24)) fun e w' => e = .returned (.int .i64 ((1 + cRep rows : Nat) : Int)) ∧ Below (w.alloc (Obj.cells #[.int .i64 kind, .int .i64 client, .string tag, .string query, .int .i64 page, .slice a L cap, .int .i64 n] 24)).heap.size (w.alloc (Obj.cells #[.int .i64 kind, .int .i64 client, .string tag, .string query, .int .i64 page, .slice a L cap, .int .i64 n] 24)) w') := heldStrs_any rows _ 1 _ (Nat.le_refl _) hkb (At.kept kept_str hv hb)
  have HB := hide hb
  have hnn : ¬ ((1 + cRep rows : Nat) : Int) < 0 := by omega
  obtain ⟨q, hq⟩ : ∃ q : Int, ((1 + cRep rows : Nat) : Int) = q := ⟨_, rfl⟩
  rw [hq] at HM hnn ⊢
  clear hv hb hkb hq
  go_enter Tryd.func8, Tryd.ntmps8
  go_wp2_with fail
  refine HM.out.mono ?_
  rintro e w4 ⟨rfl, hb4⟩
  go_wp2_with fail
  go_ret
  exact ⟨rfl, bjoin hb4 HB.out⟩
theorem Box7.block {W W' : World} {B : Nat} {k0 k1 k4 k6 : Int} {t2 t3 : ByteArray} {v5 : Value} (h : Box7 W B k0 k1 t2 t3 k4 v5 k6) (hs : W.heap.size ≤ W'.heap.size) (hb : W'.heap[B]? = W.heap[B]?) : Box7 W' B k0 k1 t2 t3 k4 v5 k6 := by
  obtain ⟨⟨o0, o1, o2, o3, o4, o5, o6⟩, ⟨p0, p1, p2, p3, p4, p5, p6⟩, hz⟩ := h
  refine ⟨⟨?_, ?_, ?_, ?_, ?_, ?_, ?_⟩, ⟨?_, ?_, ?_, ?_, ?_, ?_, ?_⟩, Nat.lt_of_lt_of_le hz hs⟩
  all_goals first | (rw [cellSame hb]; assumption) | (rw [frozenSame hb]; assumption)

set_option maxRecDepth 100000 in
set_option maxHeartbeats 4000000 in
theorem lawDec (s : ByteArray) (w : World) (hs : s.size ≤ 9223372036854775807) (hE : Env w) (hM : Mx w) :
    Calls Tryd.prog 3 #[.string s] w fun e w' => e = .returned (.bool true) ∧ Below w.heap.size w w' := by
  by_cases hbig : (1048576 : Int) < (s.size : Int)
  · go_enter Tryd.func3, Tryd.ntmps3
    go_wp2_with fail
    go_ret
    exact ⟨rfl, Below.refl _ _⟩
  have HSP := hide (fun W => decS_any s W (by omega))
  have HIM := hide (fun W hE hM => decI_any s W (by omega) hE hM)
  rw [dec_same] at HIM
  have hrl := dec_rows s
  obtain ⟨R, hR⟩ : ∃ R, decR (decS s) = R := ⟨_, rfl⟩
  rw [hR] at HSP HIM hrl
  obtain ⟨C, b⟩ := R
  dsimp only at HSP HIM hrl
  have hcr := cRep_len C.rows
  have HEQ := hide (fun u u' W (lo lo2 : Nat) h h' => eqChg_any C u u' W (lo := lo) (lo2 := lo2) h h')
  have HMK := hide (fun u bs W h => markChg_any C u bs W (by omega) h)
  have HHD := hide (fun u W (lo : Nat) h => heldChg_any C u W (by omega) (by omega) (lo := lo) h)
  have hnn : ¬ ((1 + cRep C.rows : Nat) : Int) < 0 := by omega
  obtain ⟨q, hq⟩ : ∃ q : Int, ((1 + cRep C.rows : Nat) : Int) = q := ⟨_, rfl⟩
  rw [hq] at HMK HHD hnn
  have HE := hide hE
  have HMx := hide hM
  clear hR hrl hcr hq hE hM
  obtain ⟨kind, client, tag, query, page, rows, n⟩ := C
  unfold chgV at HSP HIM HEQ HMK HHD
  dsimp only at HSP HIM HEQ HMK HHD
  go_enter Tryd.func3, Tryd.ntmps3
  go_wp2_with fail
  refine (HSP.out w).mono ?_
  rintro e W1 ⟨u1, rfl, hO1, hb1⟩
  obtain ⟨a1, cap1, rfl⟩ := hO1.form
  obtain ⟨W2, hW2⟩ : ∃ W2, W1.alloc (Obj.cells #[.int .i64 kind, .int .i64 client, .string tag, .string query, .int .i64 page, .slice a1 rows.length cap1, .int .i64 n] 24) = W2 := ⟨_, rfl⟩
  have b12 : Below W1.heap.size W1 W2 := by rw [← hW2]; exact (Below.refl _ _).alloc (Nat.le_refl _) _
  have x2 : Box7 W2 W1.heap.size kind client tag query page (.slice a1 rows.length cap1) n := by rw [← hW2]; exact Box7.of_alloc W1 24 kind client page n tag query _
  have s2 : W2.heap.size = W1.heap.size + 1 := by rw [← hW2]; simp
  have HW2 := hide hW2
  have HB02 := hide (bjoin b12 hb1)
  have HX2 := hide x2
  have HA2 := hide (At.kept kept_str hO1.strs b12)
  have HS2 := hide s2
  clear hO1 hb1 b12 hW2 x2 s2
  go_wp2_with fail
  rw [HW2.out]
  refine (HIM.out W2 (HE.out.kept HB02.out) (HMx.out.kept HB02.out)).mono ?_
  rintro e W3 ⟨u2, rfl, hO2, hb3⟩
  obtain ⟨a2, cap2, rfl⟩ := hO2.form
  obtain ⟨bs, hS2, hnd, hge⟩ := hO2
  obtain ⟨W4, hW4⟩ : ∃ W4, W3.alloc (Obj.cells #[.int .i64 kind, .int .i64 client, .string tag, .string query, .int .i64 page, .slice a2 rows.length cap2, .int .i64 n] 24) = W4 := ⟨_, rfl⟩
  have b34 : Below W3.heap.size W3 W4 := by rw [← hW4]; exact (Below.refl _ _).alloc (Nat.le_refl _) _
  have s4 : W4.heap.size = W3.heap.size + 1 := by rw [← hW4]; simp
  have hlt3 : ∀ d ∈ bs, d < W3.heap.size := fun d hd => OAt.lt ltO_str hS2 d hd
  have HX3 := hide (HX2.out.keep hb3)
  have HX4 : Hid (Box7 W4 W3.heap.size kind client tag query page (.slice a2 rows.length cap2) n) := by rw [← hW4]; exact Box7.of_alloc W3 24 kind client page n tag query _
  have HX4' := hide ((HX2.out.keep hb3).keep b34)
  have HS4 : Hid (OStrs W4 (.slice a2 rows.length cap2) rows bs) := OAt.kept keptO_str hS2 b34.size (fun d hd => b34.block d (hlt3 d hd))
  have HA4 := hide (At.kept kept_str (At.kept kept_str HA2.out hb3) b34)
  have HB24 := hide (bjoin b34 hb3)
  have HW4 := hide hW4
  have HGE := hide hge
  have HLT := hide hlt3
  have HZ4 := hide s4
  have HZ3 := hide hb3.size
  clear hS2 hge hb3 b34 hW4 s4 hlt3
  obtain ⟨⟨o0, o1, o2, o3, o4, o5, o6⟩, _, _⟩ := HX3.out
  go_wp2_with fail
  rw [HW4.out]
  refine (HEQ.out _ _ W4 0 _ (OAt.toAt toAt_str HS4.out (fun _ _ => Nat.zero_le _)) HA4.out).mono ?_
  rintro e W5 ⟨rfl, hb5⟩
  have HX5 := hide (HX4.out.keep hb5)
  have HX5' := hide (HX4'.out.keep hb5)
  have HA5 := hide (At.kept kept_str HA4.out hb5)
  have hlt5 : ∀ d ∈ bs, d < W4.heap.size := fun d hd => by have h1 := HLT.out d hd; have h2 := HZ4.out; omega
  have HS5 : Hid (OStrs W5 (.slice a2 rows.length cap2) rows bs) := OAt.kept keptO_str HS4.out hb5.size (fun d hd => hb5.block d (hlt5 d hd))
  have HB25 := hide (bjoin hb5 HB24.out)
  clear o0 o1 o2 o3 o4 o5 o6 hb5 hlt5
  obtain ⟨⟨o0, o1, o2, o3, o4, o5, o6⟩, _, _⟩ := HX5.out
  go_wp2_with fail
  refine (HMK.out _ bs W5 HS5.out).mono ?_
  rintro e W6 ⟨rfl, hon, hO6⟩
  have hn3 : W3.heap.size ∉ bs := fun h => by have := HLT.out _ h; omega
  have hn1 : W1.heap.size ∉ bs := fun h => by have h1 := HGE.out _ h; have h2 := HS2.out; omega
  have HX6 := hide (HX5.out.block hon.size (hon.block _ HX5.out.2.2 hn3))
  have HX6' := hide (HX5'.out.block hon.size (hon.block _ HX5'.out.2.2 hn1))
  have HB26 : Hid (Below W2.heap.size W2 W6) := HB25.out.trans (hon.below HB25.out.size HGE.out)
  have HA6 : Hid (StrsAt w.heap.size W6 (.slice a1 rows.length cap1) rows) := At.kept kept_str HA2.out HB26.out
  have HO6 := hide (OAt.toAt toAt_str hO6 (lo := 0) (fun _ _ => Nat.zero_le _))
  clear o0 o1 o2 o3 o4 o5 o6 hon hO6 hn3 hn1
  obtain ⟨⟨o0, o1, o2, o3, o4, o5, o6⟩, _, _⟩ := HX6.out
  go_wp2_with fail
  refine (HHD.out _ W6 _ HO6.out).mono ?_
  rintro e W7 ⟨rfl, hb7⟩
  have HX7' := hide (HX6'.out.keep hb7)
  have HB27 := hide (bjoin hb7 HB26.out)
  have HA7 := hide (At.kept kept_str HA6.out hb7)
  clear o0 o1 o2 o3 o4 o5 o6 hb7
  go_wp2_with fail
  refine (HIM.out W7 (HE.out.kept (bjoin HB27.out HB02.out)) (HMx.out.kept (bjoin HB27.out HB02.out))).mono ?_
  rintro e W8 ⟨u3, rfl, hO8, hb8⟩
  obtain ⟨a3, cap3, rfl⟩ := hO8.form
  obtain ⟨W9, hW9⟩ : ∃ W9, W8.alloc (Obj.cells #[.int .i64 kind, .int .i64 client, .string tag, .string query, .int .i64 page, .slice a3 rows.length cap3, .int .i64 n] 24) = W9 := ⟨_, rfl⟩
  have b89 : Below W8.heap.size W8 W9 := by rw [← hW9]; exact (Below.refl _ _).alloc (Nat.le_refl _) _
  have HW9 := hide hW9
  have HX8 := hide (HX7'.out.keep hb8)
  have HA9 := hide (At.kept kept_str (At.kept kept_str HA7.out hb8) b89)
  have HO9 := hide ((hO8.keep b89).strs)
  have HB29 := hide (bjoin b89 (bjoin hb8 HB27.out))
  clear hO8 hb8 b89 hW9
  obtain ⟨⟨o0, o1, o2, o3, o4, o5, o6⟩, _, _⟩ := HX8.out
  go_wp2_with fail
  rw [HW9.out]
  refine (HEQ.out _ _ W9 _ _ HO9.out HA9.out).mono ?_
  rintro e W10 ⟨rfl, hb10⟩
  go_wp2_with fail
  go_ret
  exact ⟨rfl, bjoin (bjoin hb10 HB29.out) HB02.out⟩
end Go.Proofs.YtebdfmijlnkcbaaDoor.Msg
