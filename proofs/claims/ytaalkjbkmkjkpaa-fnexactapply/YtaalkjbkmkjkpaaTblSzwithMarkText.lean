import Derived.Test.YtaalkjbkmkjkpaaMsgDatawithMsgSz
import Derived.Test.YtaalkjbkmkjkpaaChgLawwithMsgSz3
import Derived.Test.YtaalkjbkmkjkpaaMsgSz2withMsgEq
import Derived.Test.YtaalkjbkmkjkpaaMsgEq2withMsgTo
import Derived.Test.YtaalkjbkmkjkpaaChgPurewithMsgTo2
import Derived.Laws.BytesArg
namespace Go.Proofs.Ytaalkjbkmkjkpaa.Msg
open Go.ChangeShapes Go.WideShapes Go.ChangeAt Go.RowKit
set_option linter.unusedVariables false
set_option linter.unusedSimpArgs false

/-! sessions and tables -/
structure Sess where
  client : Int
  tag : ByteArray
  query : ByteArray
  page : Int
  state : Int
  rows : List ByteArray
  cursor : Int
def sessV (x : Sess) (v : Value) : Value := .agg #[.int .i64 x.client, .string x.tag, .string x.query, .int .i64 x.page, .int .i64 x.state, v, .int .i64 x.cursor]
def SessR (lo : Nat) (w : World) (b off : Nat) (x : Sess) : Prop :=
  w.cell? ⟨b, off, none⟩ = some (.int .i64 x.client) ∧ w.cell? ⟨b, off + 1, none⟩ = some (.string x.tag) ∧ w.cell? ⟨b, off + 2, none⟩ = some (.string x.query) ∧ w.cell? ⟨b, off + 3, none⟩ = some (.int .i64 x.page) ∧ w.cell? ⟨b, off + 4, none⟩ = some (.int .i64 x.state) ∧ w.cell? ⟨b, off + 6, none⟩ = some (.int .i64 x.cursor) ∧
    x.tag.size ≤ 9223372036854775807 ∧ x.query.size ≤ 9223372036854775807 ∧ ∃ v, w.cell? ⟨b, off + 5, none⟩ = some v ∧ StrsAt lo w v x.rows
def SesssAt : Nat → World → Value → List Sess → Prop := At 7 SessR
theorem kept_sess : Kept SessR := fun lo w w' b off x h h1 h2 hb => by
  obtain ⟨g0, g1, g2, g3, g4, g6, z1, z2, v, g5, gs⟩ := h
  exact ⟨by rw [hb.cell h1 h2]; exact g0, by rw [hb.cell h1 h2]; exact g1, by rw [hb.cell h1 h2]; exact g2, by rw [hb.cell h1 h2]; exact g3, by rw [hb.cell h1 h2]; exact g4, by rw [hb.cell h1 h2]; exact g6, z1, z2, v, by rw [hb.cell h1 h2]; exact g5, At.same kept_str gs hb⟩
theorem mono_sess : Mono SessR := fun _ _ _ _ _ _ h hl => let ⟨g0, g1, g2, g3, g4, g6, z1, z2, v, g5, gs⟩ := h; ⟨g0, g1, g2, g3, g4, g6, z1, z2, v, g5, At.mono mono_str gs hl⟩
def sessSz (x : Sess) : Nat := x.tag.size + x.query.size + repSz x.rows
def tblSz (xs : List Sess) : Nat := lenSum sessSz xs

set_option maxHeartbeats 2000000 in
theorem szSess_any (x : Sess) (v : Value) (left : Int) (w : World) (h0 : 0 ≤ left) (h9 : left ≤ 1048576) {lo : Nat} (h1 : x.tag.size ≤ 9223372036854775807) (h2 : x.query.size ≤ 9223372036854775807) (hv : StrsAt lo w v x.rows) :
    Calls Try.prog 34 #[sessV x v, .int .i64 left] w fun e w' => e = .returned (.int .i64 (rest left (sessSz x))) ∧ Below w.heap.size w w' := by
  obtain ⟨client, tag, query, page, state, rows, cursor⟩ := x
  simp only at h1 h2 hv
  obtain ⟨a, cap, hf, _⟩ := hv.form
  subst hf
  show Calls Try.prog 34 #[.agg #[.int .i64 client, .string tag, .string query, .int .i64 page, .int .i64 state, .slice a rows.length cap, .int .i64 cursor], .int .i64 left] w _
  have HB := hide ((Below.refl w.heap.size w).alloc (Nat.le_refl _) (Obj.cells #[.int .i64 client, .string tag, .string query, .int .i64 page, .int .i64 state, .slice a rows.length cap, .int .i64 cursor] 62))
  have HSS := hide (fun W hW l k0 k1 => szStrs_any rows (.slice a rows.length cap) l W k0 k1 (At.kept kept_str hv (w' := W) hW))
  have HS : Hid (sessSz ⟨client, tag, query, page, state, rows, cursor⟩ = tag.size + query.size + repSz rows) := rfl
  clear hv
  by_cases a1 : left - tag.size < 0
  · have HX := hide (show rest left (sessSz ⟨client, tag, query, page, state, rows, cursor⟩) = -1 from rest_no (by rw [HS.out]; omega))
    go_enter Try.func34, Try.ntmps34
    go_wp2_with fail
    go_ret
    exact ⟨ret_int HX.out.symm, HB.out⟩
  by_cases a2 : left - tag.size - query.size < 0
  · have HX := hide (show rest left (sessSz ⟨client, tag, query, page, state, rows, cursor⟩) = -1 from rest_no (by rw [HS.out]; omega))
    go_enter Try.func34, Try.ntmps34
    go_wp2_with fail
    go_ret
    exact ⟨ret_int HX.out.symm, HB.out⟩
  have HS2 := hide (HSS.out _ HB.out (left - tag.size - query.size) (by omega) (by omega))
  by_cases a3 : ((repSz rows : Nat) : Int) ≤ left - tag.size - query.size
  · have HX := hide (show rest left (sessSz ⟨client, tag, query, page, state, rows, cursor⟩) = left - tag.size - query.size - repSz rows by rw [rest_yes (by rw [HS.out]; omega), HS.out]; omega)
    rw [rest_yes a3] at HS2
    have hnn : ¬ left - tag.size - query.size - (repSz rows : Nat) < 0 := by omega
    go_enter Try.func34, Try.ntmps34
    go_wp2_with fail
    refine HS2.out.mono ?_
    rintro e w4 ⟨rfl, rfl⟩
    go_wp2_with fail
    go_ret
    exact ⟨ret_int HX.out.symm, HB.out⟩
  · have HX := hide (show rest left (sessSz ⟨client, tag, query, page, state, rows, cursor⟩) = -1 from rest_no (by rw [HS.out]; omega))
    rw [rest_no (by omega)] at HS2
    go_enter Try.func34, Try.ntmps34
    go_wp2_with fail
    refine HS2.out.mono ?_
    rintro e w4 ⟨rfl, rfl⟩
    go_wp2_with fail
    go_ret
    exact ⟨ret_int HX.out.symm, HB.out⟩

set_option maxHeartbeats 1000000 in
theorem szSesss_any (xs : List Sess) (v : Value) (left : Int) (w : World) (h0 : 0 ≤ left) (h1 : left ≤ 1048576) {lo : Nat} (hv : SesssAt lo w v xs) :
    Calls Try.prog 15 #[v, .int .i64 left] w fun e w' => e = .returned (.int .i64 (rest left (tblSz xs))) ∧ Below w.heap.size w w' := by
  obtain ⟨hl, hv⟩ := hv
  have HR : Hid (tblSz xs = xs.length + sumOf sessSz xs) := rfl
  rcases hv with ⟨a0, c0, rfl, rfl⟩ | ⟨b, off, cap, rfl, ⟨_, hlt⟩, hc⟩
  · go_enter Try.func15, Try.ntmps15
    go_wp2
    go_loop [1, 5] (fun r i => r = .int .i64 left ∧ i = .int .i64 0) (fun _ _ => 0)
    case atStart => exact ⟨rfl, rfl⟩
    case round =>
      obtain ⟨rfl, rfl⟩ := hrel
      go_wp2
      go_ret
      exact ⟨ret_int (by rw [rest_yes] <;> simp [tblSz, lenSum, sumOf]; omega), Below.refl _ _⟩
  · by_cases hfit : (xs.length : Int) ≤ left
    · have hneg : ¬ left - (xs.length : Int) < 0 := by omega
      go_enter Try.func15, Try.ntmps15
      go_wp2
      go_loopw [1, 5] (fun r i w1 => ∃ k : Nat, k ≤ xs.length ∧ i = .int .i64 k ∧ r = .int .i64 (left - xs.length - (sumOf sessSz (xs.take k) : Nat)) ∧ ((xs.length + sumOf sessSz (xs.take k) : Nat) : Int) ≤ left ∧ Below w.heap.size w w1) (fun _ i _ => xs.length - (intOf i).toNat)
      case atStart => exact ⟨0, Nat.zero_le _, rfl, by simp [sumOf], by simpa [sumOf] using hfit, Below.refl _ _⟩
      case round =>
        obtain ⟨k, hk, rfl, rfl, hs, hb⟩ := hrel
        by_cases hlt2 : k < xs.length
        · obtain ⟨c0, c1, c2, c3, c4, c6, z1, z2, ve, c5, hel⟩ := hc k hlt2
          have d0 : wr.cell? ⟨b, off + k * 7, none⟩ = some (.int .i64 xs[k].client) := by rw [bcell hb _ _ hlt]; exact c0
          have d1 : wr.cell? ⟨b, off + k * 7 + 1, none⟩ = some (.string xs[k].tag) := by rw [bcell hb _ _ hlt]; exact c1
          have d2 : wr.cell? ⟨b, off + k * 7 + 2, none⟩ = some (.string xs[k].query) := by rw [bcell hb _ _ hlt]; exact c2
          have d3 : wr.cell? ⟨b, off + k * 7 + 3, none⟩ = some (.int .i64 xs[k].page) := by rw [bcell hb _ _ hlt]; exact c3
          have d4 : wr.cell? ⟨b, off + k * 7 + 4, none⟩ = some (.int .i64 xs[k].state) := by rw [bcell hb _ _ hlt]; exact c4
          have d5 : wr.cell? ⟨b, off + k * 7 + 5, none⟩ = some ve := by rw [bcell hb _ _ hlt]; exact c5
          have d6 : wr.cell? ⟨b, off + k * 7 + 6, none⟩ = some (.int .i64 xs[k].cursor) := by rw [bcell hb _ _ hlt]; exact c6
          have hel' : StrsAt lo wr ve xs[k].rows := At.kept kept_str hel hb
          have HS : Hid (sumOf sessSz (xs.take (k + 1)) = sumOf sessSz (xs.take k) + sessSz xs[k]) := sum_take sessSz xs k hlt2
          have HL : Hid (sumOf sessSz (xs.take (k + 1)) ≤ sumOf sessSz xs) := sum_le sessSz xs (k + 1)
          clear c0 c1 c2 c3 c4 c5 c6 hc
          go_wp2_with fail
          refine (szSess_any xs[k] ve _ _ (by omega) (by omega) z1 z2 hel').mono ?_
          rintro e w2 ⟨rfl, hb2⟩
          have hb3 : Below w.heap.size w w2 := hb.trans (hb2.mono hb.size)
          by_cases hn : ((sessSz xs[k] : Nat) : Int) ≤ left - (xs.length : Int) - ((sumOf sessSz (xs.take k) : Nat) : Int)
          · rw [rest_yes hn]
            go_wp2_with fail
            go_roundw
            case rel => exact ⟨k + 1, by omega, by go_num, by rw [HS.out]; go_num, by have a := HS.out; omega, hb3⟩
            case measure => simp [intOf]; omega
          · rw [rest_no hn]
            go_wp2_with fail
            go_ret
            exact ⟨ret_int (by have a := HS.out; have b := HL.out; rw [rest_no]; rw [HR.out]; omega), hb3⟩
        · have HA : Hid (sumOf sessSz (xs.take k) = sumOf sessSz xs) := sum_all sessSz xs k (by omega)
          go_wp2
          go_ret
          exact ⟨ret_int (by have a := HA.out; rw [rest_yes] <;> rw [HR.out] <;> omega), hb⟩
    · have hneg : left - (xs.length : Int) < 0 := by omega
      go_enter Try.func15, Try.ntmps15
      go_wp2
      go_ret
      exact ⟨ret_int (by rw [rest_no]; rw [HR.out]; omega), Below.refl _ _⟩
end Go.Proofs.Ytaalkjbkmkjkpaa.Msg

namespace Go.Proofs.Ytaalkjbkmkjkpaa.Msg
open Go.ChangeShapes Go.WideShapes Go.ChangeAt Go.RowKit
set_option linter.unusedVariables false
set_option linter.unusedSimpArgs false

def digsF : Nat → Nat → List UInt8
  | 0, _ => []
  | f + 1, n => if n = 0 then [] else digsF f (n / 10) ++ [UInt8.ofNat (48 + n % 10)]
def digs (n : Nat) : List UInt8 := digsF n n
theorem digsF_fuel : ∀ (f g n : Nat), n ≤ f → n ≤ g → digsF f n = digsF g n
  | 0, g, n, h1, h2 => by
    obtain rfl : n = 0 := by omega
    cases g <;> simp [digsF]
  | f + 1, 0, n, h1, h2 => by
    obtain rfl : n = 0 := by omega
    simp [digsF]
  | f + 1, g + 1, n, h1, h2 => by
    unfold digsF
    by_cases h : n = 0
    · simp [h]
    · rw [if_neg h, if_neg h, digsF_fuel f g (n / 10) (by omega) (by omega)]
theorem digs_zero : digs 0 = [] := rfl
theorem digs_step (n : Nat) (h : n ≠ 0) : digs n = digs (n / 10) ++ [UInt8.ofNat (48 + n % 10)] := by
  unfold digs
  obtain ⟨m, rfl⟩ : ∃ m, n = m + 1 := ⟨n - 1, by omega⟩
  conv => lhs; unfold digsF
  rw [if_neg h, digsF_fuel m ((m + 1) / 10) ((m + 1) / 10) (by omega) (by omega)]
/-- the mark of number k (from 1) -/
def markT (k : Nat) : ByteArray := ⟨#[109]⟩ ++ ⟨(digs k).toArray⟩
theorem bytes_ext {a b : ByteArray} (h : a.data.toList = b.data.toList) : a = b := by
  cases a; cases b
  simp only [ByteArray.mk.injEq]
  exact Array.toList_inj.1 h
theorem digs_len : ∀ (f n : Nat), n ≤ f → n < 18446744073709551616 → (digs n).length ≤ 20 := by
  intro f n _ h
  have key : ∀ (j n : Nat), n < 10 ^ j → (digs n).length ≤ j := by
    intro j
    induction j with
    | zero => intro n hn; obtain rfl : n = 0 := by omega
              simp [digs_zero]
    | succ j ih =>
      intro n hn
      by_cases h0 : n = 0
      · subst h0; simp [digs_zero]
      · rw [digs_step n h0, List.length_append, List.length_singleton]
        have := ih (n / 10) (by rw [Nat.pow_succ] at hn; omega)
        omega
  exact key 20 n (by omega)

set_option maxRecDepth 100000 in
set_option maxHeartbeats 1000000 in
theorem markText_any (k0 : Nat) (w : World) (h0 : 1 ≤ k0) (h1 : k0 ≤ 4611686018427387904) :
    Calls Try.prog 59 #[.int .i64 (k0 : Int)] w fun e w' => e = .returned (.string (markT k0)) ∧ Below w.heap.size w w' := by
  have hpos : ¬ (k0 : Int) ≤ 0 := by omega
  have hr : ∀ (w : World) (n : Int), Sem.run Try.prog (convert 87 9 (.slice (some ⟨w.heap.size, 0, none⟩) 1 1)) (w.alloc (Obj.cells #[Value.int IntKind.u8 n] 5)) = .ok (.string (strOfNums [n])) (w.alloc (Obj.cells #[Value.int IntKind.u8 n] 5)) := fun w n =>
    run_convert_bytes_arg (P := Try.prog) (w.alloc (Obj.cells #[Value.int IntKind.u8 n] 5)) 87 5 Try.underlying87 Try.underlying5 w.heap.size 0 1 1 [n] rfl
      (by intro i hi; obtain rfl : i = 0 := by omega
          simp) 9 Try.underlying9
  have HL := hide (digs_len k0 k0 (Nat.le_refl _) (by omega))
  go_enter Try.func59, Try.ntmps59
  go_wp2
  go_loopw [0, 3] (fun kv out wr => ∃ (k : Nat) (s : ByteArray), kv = .int .i64 (k : Int) ∧ out = .string s ∧ k ≤ k0 ∧ digs k ++ s.data.toList = digs k0 ∧ Below w.heap.size w wr) (fun kv _ _ => (intOf kv).toNat)
  case atStart => exact ⟨k0, ByteArray.empty, rfl, rfl, Nat.le_refl _, by simp, Below.refl _ _⟩
  case round =>
    obtain ⟨k, s, rfl, rfl, hk, hd, hb⟩ := hrel
    have hsl : s.size ≤ 20 := by
      have := HL.out
      rw [← hd, List.length_append] at this
      have h2 : s.data.toList.length = s.size := by simp
      omega
    have HD := hide hd
    clear hd
    by_cases hz : k = 0
    · subst hz
      have HS : Hid (⟨#[109]⟩ ++ s = markT k0) := by
        apply bytes_ext
        have := HD.out
        rw [digs_zero, List.nil_append] at this
        simp [markT, this]
      go_wp2
      go_ret
      exact ⟨ret_string HS.out, hb⟩
    · have hkp : (0 : Int) < (k : Int) := by omega
      have hrw := hr wr ((48 : Int) + (k : Int) % 10)
      have hb' := hb.alloc hb.size (Obj.cells #[Value.int IntKind.u8 ((48 : Int) + (k : Int) % 10)] 5)
      have hss : (strOfNums [(48 : Int) + (k : Int) % 10]).size = 1 := strOfNums_size _
      have HF : Hid (digs (k / 10) ++ (strOfNums [(48 : Int) + (k : Int) % 10] ++ s).data.toList = digs k0) := by
        have e1 : (strOfNums [(48 : Int) + (k : Int) % 10] ++ s).data.toList = [UInt8.ofNat (48 + k % 10)] ++ s.data.toList := by
          rw [ByteArray.data_append, Array.toList_append, strOfNums_data]
          rw [List.map_cons, List.map_nil, show ((48 : Int) + (k : Int) % 10).toNat = 48 + k % 10 by omega]
        have e2 := HD.out
        rw [digs_step k hz, List.append_assoc] at e2
        rw [e1]
        exact e2
      go_wp2
      go_roundw
      case rel => exact ⟨k / 10, _, by go_num, rfl, by omega, HF.out, hb'⟩
      case measure => simp [intOf]; omega
end Go.Proofs.Ytaalkjbkmkjkpaa.Msg
