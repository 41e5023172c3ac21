import Derived.Test.YtcphfhfockjljaaDoorMsgOk4withBufPutwithBufEsc
import Derived.Test.YtcphfhfockjljaaDoorMsgWritten
import Derived.Test.YtcphfhfockjljaaDoorMsgEqwithMsgEq2withMsgTo
namespace Go.Proofs.YtcphfhfockjljaaDoor.Msg
open Go.ChangeShapes Go.WideShapes Go.ChangeAt Go.RowKit
set_option linter.unusedVariables false
set_option linter.unusedSimpArgs false

theorem cast_beq (k : Nat) : ((k : Int) == 0) = (k == 0) := by
  by_cases h : k = 0
  · subst h; rfl
  · rw [beq_eq_false_iff_ne.2 (by omega), beq_eq_false_iff_ne.2 h]

def segAt (p : Seg × Nat) : Bool := segB (p.2 == 0) p.1
theorem zall_step {xs : List Seg} {k : Nat} (h : k < xs.length) (h1 : (xs.take k).zipIdx.all segAt = true) (h2 : segB (k == 0) xs[k] = true) : (xs.take (k + 1)).zipIdx.all segAt = true := by
  rw [zip_snoc xs k h, List.all_append, h1]
  simp [segAt, h2]
theorem zall_fail {xs : List Seg} {k : Nat} (h : k < xs.length) (h2 : segB (k == 0) xs[k] = false) : xs.zipIdx.all segAt = false := by
  rw [List.all_eq_false]
  refine ⟨(xs[k], k), ?_, by simp [segAt, h2]⟩
  rw [List.mk_mem_zipIdx_iff_getElem?]
  simp [h]
theorem zall_done {xs : List Seg} {k : Nat} (h : xs.length ≤ k) (h1 : (xs.take k).zipIdx.all segAt = true) : xs.zipIdx.all segAt = true := by
  rwa [List.take_of_length_le h] at h1

set_option maxHeartbeats 1000000 in
theorem shape_any (xs : List Seg) (v : Value) (w : World) {lo : Nat} (hv : SegsAt lo w v xs) :
    Calls Tryd.prog 28 #[.agg #[v]] w fun e w' => e = .returned (.bool (shapeB xs)) ∧ Below w.heap.size w w' := by
  have hl := hv.1
  have hb := (Below.refl w.heap.size w).alloc (Nat.le_refl _) (Obj.cells #[v] 25)
  have hbox : (w.alloc (Obj.cells #[v] 25)).cell? ⟨w.heap.size, 0, none⟩ = some v := by simp
  obtain ⟨a, cap, rfl, hc⟩ := (At.kept kept_seg hv hb).form
  have HC := hide hc
  clear hc hv
  have HBX := hide hbox
  clear hbox
  have HR : Hid (shapeB xs = (decide (1 ≤ xs.length) && (decide (xs.length ≤ 250) && xs.zipIdx.all segAt))) := rfl
  by_cases h1 : (xs.length : Int) < 1
  · go_enter Tryd.func28, Tryd.ntmps28
    go_wp2_with fail
    go_ret
    exact ⟨ret_bool (by rw [HR.out, decide_eq_false (by omega)]; rfl), hb⟩
  · by_cases h2 : (250 : Int) < (xs.length : Int)
    · go_enter Tryd.func28, Tryd.ntmps28
      go_wp2_with fail
      go_ret
      exact ⟨ret_bool (by rw [HR.out, decide_eq_false (p := xs.length ≤ 250) (by omega), Bool.false_and, Bool.and_false]), hb⟩
    · have HX : Hid (shapeB xs = xs.zipIdx.all segAt) := by rw [HR.out, decide_eq_true (by omega), decide_eq_true (by omega)]; rfl
      go_enter Tryd.func28, Tryd.ntmps28
      go_wp2_with fail
      go_loopw [3] (fun i wr => ∃ k : Nat, k ≤ xs.length ∧ i = .int .i64 k ∧ (xs.take k).zipIdx.all segAt = true ∧ Below (w.heap.size + 1) (w.alloc (Obj.cells #[.slice a xs.length cap] 25)) wr) (fun i _ => xs.length - (intOf i).toNat)
      case atStart => exact ⟨0, Nat.zero_le _, rfl, rfl, Below.refl _ _⟩
      case round =>
        obtain ⟨k, hk, rfl, hall, hbr⟩ := hrel
        have HA := hide hall
        clear hall
        have hbw : Below w.heap.size w wr := hb.trans (hbr.mono (by omega))
        have hbox : wr.cell? ⟨w.heap.size, 0, none⟩ = some (.slice a xs.length cap) := by rw [hbr.cell (p := ⟨w.heap.size, 0, none⟩) (by simp)]; exact HBX.out
        have hbr' : Below (w.alloc (Obj.cells #[.slice a xs.length cap] 25)).heap.size (w.alloc (Obj.cells #[.slice a xs.length cap] 25)) wr := by simpa using hbr
        by_cases hlt : k < xs.length
        · obtain ⟨b, off, rfl, _, hbl', hc0, hns, ve, hcell, hel⟩ := HC.out k hlt
          have hcell0 : wr.cell? ⟨b, off + k * 2, none⟩ = some (.string xs[k].name) := by rw [hbr'.cell (p := ⟨b, off + k * 2, none⟩) hbl']; exact hc0
          have hcell1 : wr.cell? ⟨b, off + k * 2 + 1, none⟩ = some ve := by rw [hbr'.cell (p := ⟨b, off + k * 2 + 1, none⟩) hbl']; exact hcell
          have hel' := At.kept kept_field hel hbr'
          clear hcell hel hc0
          have HK := hide (cast_beq k)
          go_wp2_with fail
          rw [HK.out]
          refine (segOk_any xs[k] (k == 0) ve _ hns hel').mono ?_
          rintro e w2 ⟨rfl, hb2⟩
          have hb3 : Below (w.heap.size + 1) (w.alloc (Obj.cells #[.slice (some ⟨b, off, none⟩) xs.length cap] 25)) w2 := hbr.trans (hb2.mono (by have := hbr.size; simp at this; omega))
          clear hbr hbr' hb2 hcell0 hcell1 hel' hbox
          cases hp : segB (k == 0) xs[k]
          · have HF := hide (zall_fail hlt hp)
            clear hp
            go_wp2_with fail
            go_ret
            exact ⟨ret_bool (by rw [HX.out, HF.out]), hb.trans (hb3.mono (by omega))⟩
          · have HF := hide (zall_step hlt HA.out hp)
            clear hp
            go_wp2_with fail
            go_roundw
            case rel => exact ⟨k + 1, by omega, by go_num, HF.out, hb3⟩
            case measure => simp [intOf]; omega
        · have HF := hide (zall_done (by omega) HA.out)
          go_wp2_with fail
          go_ret
          exact ⟨ret_bool (by rw [HX.out, HF.out]), hbw⟩

/-- a slice of bytes, turned into a text -/
theorem buf_string {base : Nat} {w : World} {v : Value} {bs : List UInt8} (h : Buf base w v bs) : Sem.run Tryd.prog (convert 22 9 v) w = .ok (.string ⟨bs.toArray⟩) w := by
  obtain ⟨hlen, ⟨rfl, h0⟩ | ⟨g, cap, cur, rfl, hg, hs, hcap, hm, hsz, htk⟩⟩ := h
  · rw [run_convert_bytes_nil w 22 5 Tryd.underlying22 Tryd.underlying5 0 0 9 Tryd.underlying9]
    have : bs = [] := List.length_eq_zero_iff.1 h0
    subst this
    rfl
  · rw [run_convert_bytes_arg w 22 5 Tryd.underlying22 Tryd.underlying5 g 0 bs.length cap (bs.map fun c => (c.toNat : Int)) (by simp) ?_ 9 Tryd.underlying9]
    · congr 2
      unfold strOfNums
      congr 2
      rw [List.map_map]
      conv => rhs; rw [← List.map_id bs]
      apply List.map_congr_left
      intro c _
      simp
    · intro i hi
      have h2 : cur.toList[i]? = some (.int .u8 (bs[i].toNat : Int)) := by
        have h3 : (cur.toList.take (bs.length * 1))[i]? = some (.int .u8 (bs[i].toNat : Int)) := by rw [htk]; simp [u8s, hi]
        rw [List.getElem?_take] at h3
        rw [if_pos (by omega)] at h3
        exact h3
      simp only [World.cell?, hs, Nat.zero_add]
      rw [← Array.getElem?_toList, h2]
      simp [List.getD_eq_getElem?_getD, hi]

/-- a valid message, but for the sizes that go beyond int -/
def msgB (m : List Seg) : Bool := shapeB m && decide ((msgW m).length ≤ 40000)
def encoded (m : List Seg) : ByteArray := if msgB m = true then ⟨(msgW m).toArray⟩ else ⟨#[]⟩
theorem encoded_yes {m : List Seg} (h : msgB m = true) : encoded m = ⟨(msgW m).toArray⟩ := if_pos h
theorem encoded_no {m : List Seg} (h : msgB m = false) : encoded m = ⟨#[]⟩ := if_neg (by rw [h]; decide)

theorem Buf.len {base : Nat} {w : World} {v : Value} {bs : List UInt8} (h : Buf base w v bs) : ∃ a cap, v = .slice a bs.length cap := by
  obtain ⟨hlen, ⟨rfl, h0⟩ | ⟨g, cap, cur, rfl, _⟩⟩ := h
  · exact ⟨none, 0, by rw [h0]⟩
  · exact ⟨_, _, rfl⟩

set_option maxHeartbeats 1000000 in
theorem messageOk_any (xs : List Seg) (v : Value) (w : World) (hsz : msgSz xs ≤ 1048576) {lo : Nat} (hv : SegsAt lo w v xs) :
    Calls Tryd.prog 14 #[.agg #[v]] w fun e w' => e = .returned (.bool (msgB xs)) ∧ Below w.heap.size w w' := by
  have hb := (Below.refl w.heap.size w).alloc (Nat.le_refl _) (Obj.cells #[v] 25)
  have hv1 := At.kept kept_seg hv hb
  have hbox : (w.alloc (Obj.cells #[v] 25)).cell? ⟨w.heap.size, 0, none⟩ = some v := by simp
  have HR : Hid (msgB xs = (shapeB xs && decide ((msgW xs).length ≤ 40000))) := rfl
  have hmw := msgW_le xs
  cases hs : shapeB xs
  · have HX : Hid (msgB xs = false) := by rw [HR.out, hs]; rfl
    have HS := hide hs
    clear hs hbox
    go_enter Tryd.func14, Tryd.ntmps14
    go_wp2_with fail
    refine (shape_any xs v _ hv1).mono ?_
    rintro e w1 ⟨rfl, hb1⟩
    rw [HS.out]
    go_wp2_with fail
    go_ret
    exact ⟨ret_bool HX.out.symm, bjoin hb1 hb⟩
  · have HX : Hid (msgB xs = decide ((msgW xs).length ≤ 40000)) := by rw [HR.out, hs]; rfl
    have HS := hide hs
    have HBX := hide hbox
    clear hs hbox
    go_enter Tryd.func14, Tryd.ntmps14
    go_wp2_with fail
    refine (shape_any xs v _ hv1).mono ?_
    rintro e w1 ⟨rfl, hb1⟩
    rw [HS.out]
    have hbox1 : w1.cell? ⟨w.heap.size, 0, none⟩ = some v := by rw [hb1.cell (p := ⟨w.heap.size, 0, none⟩) (by simp)]; exact HBX.out
    have hv2 := At.kept kept_seg hv1 hb1
    have hb2 := bjoin hb1 hb
    clear hv1 hb1
    go_wp2_with fail
    refine (written_any xs v _ hsz hv2).mono ?_
    rintro e w3 ⟨u, rfl, hu, hb3⟩
    obtain ⟨a, cap, rfl⟩ := hu.len
    by_cases hle : ((msgW xs).length : Int) ≤ 40000
    · go_wp2_with fail
      go_ret
      exact ⟨ret_bool (by rw [HX.out, decide_eq_true (by omega)]), bjoin hb3 hb2⟩
    · go_wp2_with fail
      go_ret
      exact ⟨ret_bool (by rw [HX.out, decide_eq_false (p := (msgW xs).length ≤ 40000) (by omega)]; first | rfl | simpa using hle), bjoin hb3 hb2⟩

set_option maxHeartbeats 1000000 in
theorem encodeSpec_any (xs : List Seg) (v : Value) (w : World) (hsz : msgSz xs ≤ 1048576) {lo : Nat} (hv : SegsAt lo w v xs) :
    Calls Tryd.prog 5 #[.agg #[v]] w fun e w' => e = .returned (.string (encoded xs)) ∧ Below w.heap.size w w' := by
  have hb := (Below.refl w.heap.size w).alloc (Nat.le_refl _) (Obj.cells #[v] 25)
  have hv1 := At.kept kept_seg hv hb
  have hbox : (w.alloc (Obj.cells #[v] 25)).cell? ⟨w.heap.size, 0, none⟩ = some v := by simp
  cases hm : msgB xs
  · have HX := hide (encoded_no hm)
    have HM := hide hm
    clear hm hbox
    go_enter Tryd.func5, Tryd.ntmps5
    go_wp2_with fail
    refine (messageOk_any xs v _ hsz hv1).mono ?_
    rintro e w1 ⟨rfl, hb1⟩
    rw [HM.out]
    go_wp2_with fail
    go_ret
    exact ⟨ret_string HX.out.symm, bjoin hb1 hb⟩
  · have HX := hide (encoded_yes hm)
    have HM := hide hm
    have HBX := hide hbox
    clear hm hbox
    go_enter Tryd.func5, Tryd.ntmps5
    go_wp2_with fail
    refine (messageOk_any xs v _ hsz hv1).mono ?_
    rintro e w1 ⟨rfl, hb1⟩
    rw [HM.out]
    have hbox1 : w1.cell? ⟨w.heap.size, 0, none⟩ = some v := by rw [hb1.cell (p := ⟨w.heap.size, 0, none⟩) (by simp)]; exact HBX.out
    have hv2 := At.kept kept_seg hv1 hb1
    have hb2 := bjoin hb1 hb
    clear hv1 hb1
    go_wp2_with fail
    refine (written_any xs v _ hsz hv2).mono ?_
    rintro e w3 ⟨u, rfl, hu, hb3⟩
    have hconv := buf_string hu
    clear hbox1 hv2
    go_wp2_with fail
    go_ret
    exact ⟨ret_string HX.out.symm, bjoin hb3 hb2⟩
end Go.Proofs.YtcphfhfockjljaaDoor.Msg

namespace Go.Proofs.YtcphfhfockjljaaDoor.Msg
open Go.ChangeShapes Go.WideShapes Go.ChangeAt Go.RowKit
set_option linter.unusedVariables false
set_option linter.unusedSimpArgs false

/-! two messages in order with one encoding are one message -/
/-- nothing, or a text that begins with the separator -/
def Led (c : UInt8) (s : List UInt8) : Prop := s = [] ∨ ∃ r, s = c :: r
theorem split_led {c : UInt8} : ∀ {a b s t : List UInt8}, a ++ s = b ++ t → c ∉ a → c ∉ b → Led c s → Led c t → a = b ∧ s = t
  | [], [], s, t, h, _, _, _, _ => ⟨rfl, h⟩
  | [], y :: b, s, t, h, _, hb, hs, _ => by
    rcases hs with rfl | ⟨r, rfl⟩
    · simp at h
    · simp only [List.nil_append, List.cons_append, List.cons.injEq] at h
      exact absurd (by rw [h.1]; exact List.mem_cons_self ..) hb
  | x :: a, [], s, t, h, ha, _, _, ht => by
    rcases ht with rfl | ⟨r, rfl⟩
    · simp at h
    · simp only [List.nil_append, List.cons_append, List.cons.injEq] at h
      exact absurd (by rw [← h.1]; exact List.mem_cons_self ..) ha
  | x :: a, y :: b, s, t, h, ha, hb, hs, ht => by
    simp only [List.cons_append, List.cons.injEq] at h
    obtain ⟨e1, e2⟩ := split_led h.2 (fun hm => ha (List.mem_cons_of_mem _ hm)) (fun hm => hb (List.mem_cons_of_mem _ hm)) hs ht
    exact ⟨by rw [h.1, e1], e2⟩
def ledW {α : Type} (c : UInt8) (f : α → List UInt8) (xs : List α) : List UInt8 := xs.flatMap fun x => c :: f x
theorem ledW_led {α : Type} (c : UInt8) (f : α → List UInt8) (xs : List α) : Led c (ledW c f xs) := by
  cases xs with
  | nil => exact .inl rfl
  | cons x xs => exact .inr ⟨_, rfl⟩
theorem ledW_inj {α : Type} {c : UInt8} {f : α → List UInt8} {V : α → Prop} (hc : ∀ x, V x → c ∉ f x) (hf : ∀ x y, V x → V y → f x = f y → x = y) :
    ∀ {xs ys : List α}, (∀ x ∈ xs, V x) → (∀ y ∈ ys, V y) → ledW c f xs = ledW c f ys → xs = ys
  | [], [], _, _, _ => rfl
  | [], y :: ys, _, _, h => by simp [ledW] at h
  | x :: xs, [], _, _, h => by simp [ledW] at h
  | x :: xs, y :: ys, hx, hy, h => by
    have h1 : f x ++ ledW c f xs = f y ++ ledW c f ys := by
      simp only [ledW, List.flatMap_cons, List.cons_append, List.cons.injEq, true_and] at h
      exact h
    have vx := hx x (List.mem_cons_self ..)
    have vy := hy y (List.mem_cons_self ..)
    obtain ⟨e1, e2⟩ := split_led h1 (hc x vx) (hc y vy) (ledW_led ..) (ledW_led ..)
    rw [hf x y vx vy e1, ledW_inj hc hf (fun z hz => hx z (List.mem_cons_of_mem _ hz)) (fun z hz => hy z (List.mem_cons_of_mem _ hz)) e2]
theorem joined_cons {α : Type} (c : UInt8) (f : α → List UInt8) (x : α) (xs : List α) : joined c f (x :: xs) = f x ++ ledW c f xs := by
  have key : ∀ (ys : List α) (n : Nat), 1 ≤ n → ((ys.zipIdx n).flatMap fun p => (if p.2 = 0 then [] else [c]) ++ f p.1) = ledW c f ys := by
    intro ys
    induction ys with
    | nil => intro n _; rfl
    | cons y ys ih =>
      intro n hn
      rw [List.zipIdx_cons, List.flatMap_cons, ih (n + 1) (by omega)]
      have : ¬ n = 0 := by omega
      simp [ledW, this]
  unfold joined
  rw [List.zipIdx_cons, List.flatMap_cons, key xs (0 + 1) (by omega)]
  simp
theorem joined_inj {α : Type} {c : UInt8} {f : α → List UInt8} {V : α → Prop} (hc : ∀ x, V x → c ∉ f x) (hf : ∀ x y, V x → V y → f x = f y → x = y) {xs ys : List α} (hx : ∀ x ∈ xs, V x) (hy : ∀ y ∈ ys, V y)
    (h0x : ∀ x, xs = [x] → f x ≠ []) (h0y : ∀ y, ys = [y] → f y ≠ []) (h : joined c f xs = joined c f ys) : xs = ys := by
  have single : ∀ (z : α) (zs : List α), f z ++ ledW c f zs = [] → zs = [] ∧ f z = [] := fun z zs e => by
    rw [List.append_eq_nil_iff] at e
    refine ⟨?_, e.1⟩
    cases zs with
    | nil => rfl
    | cons a t => simp [ledW] at e
  match xs, ys, h, hx, hy, h0x, h0y with
  | [], [], _, _, _, _, _ => rfl
  | [], y :: ys, h, _, _, _, h0y =>
    rw [joined_cons] at h
    obtain ⟨rfl, e⟩ := single y ys h.symm
    exact absurd e (h0y y rfl)
  | x :: xs, [], h, _, _, h0x, _ =>
    rw [joined_cons] at h
    obtain ⟨rfl, e⟩ := single x xs h
    exact absurd e (h0x x rfl)
  | x :: xs, y :: ys, h, hx, hy, _, _ =>
    rw [joined_cons, joined_cons] at h
    have vx := hx x (List.mem_cons_self ..)
    have vy := hy y (List.mem_cons_self ..)
    obtain ⟨e1, e2⟩ := split_led h (hc x vx) (hc y vy) (ledW_led ..) (ledW_led ..)
    rw [hf x y vx vy e1, ledW_inj hc hf (fun z hz => hx z (List.mem_cons_of_mem _ hz)) (fun z hz => hy z (List.mem_cons_of_mem _ hz)) e2]
theorem mem_ledW {α : Type} {c d : UInt8} {f : α → List UInt8} {xs : List α} (hd : d ≠ c) (h : ∀ x ∈ xs, d ∉ f x) : d ∉ ledW c f xs := by
  intro hm
  unfold ledW at hm
  rw [List.mem_flatMap] at hm
  obtain ⟨x, hx, hm⟩ := hm
  rcases List.mem_cons.1 hm with e | hm
  · exact hd e
  · exact h x hx hm
theorem mem_joined {α : Type} {c d : UInt8} {f : α → List UInt8} {xs : List α} (hd : d ≠ c) (h : ∀ x ∈ xs, d ∉ f x) : d ∉ joined c f xs := by
  cases xs with
  | nil => intro hm; simp [joined] at hm
  | cons x xs =>
    rw [joined_cons]
    intro hm
    rcases List.mem_append.1 hm with hm | hm
    · exact h x (List.mem_cons_self ..) hm
    · exact mem_ledW hd (fun y hy => h y (List.mem_cons_of_mem _ hy)) hm
/-! one byte -/
theorem u8 {a b : UInt8} (h : a.toNat = b.toNat) : a = b := UInt8.toNat_inj.1 h
theorem esc_cases (c : UInt8) : (∃ k, esc c = [92, k, 92] ∧ ((c = 124 ∧ k = 70) ∨ (c = 94 ∧ k = 83) ∨ (c = 38 ∧ k = 84) ∨ (c = 126 ∧ k = 82) ∨ (c = 92 ∧ k = 69))) ∨ (esc c = [c] ∧ c ≠ 124 ∧ c ≠ 94 ∧ c ≠ 38 ∧ c ≠ 126 ∧ c ≠ 92) := by
  unfold esc
  by_cases h1 : c.toNat = 124
  · rw [if_pos h1]; exact .inl ⟨70, rfl, .inl ⟨u8 h1, rfl⟩⟩
  rw [if_neg h1]
  by_cases h2 : c.toNat = 94
  · rw [if_pos h2]; exact .inl ⟨83, rfl, .inr (.inl ⟨u8 h2, rfl⟩)⟩
  rw [if_neg h2]
  by_cases h3 : c.toNat = 38
  · rw [if_pos h3]; exact .inl ⟨84, rfl, .inr (.inr (.inl ⟨u8 h3, rfl⟩))⟩
  rw [if_neg h3]
  by_cases h4 : c.toNat = 126
  · rw [if_pos h4]; exact .inl ⟨82, rfl, .inr (.inr (.inr (.inl ⟨u8 h4, rfl⟩)))⟩
  rw [if_neg h4]
  by_cases h5 : c.toNat = 92
  · rw [if_pos h5]; exact .inl ⟨69, rfl, .inr (.inr (.inr (.inr ⟨u8 h5, rfl⟩)))⟩
  rw [if_neg h5]
  exact .inr ⟨rfl, fun e => h1 (by rw [e]; rfl), fun e => h2 (by rw [e]; rfl), fun e => h3 (by rw [e]; rfl), fun e => h4 (by rw [e]; rfl), fun e => h5 (by rw [e]; rfl)⟩
theorem esc_split {a b : UInt8} {s t : List UInt8} (h : esc a ++ s = esc b ++ t) : a = b ∧ s = t := by
  rcases esc_cases a with ⟨k, ea, ha⟩ | ⟨ea, _, _, _, _, na⟩ <;> rcases esc_cases b with ⟨j, eb, hb⟩ | ⟨eb, _, _, _, _, nb⟩
  · rw [ea, eb] at h
    simp only [List.cons_append, List.nil_append, List.cons.injEq, true_and] at h
    obtain ⟨hk, hs⟩ := h
    refine ⟨?_, hs⟩
    rcases ha with ⟨rfl, rfl⟩ | ⟨rfl, rfl⟩ | ⟨rfl, rfl⟩ | ⟨rfl, rfl⟩ | ⟨rfl, rfl⟩ <;> rcases hb with ⟨rfl, rfl⟩ | ⟨rfl, rfl⟩ | ⟨rfl, rfl⟩ | ⟨rfl, rfl⟩ | ⟨rfl, rfl⟩ <;> first | rfl | exact absurd hk (by decide)
  · rw [ea, eb] at h
    simp only [List.cons_append, List.nil_append, List.cons.injEq] at h
    exact absurd h.1.symm nb
  · rw [ea, eb] at h
    simp only [List.cons_append, List.nil_append, List.cons.injEq] at h
    exact absurd h.1 na
  · rw [ea, eb] at h
    simp only [List.cons_append, List.nil_append, List.cons.injEq] at h
    exact h
theorem escs_inj : ∀ {l m : List UInt8}, escs l = escs m → l = m
  | [], [], _ => rfl
  | [], b :: m, h => by
    exfalso
    simp only [escs, List.flatMap_nil, List.flatMap_cons] at h
    rcases esc_cases b with ⟨k, e, _⟩ | ⟨e, _⟩ <;> · rw [e] at h; simp at h
  | a :: l, [], h => by
    exfalso
    simp only [escs, List.flatMap_nil, List.flatMap_cons] at h
    rcases esc_cases a with ⟨k, e, _⟩ | ⟨e, _⟩ <;> · rw [e] at h; simp at h
  | a :: l, b :: m, h => by
    have h1 : esc a ++ escs l = esc b ++ escs m := by simpa [escs] using h
    obtain ⟨e1, e2⟩ := esc_split h1
    rw [e1, escs_inj e2]
theorem escs_mem {d : UInt8} {l : List UInt8} (h : d ∈ escs l) : d ∈ l ∨ d ∈ [92, 70, 83, 84, 82, 69] := by
  unfold escs at h
  rw [List.mem_flatMap] at h
  obtain ⟨c, hc, hm⟩ := h
  rcases esc_cases c with ⟨k, e, hk⟩ | ⟨e, _⟩
  · rw [e] at hm
    right
    rcases hk with ⟨_, rfl⟩ | ⟨_, rfl⟩ | ⟨_, rfl⟩ | ⟨_, rfl⟩ | ⟨_, rfl⟩ <;> simp at hm <;> rcases hm with rfl | rfl | rfl <;> decide
  · rw [e] at hm
    left
    rw [List.mem_singleton.1 hm]
    exact hc
theorem escs_not {d : UInt8} {l : List UInt8} (hd : d = 124 ∨ d = 94 ∨ d = 126) : d ∉ escs l := by
  intro h
  unfold escs at h
  rw [List.mem_flatMap] at h
  obtain ⟨c, _, hm⟩ := h
  rcases esc_cases c with ⟨k, e, hk⟩ | ⟨e, n1, n2, n3, n4, n5⟩
  · rw [e] at hm
    rcases hk with ⟨_, rfl⟩ | ⟨_, rfl⟩ | ⟨_, rfl⟩ | ⟨_, rfl⟩ | ⟨_, rfl⟩ <;> simp at hm <;> rcases hm with rfl | rfl | rfl <;> revert hd <;> decide
  · rw [e] at hm
    rw [List.mem_singleton.1 hm] at hd
    rcases hd with rfl | rfl | rfl
    · exact n1 rfl
    · exact n2 rfl
    · exact n4 rfl
theorem escs_13 {s : ByteArray} (h : plainB s = true) : (13 : UInt8) ∉ escs s.data.toList := by
  intro hm
  rcases escs_mem hm with h1 | h1
  · unfold plainB at h
    have := List.all_eq_true.1 h 13 h1
    revert this
    decide
  · revert h1
    decide
theorem escs_nil {s : ByteArray} (h : escs s.data.toList = []) : s.size = 0 := by
  have h1 : s.data.toList = [] := escs_inj (m := []) h
  have h2 : s.data.size = 0 := by rw [← Array.length_toList, h1]; rfl
  exact h2
/-! the three levels -/
theorem end_last {α : Type} {f : α → Nat} {x : α} (h : endB f [x] = true) : 0 < f x := by
  unfold endB at h
  simpa using h
theorem rep_parts {r : Rep} (h : repB r = true) : endB ByteArray.size r = true ∧ ∀ c ∈ r, plainB c = true := by
  unfold repB at h
  simp only [Bool.and_eq_true, List.all_eq_true] at h
  exact ⟨h.2.1, h.2.2⟩
theorem field_parts {f : Field} (h : fieldB f = true) : endB List.length f = true ∧ ∀ r ∈ f, repB r = true := by
  unfold fieldB at h
  simp only [Bool.and_eq_true, List.all_eq_true] at h
  exact ⟨h.2.1, h.2.2⟩
theorem str_ext {s t : ByteArray} (h : s.data.toList = t.data.toList) : s = t := by
  apply ByteArray.ext
  exact Array.toList_inj.1 h
theorem repW_inj {r q : Rep} (hr : repB r = true) (hq : repB q = true) (h : repW r = repW q) : r = q := by
  obtain ⟨r1, r2⟩ := rep_parts hr
  obtain ⟨q1, q2⟩ := rep_parts hq
  refine joined_inj (V := fun c => plainB c = true) (fun c _ => escs_not (.inr (.inl rfl))) (fun c d _ _ e => str_ext (escs_inj e)) r2 q2 ?_ ?_ h
  · rintro c rfl e
    have := end_last r1
    have := escs_nil e
    omega
  · rintro c rfl e
    have := end_last q1
    have := escs_nil e
    omega
theorem repW_nil {r : Rep} (hr : repB r = true) (h : repW r = []) : r = [] := repW_inj hr (by decide) (by rw [h]; rfl)
theorem repW_not {r : Rep} : (126 : UInt8) ∉ repW r ∧ (124 : UInt8) ∉ repW r := ⟨mem_joined (by decide) fun c _ => escs_not (.inr (.inr rfl)), mem_joined (by decide) fun c _ => escs_not (.inl rfl)⟩
theorem repW_13 {r : Rep} (hr : repB r = true) : (13 : UInt8) ∉ repW r := mem_joined (by decide) fun c hc => escs_13 ((rep_parts hr).2 c hc)
theorem fieldW_inj {f g : Field} (hf : fieldB f = true) (hg : fieldB g = true) (h : fieldW f = fieldW g) : f = g := by
  obtain ⟨r1, r2⟩ := field_parts hf
  obtain ⟨q1, q2⟩ := field_parts hg
  refine joined_inj (V := fun r => repB r = true) (fun c _ => repW_not.1) (fun c d hc hd e => repW_inj hc hd e) r2 q2 ?_ ?_ h
  · rintro c rfl e
    have h1 := end_last r1
    have h2 := repW_nil (r2 c (List.mem_singleton.2 rfl)) e
    rw [h2] at h1
    exact absurd h1 (by decide)
  · rintro c rfl e
    have h1 := end_last q1
    have h2 := repW_nil (q2 c (List.mem_singleton.2 rfl)) e
    rw [h2] at h1
    exact absurd h1 (by decide)
theorem fieldW_not {f : Field} : (124 : UInt8) ∉ fieldW f := mem_joined (by decide) fun c _ => repW_not.2
theorem fieldW_13 {f : Field} (hf : fieldB f = true) : (13 : UInt8) ∉ fieldW f := mem_joined (by decide) fun c hc => repW_13 ((field_parts hf).2 c hc)
theorem fieldsW_is (fs : List Field) : fieldsW fs = ledW 124 fieldW fs := rfl
theorem seg_parts {b : Bool} {s : Seg} (h : segB b s = true) : nameB s.name = true ∧ ∀ f ∈ s.fields, fieldB f = true := by
  unfold segB at h
  simp only [Bool.and_eq_true, List.all_eq_true] at h
  exact ⟨h.1, h.2.2.2.2⟩
theorem name3 {s : ByteArray} (h : nameB s = true) : s.data.toList.length = 3 ∧ (13 : UInt8) ∉ s.data.toList := by
  unfold nameB at h
  split at h
  · rename_i a b c e
    rw [e]
    refine ⟨rfl, fun hm => ?_⟩
    simp only [Bool.and_eq_true, Bool.or_eq_true, capB, digB, decide_eq_true_eq] at h
    simp only [List.mem_cons, List.not_mem_nil, or_false] at hm
    have k : (13 : UInt8).toNat = 13 := rfl
    rcases hm with rfl | rfl | rfl <;> rw [k] at h <;> omega
  · cases h
def segA (i : Nat) (s : Seg) : List UInt8 := s.name.data.toList ++ (if i = 0 then [124, 94, 126, 92, 38] else []) ++ fieldsW s.fields
theorem segW_is (i : Nat) (s : Seg) : segW i s = segA i s ++ [13] := rfl
theorem segA_inj {i : Nat} {b : Bool} {s t : Seg} (hs : segB b s = true) (ht : segB b t = true) (h : segA i s = segA i t) : s = t := by
  obtain ⟨s1, s2⟩ := seg_parts hs
  obtain ⟨t1, t2⟩ := seg_parts ht
  unfold segA at h
  rw [List.append_assoc, List.append_assoc] at h
  obtain ⟨e1, e2⟩ := List.append_inj h (by rw [(name3 s1).1, (name3 t1).1])
  have e3 := List.append_cancel_left e2
  rw [fieldsW_is, fieldsW_is] at e3
  have e4 := ledW_inj (V := fun f => fieldB f = true) (fun f _ => fieldW_not) (fun f g hf hg e => fieldW_inj hf hg e) s2 t2 e3
  obtain ⟨n, fs⟩ := s
  obtain ⟨m, gs⟩ := t
  simp only at e1 e4
  rw [str_ext e1, e4]
theorem segA_13 {i : Nat} {b : Bool} {s : Seg} (hs : segB b s = true) : (13 : UInt8) ∉ segA i s := by
  obtain ⟨s1, s2⟩ := seg_parts hs
  unfold segA
  intro hm
  rcases List.mem_append.1 hm with hm | hm
  · rcases List.mem_append.1 hm with hm | hm
    · exact (name3 s1).2 hm
    · split at hm
      · revert hm; decide
      · cases hm
  · rw [fieldsW_is] at hm
    exact mem_ledW (by decide) (fun f hf => fieldW_13 (s2 f hf)) hm
theorem msgGo_inj : ∀ (xs ys : List Seg) (n : Nat), (∀ p ∈ xs.zipIdx n, segB (p.2 == 0) p.1 = true) → (∀ p ∈ ys.zipIdx n, segB (p.2 == 0) p.1 = true) →
    ((xs.zipIdx n).flatMap fun p => segW p.2 p.1) = ((ys.zipIdx n).flatMap fun p => segW p.2 p.1) → xs = ys
  | [], [], _, _, _, _ => rfl
  | [], y :: ys, n, _, _, h => by
    exfalso
    rw [List.zipIdx_cons, List.flatMap_cons, segW_is] at h
    simp at h
  | x :: xs, [], n, _, _, h => by
    exfalso
    rw [List.zipIdx_cons, List.flatMap_cons, segW_is] at h
    simp at h
  | x :: xs, y :: ys, n, hx, hy, h => by
    rw [List.zipIdx_cons, List.flatMap_cons, List.zipIdx_cons, List.flatMap_cons, segW_is, segW_is, List.append_assoc, List.append_assoc] at h
    rw [List.zipIdx_cons] at hx hy
    have vx := hx _ (List.mem_cons_self ..)
    have vy := hy _ (List.mem_cons_self ..)
    obtain ⟨e1, e2⟩ := split_led h (segA_13 vx) (segA_13 vy) (.inr ⟨_, rfl⟩) (.inr ⟨_, rfl⟩)
    have e3 : x = y := segA_inj (i := n) vx vy e1
    rw [e3, msgGo_inj xs ys (n + 1) (fun p hp => hx p (List.mem_cons_of_mem _ hp)) (fun p hp => hy p (List.mem_cons_of_mem _ hp)) (List.append_cancel_left e2)]
theorem shape_parts {m : List Seg} (h : msgB m = true) : 1 ≤ m.length ∧ ∀ p ∈ m.zipIdx, segB (p.2 == 0) p.1 = true := by
  unfold msgB shapeB at h
  simp only [Bool.and_eq_true, decide_eq_true_eq, List.all_eq_true] at h
  exact ⟨h.1.1, h.1.2.2⟩
theorem msgW_inj {xs ys : List Seg} (hx : msgB xs = true) (hy : msgB ys = true) (h : msgW xs = msgW ys) : xs = ys :=
  msgGo_inj xs ys 0 (shape_parts hx).2 (shape_parts hy).2 h
theorem msgW_ne {xs : List Seg} (hx : msgB xs = true) : msgW xs ≠ [] := by
  intro h
  have h1 := (shape_parts hx).1
  match xs, h1 with
  | x :: t, _ =>
    unfold msgW at h
    rw [List.zipIdx_cons, List.flatMap_cons, segW_is] at h
    simp at h
theorem encoded_size {xs : List Seg} : (encoded xs).size = 0 ↔ msgB xs = false := by
  cases h : msgB xs with
  | false => rw [encoded_no h]; exact ⟨fun _ => rfl, fun _ => rfl⟩
  | true =>
    rw [encoded_yes h]
    refine ⟨fun e => ?_, fun e => by cases e⟩
    exfalso
    have e1 : (msgW xs).toArray.size = 0 := e
    rw [List.size_toArray] at e1
    exact msgW_ne h (List.length_eq_zero_iff.1 e1)
theorem encoded_inj {xs ys : List Seg} (hx : msgB xs = true) (hy : msgB ys = true) (h : encoded xs = encoded ys) : xs = ys := by
  rw [encoded_yes hx, encoded_yes hy] at h
  have e := congrArg (fun b : ByteArray => b.data.toList) h
  exact msgW_inj hx hy (by simpa using e)
end Go.Proofs.YtcphfhfockjljaaDoor.Msg

namespace Go.Proofs.YtcphfhfockjljaaDoor.Msg
open Go.ChangeShapes Go.WideShapes Go.ChangeAt Go.RowKit
set_option linter.unusedVariables false
set_option linter.unusedSimpArgs false

/-- a text out of bytes -/
def txt (l : List UInt8) : ByteArray := ⟨l.toArray⟩
theorem txt_data (l : List UInt8) : (txt l).data.toList = l := by simp [txt]
theorem txt_size (l : List UInt8) : (txt l).size = l.length := by simp [txt, ByteArray.size]
theorem txt_of (s : ByteArray) : txt s.data.toList = s := by cases s; simp [txt]
theorem txt_extract (s : ByteArray) (a b : Nat) : s.extract a b = txt ((s.data.toList.take b).drop a) := by
  have : (s.extract a b).data.toList = (s.data.toList.take b).drop a := by
    rw [ByteArray.data_extract, Array.toList_extract]
    simp [List.extract, List.drop_take]
  rw [← this, txt_of]

/-- a text cut at every byte c: the pieces, 'cur' being what stands of the first -/
def cutGo (c : UInt8) (cur : List UInt8) : List UInt8 → List (List UInt8)
  | [] => [cur]
  | x :: xs => if x = c then cur :: cutGo c [] xs else cutGo c (cur ++ [x]) xs
def cutL (c : UInt8) (l : List UInt8) : List (List UInt8) := cutGo c [] l

/-- a slice of texts that the call owns -/
def SBuf (base : Nat) (w : World) (v : Value) (xs : List ByteArray) : Prop := w.ownsRow base 9 1 v xs.length (xs.map Value.string)
theorem str_facts : ∃ i, Tryd.prog.info? 9 = some i ∧ i.zero = some (.string ByteArray.empty) ∧ i.size = 1 ∧ i.bytes = 16 := by
  have h := info_string
  cases hi : Tryd.prog.info? 9 with
  | none => rw [hi] at h; cases h
  | some i =>
    rw [hi] at h
    simp only [Option.map_some, Option.some.injEq, Prod.mk.injEq] at h
    exact ⟨i, rfl, h.1, h.2.1, h.2.2⟩
theorem SBuf.empty (base : Nat) (w : World) (hb : base ≤ w.heap.size) : SBuf base (w.alloc (.cells #[] 9)) (.slice (some ⟨w.heap.size, 0, none⟩) 0 0) [] :=
  World.ownsRow_lit (base := base) (e := 9) (size := 1) w #[] 0 hb (by unfold maxLen; omega) rfl
theorem SBuf.snoc {base : Nat} {w wr w' : World} {v0 v v' : Value} {xs : List ByteArray} (x : ByteArray) (o : Obj) (hb : Grew w v0 wr v)
    {n : Nat} (hl : n = xs.length) (h : w'.ownsRow base 9 1 v' (n + 1) (xs.map Value.string ++ [.string x])) (hg : (wr.alloc o).grownBy w' v.ownBlock) (hat : v'.ownBlock = v.ownBlock ∨ v'.ownBlock = some (wr.heap.size + 1)) :
    SBuf base w' v' (xs ++ [x]) ∧ Grew w v0 w' v' := by
  subst hl
  refine ⟨by unfold SBuf; simpa using h, (hb.alloc o).trans ⟨hg, ?_⟩⟩
  rcases hat with hat | hat
  · exact .inl hat
  · exact .inr ⟨_, hat, by rw [Deep.nblk_alloc]; exact Nat.le_refl _⟩
theorem one_str (s : ByteArray) : ∀ u ∈ [Value.string s], u.oneCell' = true := by
  intro u hu
  simp at hu
  subst hu
  rfl
/-- the first n of an owned row of one-cell elements -/
theorem own_cells {base : Nat} {e : TypeId} {w : World} {v : Value} {cs : List Value} (h : w.ownsRow base e 1 v cs.length cs) :
    (cs = [] ∧ v = .slice none 0 0) ∨ ∃ g cap, v = .slice (some ⟨g, 0, none⟩) cs.length cap ∧ base ≤ g ∧ g < w.heap.size ∧ (∀ i (hi : i < cs.length), w.cell? ⟨g, i, none⟩ = some cs[i] ∧ w.frozen? ⟨g, i, none⟩ = false) := by
  obtain ⟨hlen, ⟨rfl, h0⟩ | ⟨g, cap, cur, rfl, hg, hs, hcap, hm, hsz, htk⟩⟩ := h
  · exact .inl ⟨List.length_eq_zero_iff.1 h0, rfl⟩
  · refine .inr ⟨g, cap, rfl, hg, ?_, fun i hi => ⟨?_, ?_⟩⟩
    · rw [Array.getElem?_eq_some_iff] at hs; exact hs.1
    · have h3 : (cur.toList.take (cs.length * 1))[i]? = some cs[i] := by rw [htk]; simp [hi]
      rw [List.getElem?_take, if_pos (by omega)] at h3
      simp only [World.cell?, hs]
      rw [← Array.getElem?_toList, h3]
      rfl
    · simp [World.frozen?, hs]
theorem SBuf.toStrs {base : Nat} {w : World} {v : Value} {xs : List ByteArray} (h : SBuf base w v xs) (hl : xs.length ≤ 9223372036854775807) (hs : ∀ i (h : i < xs.length), xs[i].size ≤ 9223372036854775807) {n : Nat} (hn : n ≤ xs.length) :
    ∃ a cap, v = .slice a xs.length cap ∧ StrsAt base w (.slice a n cap) (xs.take n) := by
  have h' : w.ownsRow base 9 1 v (xs.map Value.string).length (xs.map Value.string) := by rw [List.length_map]; exact h
  rcases own_cells h' with ⟨h0, rfl⟩ | ⟨g, cap, rfl, hg, hlt, hc⟩
  · have hx : xs = [] := List.map_eq_nil_iff.1 h0
    subst hx
    have : n = 0 := by simpa using hn
    subst this
    exact ⟨none, 0, rfl, by simp, .inl ⟨none, 0, rfl, rfl⟩⟩
  · refine ⟨_, cap, by rw [List.length_map], by rw [List.length_take]; omega, .inr ⟨g, 0, cap, by rw [List.length_take, Nat.min_eq_left hn], ⟨hg, hlt⟩, fun i hi => ?_⟩⟩
    have hi' : i < xs.length := by rw [List.length_take] at hi; omega
    have := (hc i (by rw [List.length_map]; exact hi')).1
    simp only [List.getElem_map] at this
    exact ⟨by simpa [List.getElem_take] using this, by simpa [List.getElem_take] using hs i hi'⟩
end Go.Proofs.YtcphfhfockjljaaDoor.Msg
