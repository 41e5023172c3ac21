import Derived.Test.YtfcmhnfdbobnlaaGreatDoorPhasewithRRplKitwithPageKit
namespace Go.Proofs.YtfcmhnfdbobnlaaGreatDoor.Msg
open Go.ChangeShapes Go.WideShapes Go.ChangeAt Go.RowKit
set_option linter.unusedVariables false
set_option linter.unusedSimpArgs false

/-! pageReply.write: the three segments ahead of the rows -/
def PageRel (w1 X : World) (M : Nat) (ps : List QS) : Prop := ∃ a c, Box X M 33 #[.slice a ps.length c] ∧ Below w1.heap.size w1 X ∧ w1.heap.size ≤ M ∧ MRow w1.heap.size M X (.slice a ps.length c) ps
theorem PageRel.below {w1 X : World} {M : Nat} {ps : List QS} (h : PageRel w1 X M ps) : Below w1.heap.size w1 X := let ⟨_, _, _, hb, _⟩ := h; hb
theorem PageRel.low {w1 X : World} {M : Nat} {ps : List QS} (h : PageRel w1 X M ps) : w1.heap.size ≤ M := let ⟨_, _, _, _, hm, _⟩ := h; hm
/-- a message to be read, in blocks that the call made -/
def ReadPostL (w : World) (xs : List Seg) (e : Ending) (w' : World) : Prop := ∃ u, e = .returned (.agg #[u]) ∧ SegsAt w.heap.size w' u xs ∧ Below w.heap.size w w'
theorem pbox {W : World} {M : Nat} {t : TypeId} {cs : Array Value} {G : Prop} (h : Box W M t cs) (k : ∀ m, m = M → Box W m t cs → G) : G := k M rfl h
theorem named {G : Prop} (w : World) (k : ∀ x, w = x → G) : G := k w rfl
theorem Box.newS (w : World) (o : Obj) (t : TypeId) (cs : Array Value) : Box ((w.alloc o).alloc (.cells cs t)) (w.heap.size + 1) t cs := by
  have := Box.new (w.alloc o) t cs
  rw [Deep.nblk_alloc] at this
  exact this
theorem page_row {w1 V X : World} {M B : Nat} {control tag : ByteArray} {a2 a5 a8 : Option Addr} {c2 c5 c8 : Nat} {b1 b2 b3 : List Nat} (hVX : Below V.heap.size V X) (hV : w1.heap.size ≤ V.heap.size) (hB : V.heap.size ≤ B) (hBM : B ≠ M)
    (hbox : Box X B 45 #[.string ⟨#[77, 83, 72]⟩, .slice a2 (headF [⟨#[82, 83, 80]⟩, ⟨#[90, 48, 49]⟩] ⟨#[]⟩).length c2, .string ⟨#[77, 83, 65]⟩, .slice a5 (trimE List.isEmpty [wordF ⟨#[65, 65]⟩, wordF control]).length c5, .string ⟨#[81, 65, 75]⟩, .slice a8 (trimE List.isEmpty [wordF tag, wordF ⟨#[79, 75]⟩]).length c8])
    (h1 : OFields V (.slice a2 (headF [⟨#[82, 83, 80]⟩, ⟨#[90, 48, 49]⟩] ⟨#[]⟩).length c2) (headF [⟨#[82, 83, 80]⟩, ⟨#[90, 48, 49]⟩] ⟨#[]⟩) b1) (h2 : OFields V (.slice a5 (trimE List.isEmpty [wordF ⟨#[65, 65]⟩, wordF control]).length c5) (trimE List.isEmpty [wordF ⟨#[65, 65]⟩, wordF control]) b2) (h3 : OFields V (.slice a8 (trimE List.isEmpty [wordF tag, wordF ⟨#[79, 75]⟩]).length c8) (trimE List.isEmpty [wordF tag, wordF ⟨#[79, 75]⟩]) b3) (hne : ∀ b, b ∈ b1 ∨ b ∈ b2 ∨ b ∈ b3 → w1.heap.size ≤ b ∧ b ≠ M) :
    MRow w1.heap.size M X (.slice (some ⟨B, 0, none⟩) 3 3) [(rspS, a2, c2), (msaS ⟨#[65, 65]⟩ control, a5, c5), (qakS tag ⟨#[79, 75]⟩, a8, c8)] := by
  refine MRow.three (by omega) hBM hbox ⟨(by decide : (3 : Nat) ≤ 9223372036854775807), (by decide : (3 : Nat) ≤ 9223372036854775807), (by decide : (3 : Nat) ≤ 9223372036854775807)⟩ (keepFO h1 hVX) (keepFO h2 hVX) (keepFO h3 hVX) (fun b hb => ?_) (fun b hb => ?_) (fun b hb => ?_)
  · have := OAt.lt ltO_field h1 b hb; exact ⟨(hne b (.inl hb)).1, (hne b (.inl hb)).2, by omega⟩
  · have := OAt.lt ltO_field h2 b hb; exact ⟨(hne b (.inr (.inl hb))).1, (hne b (.inr (.inl hb))).2, by omega⟩
  · have := OAt.lt ltO_field h3 b hb; exact ⟨(hne b (.inr (.inr hb))).1, (hne b (.inr (.inr hb))).2, by omega⟩
theorem page_early {w1 V : World} {M : Nat} {control tag : ByteArray} {a2 a5 a8 : Option Addr} {c2 c5 c8 : Nat} {b1 b2 b3 : List Nat} {x : Value} (hbx : Box V M 33 #[x]) (hV : Below w1.heap.size w1 V) (hM : w1.heap.size ≤ M)
    (h1 : OFields V (.slice a2 (headF [⟨#[82, 83, 80]⟩, ⟨#[90, 48, 49]⟩] ⟨#[]⟩).length c2) (headF [⟨#[82, 83, 80]⟩, ⟨#[90, 48, 49]⟩] ⟨#[]⟩) b1) (h2 : OFields V (.slice a5 (trimE List.isEmpty [wordF ⟨#[65, 65]⟩, wordF control]).length c5) (trimE List.isEmpty [wordF ⟨#[65, 65]⟩, wordF control]) b2) (h3 : OFields V (.slice a8 (trimE List.isEmpty [wordF tag, wordF ⟨#[79, 75]⟩]).length c8) (trimE List.isEmpty [wordF tag, wordF ⟨#[79, 75]⟩]) b3) (hne : ∀ b, b ∈ b1 ∨ b ∈ b2 ∨ b ∈ b3 → w1.heap.size ≤ b ∧ b ≠ M) :
    PageRel w1 ((V.alloc (Obj.cells #[.string ⟨#[77, 83, 72]⟩, .slice a2 (headF [⟨#[82, 83, 80]⟩, ⟨#[90, 48, 49]⟩] ⟨#[]⟩).length c2, .string ⟨#[77, 83, 65]⟩, .slice a5 (trimE List.isEmpty [wordF ⟨#[65, 65]⟩, wordF control]).length c5, .string ⟨#[81, 65, 75]⟩, .slice a8 (trimE List.isEmpty [wordF tag, wordF ⟨#[79, 75]⟩]).length c8] 45)).setCell ⟨M, 0, none⟩ (.slice (some ⟨V.heap.size, 0, none⟩) 3 3)) M [(rspS, a2, c2), (msaS ⟨#[65, 65]⟩ control, a5, c5), (qakS tag ⟨#[79, 75]⟩, a8, c8)] := by
  have hb : Below V.heap.size V (V.alloc (Obj.cells #[.string ⟨#[77, 83, 72]⟩, .slice a2 (headF [⟨#[82, 83, 80]⟩, ⟨#[90, 48, 49]⟩] ⟨#[]⟩).length c2, .string ⟨#[77, 83, 65]⟩, .slice a5 (trimE List.isEmpty [wordF ⟨#[65, 65]⟩, wordF control]).length c5, .string ⟨#[81, 65, 75]⟩, .slice a8 (trimE List.isEmpty [wordF tag, wordF ⟨#[79, 75]⟩]).length c8] 45)) := (Below.refl _ _).alloc (Nat.le_refl _) _
  refine ⟨some ⟨V.heap.size, 0, none⟩, 3, ?_, ((bjoin hb hV).setCell (p := ⟨M, 0, none⟩) hM _), hM, ?_⟩
  · have := (hbx.alloc (Obj.cells #[.string ⟨#[77, 83, 72]⟩, .slice a2 (headF [⟨#[82, 83, 80]⟩, ⟨#[90, 48, 49]⟩] ⟨#[]⟩).length c2, .string ⟨#[77, 83, 65]⟩, .slice a5 (trimE List.isEmpty [wordF ⟨#[65, 65]⟩, wordF control]).length c5, .string ⟨#[81, 65, 75]⟩, .slice a8 (trimE List.isEmpty [wordF tag, wordF ⟨#[79, 75]⟩]).length c8] 45)).set 0 (.slice (some ⟨V.heap.size, 0, none⟩) 3 3)
    simpa using this
  · exact (page_row hb hV.size (Nat.le_refl _) (by have := hbx.lt; omega) (Box.new _ _ _) h1 h2 h3 hne).set _
theorem page_mid {w1 V : World} {control tag : ByteArray} {a2 a5 a8 : Option Addr} {c2 c5 c8 : Nat} {b1 b2 b3 : List Nat} {x : Value} (hV : Below w1.heap.size w1 V)
    (h1 : OFields V (.slice a2 (headF [⟨#[82, 83, 80]⟩, ⟨#[90, 48, 49]⟩] ⟨#[]⟩).length c2) (headF [⟨#[82, 83, 80]⟩, ⟨#[90, 48, 49]⟩] ⟨#[]⟩) b1) (h2 : OFields V (.slice a5 (trimE List.isEmpty [wordF ⟨#[65, 65]⟩, wordF control]).length c5) (trimE List.isEmpty [wordF ⟨#[65, 65]⟩, wordF control]) b2) (h3 : OFields V (.slice a8 (trimE List.isEmpty [wordF tag, wordF ⟨#[79, 75]⟩]).length c8) (trimE List.isEmpty [wordF tag, wordF ⟨#[79, 75]⟩]) b3) (hne : ∀ b, b ∈ b1 ∨ b ∈ b2 ∨ b ∈ b3 → w1.heap.size ≤ b) :
    PageRel w1 (((V.alloc (Obj.cells #[x] 33)).alloc (Obj.cells #[.string ⟨#[77, 83, 72]⟩, .slice a2 (headF [⟨#[82, 83, 80]⟩, ⟨#[90, 48, 49]⟩] ⟨#[]⟩).length c2, .string ⟨#[77, 83, 65]⟩, .slice a5 (trimE List.isEmpty [wordF ⟨#[65, 65]⟩, wordF control]).length c5, .string ⟨#[81, 65, 75]⟩, .slice a8 (trimE List.isEmpty [wordF tag, wordF ⟨#[79, 75]⟩]).length c8] 45)).setCell ⟨V.heap.size, 0, none⟩ (.slice (some ⟨V.heap.size + 1, 0, none⟩) 3 3)) V.heap.size [(rspS, a2, c2), (msaS ⟨#[65, 65]⟩ control, a5, c5), (qakS tag ⟨#[79, 75]⟩, a8, c8)] := by
  have hb : Below V.heap.size V (V.alloc (Obj.cells #[x] 33)) := (Below.refl _ _).alloc (Nat.le_refl _) _
  have := page_early (w1 := w1) (V := V.alloc (Obj.cells #[x] 33)) (M := V.heap.size) (control := control) (tag := tag) (c2 := c2) (c5 := c5) (c8 := c8) (Box.new _ _ _) (bjoin hb hV) hV.size (keepFO h1 hb) (keepFO h2 hb) (keepFO h3 hb) (fun b hb' => ⟨hne b hb', by
    rcases hb' with h | h | h
    · have := OAt.lt ltO_field h1 b h; omega
    · have := OAt.lt ltO_field h2 b h; omega
    · have := OAt.lt ltO_field h3 b h; omega⟩)
  rw [Deep.nblk_alloc] at this
  exact this
theorem page_late {w1 V : World} {x : Value} {control tag : ByteArray} {a2 a5 a8 : Option Addr} {c2 c5 c8 : Nat} {b1 b2 b3 : List Nat} (hV : Below w1.heap.size w1 V)
    (h1 : OFields V (.slice a2 (headF [⟨#[82, 83, 80]⟩, ⟨#[90, 48, 49]⟩] ⟨#[]⟩).length c2) (headF [⟨#[82, 83, 80]⟩, ⟨#[90, 48, 49]⟩] ⟨#[]⟩) b1) (h2 : OFields V (.slice a5 (trimE List.isEmpty [wordF ⟨#[65, 65]⟩, wordF control]).length c5) (trimE List.isEmpty [wordF ⟨#[65, 65]⟩, wordF control]) b2) (h3 : OFields V (.slice a8 (trimE List.isEmpty [wordF tag, wordF ⟨#[79, 75]⟩]).length c8) (trimE List.isEmpty [wordF tag, wordF ⟨#[79, 75]⟩]) b3) (hne : ∀ b, b ∈ b1 ∨ b ∈ b2 ∨ b ∈ b3 → w1.heap.size ≤ b) :
    PageRel w1 (((V.alloc (Obj.cells #[.string ⟨#[77, 83, 72]⟩, .slice a2 (headF [⟨#[82, 83, 80]⟩, ⟨#[90, 48, 49]⟩] ⟨#[]⟩).length c2, .string ⟨#[77, 83, 65]⟩, .slice a5 (trimE List.isEmpty [wordF ⟨#[65, 65]⟩, wordF control]).length c5, .string ⟨#[81, 65, 75]⟩, .slice a8 (trimE List.isEmpty [wordF tag, wordF ⟨#[79, 75]⟩]).length c8] 45)).alloc (Obj.cells #[x] 33)).setCell ⟨V.heap.size + 1, 0, none⟩ (.slice (some ⟨V.heap.size, 0, none⟩) 3 3)) (V.heap.size + 1) [(rspS, a2, c2), (msaS ⟨#[65, 65]⟩ control, a5, c5), (qakS tag ⟨#[79, 75]⟩, a8, c8)] := by
  have hb : Below V.heap.size V (V.alloc (Obj.cells #[.string ⟨#[77, 83, 72]⟩, .slice a2 (headF [⟨#[82, 83, 80]⟩, ⟨#[90, 48, 49]⟩] ⟨#[]⟩).length c2, .string ⟨#[77, 83, 65]⟩, .slice a5 (trimE List.isEmpty [wordF ⟨#[65, 65]⟩, wordF control]).length c5, .string ⟨#[81, 65, 75]⟩, .slice a8 (trimE List.isEmpty [wordF tag, wordF ⟨#[79, 75]⟩]).length c8] 45)) := (Below.refl _ _).alloc (Nat.le_refl _) _
  have hb2 : Below V.heap.size V ((V.alloc (Obj.cells #[.string ⟨#[77, 83, 72]⟩, .slice a2 (headF [⟨#[82, 83, 80]⟩, ⟨#[90, 48, 49]⟩] ⟨#[]⟩).length c2, .string ⟨#[77, 83, 65]⟩, .slice a5 (trimE List.isEmpty [wordF ⟨#[65, 65]⟩, wordF control]).length c5, .string ⟨#[81, 65, 75]⟩, .slice a8 (trimE List.isEmpty [wordF tag, wordF ⟨#[79, 75]⟩]).length c8] 45)).alloc (Obj.cells #[x] 33)) := hb.alloc hb.size _
  have hM : w1.heap.size ≤ V.heap.size + 1 := by have := hV.size; omega
  refine ⟨some ⟨V.heap.size, 0, none⟩, 3, ?_, ((bjoin hb2 hV).setCell (p := ⟨V.heap.size + 1, 0, none⟩) hM _), hM, ?_⟩
  · have := (Box.newS V (Obj.cells #[.string ⟨#[77, 83, 72]⟩, .slice a2 (headF [⟨#[82, 83, 80]⟩, ⟨#[90, 48, 49]⟩] ⟨#[]⟩).length c2, .string ⟨#[77, 83, 65]⟩, .slice a5 (trimE List.isEmpty [wordF ⟨#[65, 65]⟩, wordF control]).length c5, .string ⟨#[81, 65, 75]⟩, .slice a8 (trimE List.isEmpty [wordF tag, wordF ⟨#[79, 75]⟩]).length c8] 45) 33 #[x]).set 0 (.slice (some ⟨V.heap.size, 0, none⟩) 3 3)
    simpa using this
  · exact (page_row hb2 hV.size (Nat.le_refl _) (by omega) ((Box.new _ _ _).alloc _) h1 h2 h3 (fun b hb' => ⟨hne b hb', by
      rcases hb' with h | h | h
      · have := OAt.lt ltO_field h1 b h; omega
      · have := OAt.lt ltO_field h2 b h; omega
      · have := OAt.lt ltO_field h3 b h; omega⟩)).set _

set_option maxRecDepth 100000 in
set_option maxHeartbeats 16000000 in
theorem pageWrite_any (control tag pointer : ByteArray) (rows : List ByteArray) (a : Option Addr) (cap : Nat) (w : World) {lo : Nat} (hc : control.size ≤ 1048576) (ht : tag.size ≤ 1048576) (hp : pointer.size ≤ 1048576) (hr : rows.length ≤ 200) (hz : ∀ s ∈ rows, s.size ≤ 1048576) (hv : StrsAt lo w (.slice a rows.length cap) rows) :
    Calls Tryz.prog 144 #[.agg #[.string control, .string tag, .slice a rows.length cap, .string pointer]] w (ReadPostL w (pageM control tag rows pointer)) := by
  obtain ⟨x1, hx1⟩ : ∃ x1, w.alloc (Obj.cells #[.string control, .string tag, .slice a rows.length cap, .string pointer] 97) = x1 := ⟨_, rfl⟩
  obtain ⟨w1, hw1⟩ : ∃ w1, x1.alloc (Obj.cells #[.slice none 0 0] 33) = w1 := ⟨_, rfl⟩
  have sx1 : x1.heap.size = w.heap.size + 1 := by rw [← hx1]; simp
  have sw1 : w1.heap.size = w.heap.size + 1 + 1 := by rw [← hw1]; simp [sx1]
  have bx1 : Below w.heap.size w x1 := by rw [← hx1]; exact (Below.refl _ _).alloc (Nat.le_refl _) _
  have bw1 : Below x1.heap.size x1 w1 := by rw [← hw1]; exact (Below.refl _ _).alloc (Nat.le_refl _) _
  have HP : Hid (Box w1 w.heap.size 97 #[.string control, .string tag, .slice a rows.length cap, .string pointer]) := by rw [← hw1, ← hx1]; exact (Box.new _ _ _).alloc _
  have HRES : Hid (Box w1 (w.heap.size + 1) 33 #[.slice none 0 0]) := by rw [← hw1, ← sx1]; exact Box.new _ _ _
  have HB1 := hide (bjoin' bw1 bx1)
  have HV1 := hide (At.kept kept_str hv HB1.out)
  have KP : Hid (∀ X, Below w1.heap.size w1 X → X.cell? ⟨w.heap.size, 0, none⟩ = some (.string control) ∧ X.cell? ⟨w.heap.size, 1, none⟩ = some (.string tag) ∧ X.cell? ⟨w.heap.size, 2, none⟩ = some (.slice a rows.length cap) ∧ X.cell? ⟨w.heap.size, 3, none⟩ = some (.string pointer)) := fun X h =>
    ⟨(HP.out.below h).cell 0 (by simp), (HP.out.below h).cell 1 (by simp), (HP.out.below h).cell 2 (by simp), (HP.out.below h).cell 3 (by simp)⟩
  have KS : Hid (∀ X, Below w1.heap.size w1 X → X.cell? ⟨w.heap.size, 0, none⟩ = some (.string control) ∧ X.cell? ⟨w.heap.size, 1, none⟩ = some (.string tag)) := fun X h => ⟨(KP.out X h).1, (KP.out X h).2.1⟩
  have HW1 : Hid ((w.alloc (Obj.cells #[.string control, .string tag, .slice a rows.length cap, .string pointer] 97)).alloc (Obj.cells #[.slice none 0 0] 33) = w1) := by rw [hx1]; exact hw1
  have HSW := hide sw1
  have HZ := hide hz
  have HPM : Hid (pageM control tag rows pointer = [rspS, msaS ⟨#[65, 65]⟩ control, qakS tag ⟨#[79, 75]⟩] ++ rows.map rdtS ++ dscM pointer) := rfl
  obtain ⟨xs9, hxs9⟩ : ∃ l, pageM control tag rows pointer = l := ⟨_, rfl⟩
  rw [hxs9] at HPM ⊢
  clear hxs9
  clear hx1 hw1 sx1 sw1 bx1 bw1 hv hz
  go_enter Tryz.func144, Tryz.ntmps144
  go_upto_region 1 with fail
  rw [HW1.out]
  go_cut [3] (fun v3 wx => ∃ M ps, v3 = .pointer (some ⟨M, 0, none⟩) ∧ PageRel w1 wx M ps ∧ ps.map Prod.fst = [rspS, msaS ⟨#[65, 65]⟩ control, qakS tag ⟨#[79, 75]⟩])
  case first =>
    obtain ⟨D, hDe⟩ : ∃ D, w1.drew = D := ⟨_, rfl⟩
    have hD0 : Below w1.heap.size w1 w1.drew := (Below.refl _ _).drew
    have hD : Below w1.heap.size w1 D := by rw [← hDe]; exact hD0
    have hDs := hD.size
    go_region_held3 (fun X : World => X.cell? ⟨w.heap.size, 0, none⟩ = some (.string control) ∧ X.cell? ⟨w.heap.size, 1, none⟩ = some (.string tag))
      (exact KS.out _ (by repeat (first | with_reducible exact hB9 | with_reducible exact hB10 | with_reducible exact hD0 | with_reducible exact hD | with_reducible exact hB8 | with_reducible exact hB7 | with_reducible exact hB6 | with_reducible exact hB5 | with_reducible exact hB4 | with_reducible exact hB3 | with_reducible exact hB2 | with_reducible exact hB1 | with_reducible refine Below.al2 ?_ (Nat.le_refl _) | with_reducible refine Below.st2 ?_ (by first | assumption | omega | (simp only [Deep.nblk_alloc, Deep.nblk_setCell]; omega)))))
      (first
        | (have _g := hB7; go_at_call 150; refine (newSegP2 ⟨#[81, 65, 75]⟩ _ _ (wordF tag) (wordF ⟨#[79, 75]⟩) b6 b7 _ _ ?hx8 (keepRO hO6 (by repeat (first | with_reducible exact Below.refl _ _ | with_reducible refine Below.al2 ?_ (Nat.le_refl _)))) (keepRO hO7 (by repeat (first | with_reducible exact Below.refl _ _ | with_reducible refine Below.al2 ?_ (Nat.le_refl _)))) (wordF_len _) (wordF_len _)).mono ?_; (case hx8 => (first | with_reducible exact Box.new _ _ _ | with_reducible exact (Box.new _ _ _).alloc _ | with_reducible exact Box.newS _ _ _ _ | exact Box.new _ _ _ | exact (Box.new _ _ _).alloc _ | exact Box.newS _ _ _ _)); rintro e v8 ⟨a8, c8, rfl, b8, hO8, hf8, hb8⟩; have hs8 := hb8.size; have hc8 : Below v7.heap.size v7 v8 := bjoin hb8 (by repeat (first | with_reducible exact Below.refl _ _ | with_reducible refine Below.al2 ?_ (Nat.le_refl _))); have hB8 : Below w1.heap.size w1 v8 := bjoin hc8 hB7; (try simp only [Deep.nblk_alloc] at hs8); (try simp only [Deep.nblk_alloc] at hf8); have hO2 := keepFO hO2 hc8; have hO5 := keepFO hO5 hc8; have hLO : ∀ b, b ∈ b2 ∨ b ∈ b5 ∨ b ∈ b8 → w1.heap.size ≤ b := (by intro b hb; have hd := hD.size; rcases hb with hb | hb | hb; (rcases (hf2 b hb).2 with h | h; (omega); (have := (hf1 b h).1; omega)); (rcases (hf5 b hb).2 with h | h | h; (omega); (have := (hf3 b h).1; omega); (have := (hf4 b h).1; omega)); (rcases (hf8 b hb).2 with h | h | h; (omega); (have := (hf6 b h).1; omega); (have := (hf7 b h).1; omega))); first
          | ((with_reducible refine pbox (((((((((((Box.new _ 33 #[.slice none 0 0]).below hb1).below hb2).below hb3).below hb4).alloc _).below hb5).below hb6).below hb7).alloc _).below hb8) ?_); intro M hMe hbx; (try simp only [Deep.nblk_alloc] at hMe); have hNE : ∀ b, b ∈ b2 ∨ b ∈ b5 ∨ b ∈ b8 → w1.heap.size ≤ b ∧ b ≠ M := (by intro b hb; refine ⟨hLO b hb, ?_⟩; have hd := hD.size; rcases hb with hb | hb | hb; (rcases (hf2 b hb).2 with h | h; (have := (hf2 b hb).1; omega); (have := hf1 b h; omega)); (rcases (hf5 b hb).2 with h | h | h; (have := (hf5 b hb).1; omega); (have := hf3 b h; omega); (have := hf4 b h; omega)); (rcases (hf8 b hb).2 with h | h | h; (have := (hf8 b hb).1; omega); (have := hf6 b h; omega); (have := hf7 b h; omega))); have hMl : w1.heap.size ≤ M := (by have hd := hD.size; omega); refine named (v8.alloc (Obj.cells #[.string ⟨#[77, 83, 72]⟩, .slice a2 (headF [⟨#[82, 83, 80]⟩, ⟨#[90, 48, 49]⟩] ⟨#[]⟩).length c2, .string ⟨#[77, 83, 65]⟩, .slice a5 (trimE List.isEmpty [wordF ⟨#[65, 65]⟩, wordF control]).length c5, .string ⟨#[81, 65, 75]⟩, .slice a8 (trimE List.isEmpty [wordF tag, wordF ⟨#[79, 75]⟩]).length c8] 45)) ?_; intro X9 hX9; have hB9 : Below w1.heap.size w1 X9 := (by rw [← hX9]; repeat (first | with_reducible exact hB8 | with_reducible refine Below.al2 ?_ (Nat.le_refl _))); have hz8 := hB8.size; have z0 : X9.cell? ⟨M, 0, none⟩ = some (.slice none 0 0) := (by rw [← hX9]; exact (hbx.alloc _).cell 0 (by simp)); have z1 : X9.frozen? ⟨M, 0, none⟩ = false := (by rw [← hX9]; exact (hbx.alloc _).frozen 0); subst hMe)
          | ((with_reducible refine pbox ((((((((((((Box.new _ 33 #[.slice none 0 0]).alloc _).below hb1).below hb2).below hb3).below hb4).alloc _).below hb5).below hb6).below hb7).alloc _).below hb8) ?_); intro M hMe hbx; (try simp only [Deep.nblk_alloc] at hMe); have hNE : ∀ b, b ∈ b2 ∨ b ∈ b5 ∨ b ∈ b8 → w1.heap.size ≤ b ∧ b ≠ M := (by intro b hb; refine ⟨hLO b hb, ?_⟩; have hd := hD.size; rcases hb with hb | hb | hb; (rcases (hf2 b hb).2 with h | h; (have := (hf2 b hb).1; omega); (have := hf1 b h; omega)); (rcases (hf5 b hb).2 with h | h | h; (have := (hf5 b hb).1; omega); (have := hf3 b h; omega); (have := hf4 b h; omega)); (rcases (hf8 b hb).2 with h | h | h; (have := (hf8 b hb).1; omega); (have := hf6 b h; omega); (have := hf7 b h; omega))); have hMl : w1.heap.size ≤ M := (by have hd := hD.size; omega); refine named (v8.alloc (Obj.cells #[.string ⟨#[77, 83, 72]⟩, .slice a2 (headF [⟨#[82, 83, 80]⟩, ⟨#[90, 48, 49]⟩] ⟨#[]⟩).length c2, .string ⟨#[77, 83, 65]⟩, .slice a5 (trimE List.isEmpty [wordF ⟨#[65, 65]⟩, wordF control]).length c5, .string ⟨#[81, 65, 75]⟩, .slice a8 (trimE List.isEmpty [wordF tag, wordF ⟨#[79, 75]⟩]).length c8] 45)) ?_; intro X9 hX9; have hB9 : Below w1.heap.size w1 X9 := (by rw [← hX9]; repeat (first | with_reducible exact hB8 | with_reducible refine Below.al2 ?_ (Nat.le_refl _))); have hz8 := hB8.size; have z0 : X9.cell? ⟨M, 0, none⟩ = some (.slice none 0 0) := (by rw [← hX9]; exact (hbx.alloc _).cell 0 (by simp)); have z1 : X9.frozen? ⟨M, 0, none⟩ = false := (by rw [← hX9]; exact (hbx.alloc _).frozen 0); subst hMe)
          | ((with_reducible refine pbox ((((((((((Box.new _ 33 #[.slice none 0 0]).below hb2).below hb3).below hb4).alloc _).below hb5).below hb6).below hb7).alloc _).below hb8) ?_); intro M hMe hbx; (try simp only [Deep.nblk_alloc] at hMe); have hNE : ∀ b, b ∈ b2 ∨ b ∈ b5 ∨ b ∈ b8 → w1.heap.size ≤ b ∧ b ≠ M := (by intro b hb; refine ⟨hLO b hb, ?_⟩; have hd := hD.size; rcases hb with hb | hb | hb; (rcases (hf2 b hb).2 with h | h; (have := (hf2 b hb).1; omega); (have := hf1 b h; omega)); (rcases (hf5 b hb).2 with h | h | h; (have := (hf5 b hb).1; omega); (have := hf3 b h; omega); (have := hf4 b h; omega)); (rcases (hf8 b hb).2 with h | h | h; (have := (hf8 b hb).1; omega); (have := hf6 b h; omega); (have := hf7 b h; omega))); have hMl : w1.heap.size ≤ M := (by have hd := hD.size; omega); refine named (v8.alloc (Obj.cells #[.string ⟨#[77, 83, 72]⟩, .slice a2 (headF [⟨#[82, 83, 80]⟩, ⟨#[90, 48, 49]⟩] ⟨#[]⟩).length c2, .string ⟨#[77, 83, 65]⟩, .slice a5 (trimE List.isEmpty [wordF ⟨#[65, 65]⟩, wordF control]).length c5, .string ⟨#[81, 65, 75]⟩, .slice a8 (trimE List.isEmpty [wordF tag, wordF ⟨#[79, 75]⟩]).length c8] 45)) ?_; intro X9 hX9; have hB9 : Below w1.heap.size w1 X9 := (by rw [← hX9]; repeat (first | with_reducible exact hB8 | with_reducible refine Below.al2 ?_ (Nat.le_refl _))); have hz8 := hB8.size; have z0 : X9.cell? ⟨M, 0, none⟩ = some (.slice none 0 0) := (by rw [← hX9]; exact (hbx.alloc _).cell 0 (by simp)); have z1 : X9.frozen? ⟨M, 0, none⟩ = false := (by rw [← hX9]; exact (hbx.alloc _).frozen 0); subst hMe)
          | ((with_reducible refine pbox (((((((((((Box.new _ 33 #[.slice none 0 0]).alloc _).below hb2).below hb3).below hb4).alloc _).below hb5).below hb6).below hb7).alloc _).below hb8) ?_); intro M hMe hbx; (try simp only [Deep.nblk_alloc] at hMe); have hNE : ∀ b, b ∈ b2 ∨ b ∈ b5 ∨ b ∈ b8 → w1.heap.size ≤ b ∧ b ≠ M := (by intro b hb; refine ⟨hLO b hb, ?_⟩; have hd := hD.size; rcases hb with hb | hb | hb; (rcases (hf2 b hb).2 with h | h; (have := (hf2 b hb).1; omega); (have := hf1 b h; omega)); (rcases (hf5 b hb).2 with h | h | h; (have := (hf5 b hb).1; omega); (have := hf3 b h; omega); (have := hf4 b h; omega)); (rcases (hf8 b hb).2 with h | h | h; (have := (hf8 b hb).1; omega); (have := hf6 b h; omega); (have := hf7 b h; omega))); have hMl : w1.heap.size ≤ M := (by have hd := hD.size; omega); refine named (v8.alloc (Obj.cells #[.string ⟨#[77, 83, 72]⟩, .slice a2 (headF [⟨#[82, 83, 80]⟩, ⟨#[90, 48, 49]⟩] ⟨#[]⟩).length c2, .string ⟨#[77, 83, 65]⟩, .slice a5 (trimE List.isEmpty [wordF ⟨#[65, 65]⟩, wordF control]).length c5, .string ⟨#[81, 65, 75]⟩, .slice a8 (trimE List.isEmpty [wordF tag, wordF ⟨#[79, 75]⟩]).length c8] 45)) ?_; intro X9 hX9; have hB9 : Below w1.heap.size w1 X9 := (by rw [← hX9]; repeat (first | with_reducible exact hB8 | with_reducible refine Below.al2 ?_ (Nat.le_refl _))); have hz8 := hB8.size; have z0 : X9.cell? ⟨M, 0, none⟩ = some (.slice none 0 0) := (by rw [← hX9]; exact (hbx.alloc _).cell 0 (by simp)); have z1 : X9.frozen? ⟨M, 0, none⟩ = false := (by rw [← hX9]; exact (hbx.alloc _).frozen 0); subst hMe)
          | ((with_reducible refine pbox (((((((((Box.new _ 33 #[.slice none 0 0]).below hb3).below hb4).alloc _).below hb5).below hb6).below hb7).alloc _).below hb8) ?_); intro M hMe hbx; (try simp only [Deep.nblk_alloc] at hMe); have hNE : ∀ b, b ∈ b2 ∨ b ∈ b5 ∨ b ∈ b8 → w1.heap.size ≤ b ∧ b ≠ M := (by intro b hb; refine ⟨hLO b hb, ?_⟩; have hd := hD.size; rcases hb with hb | hb | hb; (rcases (hf2 b hb).2 with h | h; (have := (hf2 b hb).1; omega); (have := hf1 b h; omega)); (rcases (hf5 b hb).2 with h | h | h; (have := (hf5 b hb).1; omega); (have := hf3 b h; omega); (have := hf4 b h; omega)); (rcases (hf8 b hb).2 with h | h | h; (have := (hf8 b hb).1; omega); (have := hf6 b h; omega); (have := hf7 b h; omega))); have hMl : w1.heap.size ≤ M := (by have hd := hD.size; omega); refine named (v8.alloc (Obj.cells #[.string ⟨#[77, 83, 72]⟩, .slice a2 (headF [⟨#[82, 83, 80]⟩, ⟨#[90, 48, 49]⟩] ⟨#[]⟩).length c2, .string ⟨#[77, 83, 65]⟩, .slice a5 (trimE List.isEmpty [wordF ⟨#[65, 65]⟩, wordF control]).length c5, .string ⟨#[81, 65, 75]⟩, .slice a8 (trimE List.isEmpty [wordF tag, wordF ⟨#[79, 75]⟩]).length c8] 45)) ?_; intro X9 hX9; have hB9 : Below w1.heap.size w1 X9 := (by rw [← hX9]; repeat (first | with_reducible exact hB8 | with_reducible refine Below.al2 ?_ (Nat.le_refl _))); have hz8 := hB8.size; have z0 : X9.cell? ⟨M, 0, none⟩ = some (.slice none 0 0) := (by rw [← hX9]; exact (hbx.alloc _).cell 0 (by simp)); have z1 : X9.frozen? ⟨M, 0, none⟩ = false := (by rw [← hX9]; exact (hbx.alloc _).frozen 0); subst hMe)
          | ((with_reducible refine pbox ((((((((((Box.new _ 33 #[.slice none 0 0]).alloc _).below hb3).below hb4).alloc _).below hb5).below hb6).below hb7).alloc _).below hb8) ?_); intro M hMe hbx; (try simp only [Deep.nblk_alloc] at hMe); have hNE : ∀ b, b ∈ b2 ∨ b ∈ b5 ∨ b ∈ b8 → w1.heap.size ≤ b ∧ b ≠ M := (by intro b hb; refine ⟨hLO b hb, ?_⟩; have hd := hD.size; rcases hb with hb | hb | hb; (rcases (hf2 b hb).2 with h | h; (have := (hf2 b hb).1; omega); (have := hf1 b h; omega)); (rcases (hf5 b hb).2 with h | h | h; (have := (hf5 b hb).1; omega); (have := hf3 b h; omega); (have := hf4 b h; omega)); (rcases (hf8 b hb).2 with h | h | h; (have := (hf8 b hb).1; omega); (have := hf6 b h; omega); (have := hf7 b h; omega))); have hMl : w1.heap.size ≤ M := (by have hd := hD.size; omega); refine named (v8.alloc (Obj.cells #[.string ⟨#[77, 83, 72]⟩, .slice a2 (headF [⟨#[82, 83, 80]⟩, ⟨#[90, 48, 49]⟩] ⟨#[]⟩).length c2, .string ⟨#[77, 83, 65]⟩, .slice a5 (trimE List.isEmpty [wordF ⟨#[65, 65]⟩, wordF control]).length c5, .string ⟨#[81, 65, 75]⟩, .slice a8 (trimE List.isEmpty [wordF tag, wordF ⟨#[79, 75]⟩]).length c8] 45)) ?_; intro X9 hX9; have hB9 : Below w1.heap.size w1 X9 := (by rw [← hX9]; repeat (first | with_reducible exact hB8 | with_reducible refine Below.al2 ?_ (Nat.le_refl _))); have hz8 := hB8.size; have z0 : X9.cell? ⟨M, 0, none⟩ = some (.slice none 0 0) := (by rw [← hX9]; exact (hbx.alloc _).cell 0 (by simp)); have z1 : X9.frozen? ⟨M, 0, none⟩ = false := (by rw [← hX9]; exact (hbx.alloc _).frozen 0); subst hMe)
          | ((with_reducible refine pbox ((((((((Box.new _ 33 #[.slice none 0 0]).below hb4).alloc _).below hb5).below hb6).below hb7).alloc _).below hb8) ?_); intro M hMe hbx; (try simp only [Deep.nblk_alloc] at hMe); have hNE : ∀ b, b ∈ b2 ∨ b ∈ b5 ∨ b ∈ b8 → w1.heap.size ≤ b ∧ b ≠ M := (by intro b hb; refine ⟨hLO b hb, ?_⟩; have hd := hD.size; rcases hb with hb | hb | hb; (rcases (hf2 b hb).2 with h | h; (have := (hf2 b hb).1; omega); (have := hf1 b h; omega)); (rcases (hf5 b hb).2 with h | h | h; (have := (hf5 b hb).1; omega); (have := hf3 b h; omega); (have := hf4 b h; omega)); (rcases (hf8 b hb).2 with h | h | h; (have := (hf8 b hb).1; omega); (have := hf6 b h; omega); (have := hf7 b h; omega))); have hMl : w1.heap.size ≤ M := (by have hd := hD.size; omega); refine named (v8.alloc (Obj.cells #[.string ⟨#[77, 83, 72]⟩, .slice a2 (headF [⟨#[82, 83, 80]⟩, ⟨#[90, 48, 49]⟩] ⟨#[]⟩).length c2, .string ⟨#[77, 83, 65]⟩, .slice a5 (trimE List.isEmpty [wordF ⟨#[65, 65]⟩, wordF control]).length c5, .string ⟨#[81, 65, 75]⟩, .slice a8 (trimE List.isEmpty [wordF tag, wordF ⟨#[79, 75]⟩]).length c8] 45)) ?_; intro X9 hX9; have hB9 : Below w1.heap.size w1 X9 := (by rw [← hX9]; repeat (first | with_reducible exact hB8 | with_reducible refine Below.al2 ?_ (Nat.le_refl _))); have hz8 := hB8.size; have z0 : X9.cell? ⟨M, 0, none⟩ = some (.slice none 0 0) := (by rw [← hX9]; exact (hbx.alloc _).cell 0 (by simp)); have z1 : X9.frozen? ⟨M, 0, none⟩ = false := (by rw [← hX9]; exact (hbx.alloc _).frozen 0); subst hMe)
          | ((with_reducible refine pbox (((((((((Box.new _ 33 #[.slice none 0 0]).alloc _).below hb4).alloc _).below hb5).below hb6).below hb7).alloc _).below hb8) ?_); intro M hMe hbx; (try simp only [Deep.nblk_alloc] at hMe); have hNE : ∀ b, b ∈ b2 ∨ b ∈ b5 ∨ b ∈ b8 → w1.heap.size ≤ b ∧ b ≠ M := (by intro b hb; refine ⟨hLO b hb, ?_⟩; have hd := hD.size; rcases hb with hb | hb | hb; (rcases (hf2 b hb).2 with h | h; (have := (hf2 b hb).1; omega); (have := hf1 b h; omega)); (rcases (hf5 b hb).2 with h | h | h; (have := (hf5 b hb).1; omega); (have := hf3 b h; omega); (have := hf4 b h; omega)); (rcases (hf8 b hb).2 with h | h | h; (have := (hf8 b hb).1; omega); (have := hf6 b h; omega); (have := hf7 b h; omega))); have hMl : w1.heap.size ≤ M := (by have hd := hD.size; omega); refine named (v8.alloc (Obj.cells #[.string ⟨#[77, 83, 72]⟩, .slice a2 (headF [⟨#[82, 83, 80]⟩, ⟨#[90, 48, 49]⟩] ⟨#[]⟩).length c2, .string ⟨#[77, 83, 65]⟩, .slice a5 (trimE List.isEmpty [wordF ⟨#[65, 65]⟩, wordF control]).length c5, .string ⟨#[81, 65, 75]⟩, .slice a8 (trimE List.isEmpty [wordF tag, wordF ⟨#[79, 75]⟩]).length c8] 45)) ?_; intro X9 hX9; have hB9 : Below w1.heap.size w1 X9 := (by rw [← hX9]; repeat (first | with_reducible exact hB8 | with_reducible refine Below.al2 ?_ (Nat.le_refl _))); have hz8 := hB8.size; have z0 : X9.cell? ⟨M, 0, none⟩ = some (.slice none 0 0) := (by rw [← hX9]; exact (hbx.alloc _).cell 0 (by simp)); have z1 : X9.frozen? ⟨M, 0, none⟩ = false := (by rw [← hX9]; exact (hbx.alloc _).frozen 0); subst hMe)
          | ((with_reducible refine pbox ((((((Box.new _ 33 #[.slice none 0 0]).below hb5).below hb6).below hb7).alloc _).below hb8) ?_); intro M hMe hbx; (try simp only [Deep.nblk_alloc] at hMe); have hNE : ∀ b, b ∈ b2 ∨ b ∈ b5 ∨ b ∈ b8 → w1.heap.size ≤ b ∧ b ≠ M := (by intro b hb; refine ⟨hLO b hb, ?_⟩; have hd := hD.size; rcases hb with hb | hb | hb; (rcases (hf2 b hb).2 with h | h; (have := (hf2 b hb).1; omega); (have := hf1 b h; omega)); (rcases (hf5 b hb).2 with h | h | h; (have := (hf5 b hb).1; omega); (have := hf3 b h; omega); (have := hf4 b h; omega)); (rcases (hf8 b hb).2 with h | h | h; (have := (hf8 b hb).1; omega); (have := hf6 b h; omega); (have := hf7 b h; omega))); have hMl : w1.heap.size ≤ M := (by have hd := hD.size; omega); refine named (v8.alloc (Obj.cells #[.string ⟨#[77, 83, 72]⟩, .slice a2 (headF [⟨#[82, 83, 80]⟩, ⟨#[90, 48, 49]⟩] ⟨#[]⟩).length c2, .string ⟨#[77, 83, 65]⟩, .slice a5 (trimE List.isEmpty [wordF ⟨#[65, 65]⟩, wordF control]).length c5, .string ⟨#[81, 65, 75]⟩, .slice a8 (trimE List.isEmpty [wordF tag, wordF ⟨#[79, 75]⟩]).length c8] 45)) ?_; intro X9 hX9; have hB9 : Below w1.heap.size w1 X9 := (by rw [← hX9]; repeat (first | with_reducible exact hB8 | with_reducible refine Below.al2 ?_ (Nat.le_refl _))); have hz8 := hB8.size; have z0 : X9.cell? ⟨M, 0, none⟩ = some (.slice none 0 0) := (by rw [← hX9]; exact (hbx.alloc _).cell 0 (by simp)); have z1 : X9.frozen? ⟨M, 0, none⟩ = false := (by rw [← hX9]; exact (hbx.alloc _).frozen 0); subst hMe)
          | ((with_reducible refine pbox (((((((Box.new _ 33 #[.slice none 0 0]).alloc _).below hb5).below hb6).below hb7).alloc _).below hb8) ?_); intro M hMe hbx; (try simp only [Deep.nblk_alloc] at hMe); have hNE : ∀ b, b ∈ b2 ∨ b ∈ b5 ∨ b ∈ b8 → w1.heap.size ≤ b ∧ b ≠ M := (by intro b hb; refine ⟨hLO b hb, ?_⟩; have hd := hD.size; rcases hb with hb | hb | hb; (rcases (hf2 b hb).2 with h | h; (have := (hf2 b hb).1; omega); (have := hf1 b h; omega)); (rcases (hf5 b hb).2 with h | h | h; (have := (hf5 b hb).1; omega); (have := hf3 b h; omega); (have := hf4 b h; omega)); (rcases (hf8 b hb).2 with h | h | h; (have := (hf8 b hb).1; omega); (have := hf6 b h; omega); (have := hf7 b h; omega))); have hMl : w1.heap.size ≤ M := (by have hd := hD.size; omega); refine named (v8.alloc (Obj.cells #[.string ⟨#[77, 83, 72]⟩, .slice a2 (headF [⟨#[82, 83, 80]⟩, ⟨#[90, 48, 49]⟩] ⟨#[]⟩).length c2, .string ⟨#[77, 83, 65]⟩, .slice a5 (trimE List.isEmpty [wordF ⟨#[65, 65]⟩, wordF control]).length c5, .string ⟨#[81, 65, 75]⟩, .slice a8 (trimE List.isEmpty [wordF tag, wordF ⟨#[79, 75]⟩]).length c8] 45)) ?_; intro X9 hX9; have hB9 : Below w1.heap.size w1 X9 := (by rw [← hX9]; repeat (first | with_reducible exact hB8 | with_reducible refine Below.al2 ?_ (Nat.le_refl _))); have hz8 := hB8.size; have z0 : X9.cell? ⟨M, 0, none⟩ = some (.slice none 0 0) := (by rw [← hX9]; exact (hbx.alloc _).cell 0 (by simp)); have z1 : X9.frozen? ⟨M, 0, none⟩ = false := (by rw [← hX9]; exact (hbx.alloc _).frozen 0); subst hMe)
          | ((with_reducible refine pbox (((((Box.new _ 33 #[.slice none 0 0]).below hb6).below hb7).alloc _).below hb8) ?_); intro M hMe hbx; (try simp only [Deep.nblk_alloc] at hMe); have hNE : ∀ b, b ∈ b2 ∨ b ∈ b5 ∨ b ∈ b8 → w1.heap.size ≤ b ∧ b ≠ M := (by intro b hb; refine ⟨hLO b hb, ?_⟩; have hd := hD.size; rcases hb with hb | hb | hb; (rcases (hf2 b hb).2 with h | h; (have := (hf2 b hb).1; omega); (have := hf1 b h; omega)); (rcases (hf5 b hb).2 with h | h | h; (have := (hf5 b hb).1; omega); (have := hf3 b h; omega); (have := hf4 b h; omega)); (rcases (hf8 b hb).2 with h | h | h; (have := (hf8 b hb).1; omega); (have := hf6 b h; omega); (have := hf7 b h; omega))); have hMl : w1.heap.size ≤ M := (by have hd := hD.size; omega); refine named (v8.alloc (Obj.cells #[.string ⟨#[77, 83, 72]⟩, .slice a2 (headF [⟨#[82, 83, 80]⟩, ⟨#[90, 48, 49]⟩] ⟨#[]⟩).length c2, .string ⟨#[77, 83, 65]⟩, .slice a5 (trimE List.isEmpty [wordF ⟨#[65, 65]⟩, wordF control]).length c5, .string ⟨#[81, 65, 75]⟩, .slice a8 (trimE List.isEmpty [wordF tag, wordF ⟨#[79, 75]⟩]).length c8] 45)) ?_; intro X9 hX9; have hB9 : Below w1.heap.size w1 X9 := (by rw [← hX9]; repeat (first | with_reducible exact hB8 | with_reducible refine Below.al2 ?_ (Nat.le_refl _))); have hz8 := hB8.size; have z0 : X9.cell? ⟨M, 0, none⟩ = some (.slice none 0 0) := (by rw [← hX9]; exact (hbx.alloc _).cell 0 (by simp)); have z1 : X9.frozen? ⟨M, 0, none⟩ = false := (by rw [← hX9]; exact (hbx.alloc _).frozen 0); subst hMe)
          | ((with_reducible refine pbox ((((((Box.new _ 33 #[.slice none 0 0]).alloc _).below hb6).below hb7).alloc _).below hb8) ?_); intro M hMe hbx; (try simp only [Deep.nblk_alloc] at hMe); have hNE : ∀ b, b ∈ b2 ∨ b ∈ b5 ∨ b ∈ b8 → w1.heap.size ≤ b ∧ b ≠ M := (by intro b hb; refine ⟨hLO b hb, ?_⟩; have hd := hD.size; rcases hb with hb | hb | hb; (rcases (hf2 b hb).2 with h | h; (have := (hf2 b hb).1; omega); (have := hf1 b h; omega)); (rcases (hf5 b hb).2 with h | h | h; (have := (hf5 b hb).1; omega); (have := hf3 b h; omega); (have := hf4 b h; omega)); (rcases (hf8 b hb).2 with h | h | h; (have := (hf8 b hb).1; omega); (have := hf6 b h; omega); (have := hf7 b h; omega))); have hMl : w1.heap.size ≤ M := (by have hd := hD.size; omega); refine named (v8.alloc (Obj.cells #[.string ⟨#[77, 83, 72]⟩, .slice a2 (headF [⟨#[82, 83, 80]⟩, ⟨#[90, 48, 49]⟩] ⟨#[]⟩).length c2, .string ⟨#[77, 83, 65]⟩, .slice a5 (trimE List.isEmpty [wordF ⟨#[65, 65]⟩, wordF control]).length c5, .string ⟨#[81, 65, 75]⟩, .slice a8 (trimE List.isEmpty [wordF tag, wordF ⟨#[79, 75]⟩]).length c8] 45)) ?_; intro X9 hX9; have hB9 : Below w1.heap.size w1 X9 := (by rw [← hX9]; repeat (first | with_reducible exact hB8 | with_reducible refine Below.al2 ?_ (Nat.le_refl _))); have hz8 := hB8.size; have z0 : X9.cell? ⟨M, 0, none⟩ = some (.slice none 0 0) := (by rw [← hX9]; exact (hbx.alloc _).cell 0 (by simp)); have z1 : X9.frozen? ⟨M, 0, none⟩ = false := (by rw [← hX9]; exact (hbx.alloc _).frozen 0); subst hMe)
          | ((with_reducible refine pbox ((((Box.new _ 33 #[.slice none 0 0]).below hb7).alloc _).below hb8) ?_); intro M hMe hbx; (try simp only [Deep.nblk_alloc] at hMe); have hNE : ∀ b, b ∈ b2 ∨ b ∈ b5 ∨ b ∈ b8 → w1.heap.size ≤ b ∧ b ≠ M := (by intro b hb; refine ⟨hLO b hb, ?_⟩; have hd := hD.size; rcases hb with hb | hb | hb; (rcases (hf2 b hb).2 with h | h; (have := (hf2 b hb).1; omega); (have := hf1 b h; omega)); (rcases (hf5 b hb).2 with h | h | h; (have := (hf5 b hb).1; omega); (have := hf3 b h; omega); (have := hf4 b h; omega)); (rcases (hf8 b hb).2 with h | h | h; (have := (hf8 b hb).1; omega); (have := hf6 b h; omega); (have := hf7 b h; omega))); have hMl : w1.heap.size ≤ M := (by have hd := hD.size; omega); refine named (v8.alloc (Obj.cells #[.string ⟨#[77, 83, 72]⟩, .slice a2 (headF [⟨#[82, 83, 80]⟩, ⟨#[90, 48, 49]⟩] ⟨#[]⟩).length c2, .string ⟨#[77, 83, 65]⟩, .slice a5 (trimE List.isEmpty [wordF ⟨#[65, 65]⟩, wordF control]).length c5, .string ⟨#[81, 65, 75]⟩, .slice a8 (trimE List.isEmpty [wordF tag, wordF ⟨#[79, 75]⟩]).length c8] 45)) ?_; intro X9 hX9; have hB9 : Below w1.heap.size w1 X9 := (by rw [← hX9]; repeat (first | with_reducible exact hB8 | with_reducible refine Below.al2 ?_ (Nat.le_refl _))); have hz8 := hB8.size; have z0 : X9.cell? ⟨M, 0, none⟩ = some (.slice none 0 0) := (by rw [← hX9]; exact (hbx.alloc _).cell 0 (by simp)); have z1 : X9.frozen? ⟨M, 0, none⟩ = false := (by rw [← hX9]; exact (hbx.alloc _).frozen 0); subst hMe)
          | ((with_reducible refine pbox (((((Box.new _ 33 #[.slice none 0 0]).alloc _).below hb7).alloc _).below hb8) ?_); intro M hMe hbx; (try simp only [Deep.nblk_alloc] at hMe); have hNE : ∀ b, b ∈ b2 ∨ b ∈ b5 ∨ b ∈ b8 → w1.heap.size ≤ b ∧ b ≠ M := (by intro b hb; refine ⟨hLO b hb, ?_⟩; have hd := hD.size; rcases hb with hb | hb | hb; (rcases (hf2 b hb).2 with h | h; (have := (hf2 b hb).1; omega); (have := hf1 b h; omega)); (rcases (hf5 b hb).2 with h | h | h; (have := (hf5 b hb).1; omega); (have := hf3 b h; omega); (have := hf4 b h; omega)); (rcases (hf8 b hb).2 with h | h | h; (have := (hf8 b hb).1; omega); (have := hf6 b h; omega); (have := hf7 b h; omega))); have hMl : w1.heap.size ≤ M := (by have hd := hD.size; omega); refine named (v8.alloc (Obj.cells #[.string ⟨#[77, 83, 72]⟩, .slice a2 (headF [⟨#[82, 83, 80]⟩, ⟨#[90, 48, 49]⟩] ⟨#[]⟩).length c2, .string ⟨#[77, 83, 65]⟩, .slice a5 (trimE List.isEmpty [wordF ⟨#[65, 65]⟩, wordF control]).length c5, .string ⟨#[81, 65, 75]⟩, .slice a8 (trimE List.isEmpty [wordF tag, wordF ⟨#[79, 75]⟩]).length c8] 45)) ?_; intro X9 hX9; have hB9 : Below w1.heap.size w1 X9 := (by rw [← hX9]; repeat (first | with_reducible exact hB8 | with_reducible refine Below.al2 ?_ (Nat.le_refl _))); have hz8 := hB8.size; have z0 : X9.cell? ⟨M, 0, none⟩ = some (.slice none 0 0) := (by rw [← hX9]; exact (hbx.alloc _).cell 0 (by simp)); have z1 : X9.frozen? ⟨M, 0, none⟩ = false := (by rw [← hX9]; exact (hbx.alloc _).frozen 0); subst hMe)
          | ((with_reducible refine pbox ((Box.new _ 33 #[.slice none 0 0]).below hb8) ?_); intro M hMe hbx; (try simp only [Deep.nblk_alloc] at hMe); have hNE : ∀ b, b ∈ b2 ∨ b ∈ b5 ∨ b ∈ b8 → w1.heap.size ≤ b ∧ b ≠ M := (by intro b hb; refine ⟨hLO b hb, ?_⟩; have hd := hD.size; rcases hb with hb | hb | hb; (rcases (hf2 b hb).2 with h | h; (have := (hf2 b hb).1; omega); (have := hf1 b h; omega)); (rcases (hf5 b hb).2 with h | h | h; (have := (hf5 b hb).1; omega); (have := hf3 b h; omega); (have := hf4 b h; omega)); (rcases (hf8 b hb).2 with h | h | h; (have := (hf8 b hb).1; omega); (have := hf6 b h; omega); (have := hf7 b h; omega))); have hMl : w1.heap.size ≤ M := (by have hd := hD.size; omega); refine named (v8.alloc (Obj.cells #[.string ⟨#[77, 83, 72]⟩, .slice a2 (headF [⟨#[82, 83, 80]⟩, ⟨#[90, 48, 49]⟩] ⟨#[]⟩).length c2, .string ⟨#[77, 83, 65]⟩, .slice a5 (trimE List.isEmpty [wordF ⟨#[65, 65]⟩, wordF control]).length c5, .string ⟨#[81, 65, 75]⟩, .slice a8 (trimE List.isEmpty [wordF tag, wordF ⟨#[79, 75]⟩]).length c8] 45)) ?_; intro X9 hX9; have hB9 : Below w1.heap.size w1 X9 := (by rw [← hX9]; repeat (first | with_reducible exact hB8 | with_reducible refine Below.al2 ?_ (Nat.le_refl _))); have hz8 := hB8.size; have z0 : X9.cell? ⟨M, 0, none⟩ = some (.slice none 0 0) := (by rw [← hX9]; exact (hbx.alloc _).cell 0 (by simp)); have z1 : X9.frozen? ⟨M, 0, none⟩ = false := (by rw [← hX9]; exact (hbx.alloc _).frozen 0); subst hMe)
          | ((with_reducible refine pbox (((Box.new _ 33 #[.slice none 0 0]).alloc _).below hb8) ?_); intro M hMe hbx; (try simp only [Deep.nblk_alloc] at hMe); have hNE : ∀ b, b ∈ b2 ∨ b ∈ b5 ∨ b ∈ b8 → w1.heap.size ≤ b ∧ b ≠ M := (by intro b hb; refine ⟨hLO b hb, ?_⟩; have hd := hD.size; rcases hb with hb | hb | hb; (rcases (hf2 b hb).2 with h | h; (have := (hf2 b hb).1; omega); (have := hf1 b h; omega)); (rcases (hf5 b hb).2 with h | h | h; (have := (hf5 b hb).1; omega); (have := hf3 b h; omega); (have := hf4 b h; omega)); (rcases (hf8 b hb).2 with h | h | h; (have := (hf8 b hb).1; omega); (have := hf6 b h; omega); (have := hf7 b h; omega))); have hMl : w1.heap.size ≤ M := (by have hd := hD.size; omega); refine named (v8.alloc (Obj.cells #[.string ⟨#[77, 83, 72]⟩, .slice a2 (headF [⟨#[82, 83, 80]⟩, ⟨#[90, 48, 49]⟩] ⟨#[]⟩).length c2, .string ⟨#[77, 83, 65]⟩, .slice a5 (trimE List.isEmpty [wordF ⟨#[65, 65]⟩, wordF control]).length c5, .string ⟨#[81, 65, 75]⟩, .slice a8 (trimE List.isEmpty [wordF tag, wordF ⟨#[79, 75]⟩]).length c8] 45)) ?_; intro X9 hX9; have hB9 : Below w1.heap.size w1 X9 := (by rw [← hX9]; repeat (first | with_reducible exact hB8 | with_reducible refine Below.al2 ?_ (Nat.le_refl _))); have hz8 := hB8.size; have z0 : X9.cell? ⟨M, 0, none⟩ = some (.slice none 0 0) := (by rw [← hX9]; exact (hbx.alloc _).cell 0 (by simp)); have z1 : X9.frozen? ⟨M, 0, none⟩ = false := (by rw [← hX9]; exact (hbx.alloc _).frozen 0); subst hMe)
          | (refine named ((v8.alloc (Obj.cells #[.slice none 0 0] 33)).alloc (Obj.cells #[.string ⟨#[77, 83, 72]⟩, .slice a2 (headF [⟨#[82, 83, 80]⟩, ⟨#[90, 48, 49]⟩] ⟨#[]⟩).length c2, .string ⟨#[77, 83, 65]⟩, .slice a5 (trimE List.isEmpty [wordF ⟨#[65, 65]⟩, wordF control]).length c5, .string ⟨#[81, 65, 75]⟩, .slice a8 (trimE List.isEmpty [wordF tag, wordF ⟨#[79, 75]⟩]).length c8] 45)) ?_; intro X9 hX9; have hB9 : Below w1.heap.size w1 X9 := (by rw [← hX9]; repeat (first | with_reducible exact hB8 | with_reducible refine Below.al2 ?_ (Nat.le_refl _))); have hz8 := hB8.size; have z0 : X9.cell? ⟨v8.heap.size, 0, none⟩ = some (.slice none 0 0) := (by rw [← hX9]; exact ((Box.new v8 33 #[.slice none 0 0]).alloc _).cell 0 (by simp)); have z1 : X9.frozen? ⟨v8.heap.size, 0, none⟩ = false := (by rw [← hX9]; exact ((Box.new v8 33 #[.slice none 0 0]).alloc _).frozen 0); refine named ((v8.alloc (Obj.cells #[.string ⟨#[77, 83, 72]⟩, .slice a2 (headF [⟨#[82, 83, 80]⟩, ⟨#[90, 48, 49]⟩] ⟨#[]⟩).length c2, .string ⟨#[77, 83, 65]⟩, .slice a5 (trimE List.isEmpty [wordF ⟨#[65, 65]⟩, wordF control]).length c5, .string ⟨#[81, 65, 75]⟩, .slice a8 (trimE List.isEmpty [wordF tag, wordF ⟨#[79, 75]⟩]).length c8] 45)).alloc (Obj.cells #[.slice none 0 0] 33)) ?_; intro X8 hX8; have hB10 : Below w1.heap.size w1 X8 := (by rw [← hX8]; repeat (first | with_reducible exact hB8 | with_reducible refine Below.al2 ?_ (Nat.le_refl _))); have y0 : X8.cell? ⟨v8.heap.size + 1, 0, none⟩ = some (.slice none 0 0) := (by rw [← hX8]; exact (Box.newS v8 _ 33 #[.slice none 0 0]).cell 0 (by simp)); have y1 : X8.frozen? ⟨v8.heap.size + 1, 0, none⟩ = false := (by rw [← hX8]; exact (Box.newS v8 _ 33 #[.slice none 0 0]).frozen 0)))
        | (have _g := hB6; go_at_call 151; refine (newWordO ⟨#[79, 75]⟩ _ (by decide)).mono ?_; rintro e v7 ⟨a7, c7, rfl, b7, hO7, hf7, hb7⟩; have hs7 := hb7.size; have hc7 : Below v6.heap.size v6 v7 := bjoin hb7 (by repeat (first | with_reducible exact Below.refl _ _ | with_reducible refine Below.al2 ?_ (Nat.le_refl _))); have hB7 : Below w1.heap.size w1 v7 := bjoin hc7 hB6; (try simp only [Deep.nblk_alloc] at hs7); (try simp only [Deep.nblk_alloc] at hf7); have hO2 := keepFO hO2 hc7; have hO5 := keepFO hO5 hc7; have hO6 := keepRO hO6 hc7)
        | (have _g := hB5; go_at_call 151; refine (newWordO tag _ ht).mono ?_; rintro e v6 ⟨a6, c6, rfl, b6, hO6, hf6, hb6⟩; have hs6 := hb6.size; have hc6 : Below v5.heap.size v5 v6 := bjoin hb6 (by repeat (first | with_reducible exact Below.refl _ _ | with_reducible refine Below.al2 ?_ (Nat.le_refl _))); have hB6 : Below w1.heap.size w1 v6 := bjoin hc6 hB5; (try simp only [Deep.nblk_alloc] at hs6); (try simp only [Deep.nblk_alloc] at hf6); have hO2 := keepFO hO2 hc6; have hO5 := keepFO hO5 hc6)
        | (have _g := hB4; go_at_call 150; refine (newSegP2 ⟨#[77, 83, 65]⟩ _ _ (wordF ⟨#[65, 65]⟩) (wordF control) b3 b4 _ _ ?hx5 (keepRO hO3 (by repeat (first | with_reducible exact Below.refl _ _ | with_reducible refine Below.al2 ?_ (Nat.le_refl _)))) (keepRO hO4 (by repeat (first | with_reducible exact Below.refl _ _ | with_reducible refine Below.al2 ?_ (Nat.le_refl _)))) (wordF_len _) (wordF_len _)).mono ?_; (case hx5 => (first | with_reducible exact Box.new _ _ _ | with_reducible exact (Box.new _ _ _).alloc _ | with_reducible exact Box.newS _ _ _ _ | exact Box.new _ _ _ | exact (Box.new _ _ _).alloc _ | exact Box.newS _ _ _ _)); rintro e v5 ⟨a5, c5, rfl, b5, hO5, hf5, hb5⟩; have hs5 := hb5.size; have hc5 : Below v4.heap.size v4 v5 := bjoin hb5 (by repeat (first | with_reducible exact Below.refl _ _ | with_reducible refine Below.al2 ?_ (Nat.le_refl _))); have hB5 : Below w1.heap.size w1 v5 := bjoin hc5 hB4; (try simp only [Deep.nblk_alloc] at hs5); (try simp only [Deep.nblk_alloc] at hf5); have hO2 := keepFO hO2 hc5)
        | (have _g := hB3; go_at_call 151; refine (newWordO control _ hc).mono ?_; rintro e v4 ⟨a4, c4, rfl, b4, hO4, hf4, hb4⟩; have hs4 := hb4.size; have hc4 : Below v3.heap.size v3 v4 := bjoin hb4 (by repeat (first | with_reducible exact Below.refl _ _ | with_reducible refine Below.al2 ?_ (Nat.le_refl _))); have hB4 : Below w1.heap.size w1 v4 := bjoin hc4 hB3; (try simp only [Deep.nblk_alloc] at hs4); (try simp only [Deep.nblk_alloc] at hf4); have hO2 := keepFO hO2 hc4; have hO3 := keepRO hO3 hc4)
        | (have _g := hB2; go_at_call 151; refine (newWordO ⟨#[65, 65]⟩ _ (by decide)).mono ?_; rintro e v3 ⟨a3, c3, rfl, b3, hO3, hf3, hb3⟩; have hs3 := hb3.size; have hc3 : Below v2.heap.size v2 v3 := bjoin hb3 (by repeat (first | with_reducible exact Below.refl _ _ | with_reducible refine Below.al2 ?_ (Nat.le_refl _))); have hB3 : Below w1.heap.size w1 v3 := bjoin hc3 hB2; (try simp only [Deep.nblk_alloc] at hs3); (try simp only [Deep.nblk_alloc] at hf3); have hO2 := keepFO hO2 hc3)
        | (go_at_call 148; refine (newHeadO ⟨#[82, 83, 80]⟩ ⟨#[90, 48, 49]⟩ ⟨#[]⟩ a1 c1 b1 w1.heap.size _ (keepSO hO1 (by repeat (first | with_reducible exact Below.refl _ _ | with_reducible refine Below.al2 ?_ (Nat.le_refl _)))) hn1 (fun b h => by have h1 := (hf1 b h).1; have h2 := hD.size; omega) (Below.size (by repeat (first | with_reducible exact hB8 | with_reducible exact hB7 | with_reducible exact hB6 | with_reducible exact hB5 | with_reducible exact hB4 | with_reducible exact hB3 | with_reducible exact hB2 | with_reducible exact hB1 | with_reducible exact hD | with_reducible refine Below.al2 ?_ (Nat.le_refl _)))) (by decide)).mono ?_; rintro e v2 ⟨a2, c2, rfl, b2, hO2, hf2, hb2⟩; have hs2 := hb2.size; have hc2 : Below v1.heap.size v1 v2 := bjoin hb2 (by repeat (first | with_reducible exact Below.refl _ _ | with_reducible refine Below.al2 ?_ (Nat.le_refl _))); have hB2 : Below w1.heap.size w1 v2 := bjoin hc2 hB1; (try simp only [Deep.nblk_alloc] at hs2); (try simp only [Deep.nblk_alloc] at hf2))
        | (go_at_call 149; refine (newRepR ⟨#[82, 83, 80]⟩ ⟨#[90, 48, 49]⟩ _ _ ?hx1 (by decide) (by decide) (by decide)).mono ?_; (case hx1 => (first | with_reducible exact Box.new _ _ _ | with_reducible exact (Box.new _ _ _).alloc _ | with_reducible exact Box.newS _ _ _ _ | exact Box.new _ _ _ | exact (Box.new _ _ _).alloc _ | exact Box.newS _ _ _ _)); rintro e v1 ⟨a1, c1, rfl, b1, hO1, hn1, hf1, hb1⟩; have hs1 := hb1.size; have hc1 : Below D.heap.size D v1 := bjoin hb1 (by repeat (first | with_reducible exact Below.refl _ _ | with_reducible refine Below.al2 ?_ (Nat.le_refl _))); have hB1 : Below w1.heap.size w1 v1 := bjoin hc1 hD; (try simp only [Deep.nblk_alloc] at hs1); (try simp only [Deep.nblk_alloc] at hf1)))
    all_goals
      go_wp2_with fail
      go_meet
      case rel => first
        | (subst hX8; refine ⟨_, [(rspS, a2, c2), (msaS ⟨#[65, 65]⟩ control, a5, c5), (qakS tag ⟨#[79, 75]⟩, a8, c8)], rfl, ?_, rfl⟩; with_reducible exact page_late hB8 hO2 hO5 hO8 hLO)
        | (subst hX9; refine ⟨_, [(rspS, a2, c2), (msaS ⟨#[65, 65]⟩ control, a5, c5), (qakS tag ⟨#[79, 75]⟩, a8, c8)], rfl, ?_, rfl⟩; with_reducible exact page_mid hB8 hO2 hO5 hO8 hLO)
        | (subst hX9; refine ⟨_, [(rspS, a2, c2), (msaS ⟨#[65, 65]⟩ control, a5, c5), (qakS tag ⟨#[79, 75]⟩, a8, c8)], rfl, ?_, rfl⟩; with_reducible exact page_early hbx hB8 hMl hO2 hO5 hO8 hNE)
  case rest =>
    obtain ⟨M, ps0, rfl, hPR, hps⟩ := hcut
    obtain ⟨X, rfl⟩ : ∃ x, x = wc := ⟨_, rfl⟩
    obtain ⟨x3, hx3⟩ : ∃ l, [rspS, msaS ⟨#[65, 65]⟩ control, qakS tag ⟨#[79, 75]⟩] = l := ⟨_, rfl⟩
    have hx3l : x3.length = 3 := by rw [← hx3]; rfl
    have HPX := hide hPR
    rw [hx3] at hps HPM
    have HPS := hide hps
    clear hPR hps hx3
    obtain ⟨p0, p1, p2, p3⟩ := KP.out X HPX.out.below
    go_wp2_with fail
    go_loopg [26] rows.length (fun q i wr => ∃ (k : Nat) (ps : List QS), k ≤ rows.length ∧ q = rows.length - k ∧ i = .int .i64 (k : Int) ∧ PageRel w1 wr M ps ∧ ps.map Prod.fst = x3 ++ (rows.take k).map rdtS)
    case atStart => exact ⟨0, ps0, Nat.zero_le _, rfl, rfl, HPX.out, by rw [HPS.out]; simp⟩
    case round =>
      obtain ⟨k, ps, hk, rfl, rfl, hR, hP⟩ := hrel
      obtain ⟨Y, rfl⟩ : ∃ x, x = wr := ⟨_, rfl⟩
      have HBY := hide hR.below
      have hMl : w1.heap.size ≤ M := hR.low
      obtain ⟨ar, cr, hBox, _, _, hRow⟩ := hR
      obtain ⟨nr, hnr⟩ : ∃ n, ps.length = n := ⟨_, rfl⟩
      have HNR := hide hnr
      have hnrk : nr ≤ 3 + 200 := by
        have := congrArg List.length hP
        rw [List.length_map, List.length_append, List.length_map, List.length_take] at this
        omega
      rw [hnr] at hBox hRow
      have HBX := hide hBox
      have HRW := hide hRow
      have HP2 := hide hP
      clear hBox hRow hP hnr p0 p1 p2 p3
      obtain ⟨p0, p1, p2, p3⟩ := KP.out Y HBY.out
      by_cases hlt : k < rows.length
      · have hki : (k : Int) < (rows.length : Int) := by omega
        obtain ⟨a', cap', e', hc'⟩ := (At.kept kept_str HV1.out HBY.out).form
        injection e' with ea eb ec
        subst ea ec
        clear eb
        obtain ⟨b, off, rfl, _, hbl, hcell, _⟩ := hc' k hlt
        clear hc'
        rw [Nat.mul_one] at hcell
        obtain ⟨x, hx⟩ : ∃ x, rows[k] = x := ⟨_, rfl⟩
        rw [hx] at hcell
        have hxz : x.size ≤ 1048576 := by rw [← hx]; exact HZ.out _ (List.getElem_mem hlt)
        have HTK : Hid (x3 ++ (rows.take (k + 1)).map rdtS = x3 ++ (rows.take k).map rdtS ++ [rdtS x]) := by show _ = _; rw [List.take_succ_eq_append_getElem hlt, List.map_append, hx, List.append_assoc]; rfl
        clear hx
        go_upto_region 5 with fail
        obtain ⟨D, hDe⟩ : ∃ D, Y.drew = D := ⟨_, rfl⟩
        have hD : Below Y.heap.size Y D := by rw [← hDe]; exact (Below.refl _ _).drew
        have hSd : (fun X : World => X.cell? ⟨M, 0, none⟩ = some (.slice ar nr cr) ∧ X.cell? ⟨w.heap.size, 3, none⟩ = some (.string pointer)) D := ⟨(HBX.out.below hD).cell 0 (by simp), (KP.out D (bjoin hD HBY.out)).2.2.2⟩
        have hDe' := hDe
        refine wp_region_two (fun X : World => X.cell? ⟨M, 0, none⟩ = some (.slice ar nr cr) ∧ X.cell? ⟨w.heap.size, 3, none⟩ = some (.string pointer)) 8 (by kernel_rfl) ?_
        rw [hDe]
        clear hDe hDe'
        refine wpTwo_take (i := 0) (some 30) (v := ?v0_8) rfl rfl (by kernel_rfl) (by kernel_rfl) (by kernel_rfl) (by kernel_rfl) (fun _ _ _ h => h) hSd (Or.inl ⟨by rfl, ?hy0_8⟩) ?rest0_8
        case hy0_8 => (intro w hSw; (try dsimp only at hSw); go_simp; try with_reducible rfl)
        try simp only [Act.put, List.setIfInBounds_toArray, List.set_cons_zero, List.set_cons_succ]
        refine wpTwo_take (i := 1) (some 31) (v := ?v1_8) rfl rfl (by kernel_rfl) (by kernel_rfl) (by kernel_rfl) (by kernel_rfl) (fun _ _ _ h => h) hSd (Or.inl ⟨by rfl, ?hy1_8⟩) ?rest1_8
        case hy1_8 => (intro w hSw; (try dsimp only at hSw); go_simp; try with_reducible rfl)
        try simp only [Act.put, List.setIfInBounds_toArray, List.set_cons_zero, List.set_cons_succ]
        refine wpTwo_take (i := 2) (some 32) (v := ?v2_8) rfl rfl (by kernel_rfl) (by kernel_rfl) (by kernel_rfl) (by kernel_rfl) (fun _ _ _ h => h) hSd (Or.inl ⟨by rfl, ?hy2_8⟩) ?rest2_8
        case hy2_8 => (intro w hSw; (try dsimp only at hSw); go_simp; try with_reducible rfl)
        try simp only [Act.put, List.setIfInBounds_toArray, List.set_cons_zero, List.set_cons_succ]
        refine wpTwo_one (j := 3) (by kernel_rfl) rfl (fun K hK => ?_)
        go_simp
        refine (newWordO x D hxz).mono ?_
        rintro e Z1 ⟨a1, c1, rfl, b1, hO1, hf1, hb1⟩
        dsimp only
        have hY1 : Below Y.heap.size Y Z1 := bjoin hb1 hD
        refine hK.out _ _ (fun _ => ⟨(HBX.out.below hY1).cell 0 (by simp), (KP.out Z1 (bjoin hY1 HBY.out)).2.2.2⟩) ?_
        clear hK K
        try simp only [Act.put, List.setIfInBounds_toArray, List.set_cons_zero, List.set_cons_succ]
        have hY2 : Below Y.heap.size Y (Z1.alloc (Obj.cells #[.slice a1 (wordF x).length c1] 60)) := Below.al2 hY1 (Nat.le_refl _)
        refine wpTwo_one (j := 4) (by kernel_rfl) rfl (fun K hK => ?_)
        go_simp
        refine hK.out _ _ (fun _ => ⟨(HBX.out.below hY2).cell 0 (by simp), (KP.out _ (bjoin hY2 HBY.out)).2.2.2⟩) ?_
        clear hK K
        try simp only [Act.put, List.setIfInBounds_toArray, List.set_cons_zero, List.set_cons_succ]
        refine wpTwo_one (j := 5) (by kernel_rfl) rfl (fun K hK => ?_)
        go_simp
        refine (newSegP1 ⟨#[82, 68, 84]⟩ _ (wordF x) b1 _ _ (Box.new _ _ _) (keepRO hO1 ((Below.refl _ _).alloc (Nat.le_refl _) _)) (wordF_len _)).mono ?_
        rintro e Z2 ⟨a2, c2, rfl, b2, hO2, hf2, hb2⟩
        dsimp only
        have hY3 : Below Y.heap.size Y Z2 := bjoin hb2 hY2
        refine hK.out _ _ (fun _ => ⟨(HBX.out.below hY3).cell 0 (by simp), (KP.out Z2 (bjoin hY3 HBY.out)).2.2.2⟩) ?_
        clear hK K
        try simp only [Act.put, List.setIfInBounds_toArray, List.set_cons_zero, List.set_cons_succ]
        have hY4 : Below Y.heap.size Y (Z2.alloc (Obj.cells #[.string ⟨#[82, 68, 84]⟩, .slice a2 (trimE List.isEmpty [wordF x]).length c2] 45)) := Below.al2 hY3 (Nat.le_refl _)
        refine wpTwo_one (j := 6) (by kernel_rfl) rfl (fun K hK => ?_)
        go_simp
        refine hK.out _ _ (fun _ => ⟨(HBX.out.below hY4).cell 0 (by simp), (KP.out _ (bjoin hY4 HBY.out)).2.2.2⟩) ?_
        clear hK K
        try simp only [Act.put, List.setIfInBounds_toArray, List.set_cons_zero, List.set_cons_succ]
        have hds := hD.size
        have h1s := hb1.size
        have h2s := hb2.size
        rw [Deep.nblk_alloc] at h2s
        have hML : M < Y.heap.size := HBX.out.lt
        have hOl : ∀ b, (Value.slice ar nr cr).ownBlock = some b → w1.heap.size ≤ b ∧ b < Y.heap.size := fun b hb => HRW.out.row.own b (by rw [hb]; simp)
        have hY3s := hY3.size
        have hwY := HBY.out.size
        obtain ⟨v', Z', hr2, hRow', hOn⟩ := (HRW.out.below hY3).push (by omega) (by omega) (by rw [HNR.out]; omega) (rdtS x, a2, c2) (by first | decide | exact (by decide : (3 : Nat) ≤ 9223372036854775807)) (bs := b2) hO2 (fun b hb => by
          have hb' : Y.heap.size ≤ b := by
            rcases (hf2 b hb).2 with h | h
            · rw [Deep.nblk_alloc] at h; omega
            · have := (hf1 b h).1; omega
          exact ⟨by omega, by omega, fun e => by have := (hOl b e).2; omega⟩) 31
        have hMn : M ∉ (Value.slice ar nr cr).ownBlock.toList := fun hm => HRW.out.own (by simpa using hm)
        have hBX' : Box Z' M 33 #[.slice ar nr cr] := ((HBX.out.below hY3).only hOn hMn)
        have hwZ : Below w1.heap.size w1 Z2 := bjoin hY3 HBY.out
        have hwZ' : Below w1.heap.size w1 Z' := hwZ.trans (hOn.below hwZ.size fun d hd => (hOl d (by simpa using hd)).1)
        have r4 : Z'.cell? ⟨M, 0, none⟩ = some (.slice ar nr cr) := hBX'.cell 0 (by simp)
        have rf4 := hBX'.frozen 0
        obtain ⟨a8, c8, e8⟩ := hRow'.form
        rw [List.length_append, List.length_singleton, HNR.out] at e8
        subst e8
        refine wpTwo_one (j := 7) (by kernel_rfl) rfl (fun K hK => ?_)
        refine step_app rfl _ _ 31 rfl hr2 (by first | rfl | simp [Act.eval, Act.put]) (by first | rfl | simp [Act.eval, Act.put]) ?_
        show K (Act.put _ (some 37) _) _
        refine hK.out _ _ (fun _ => ⟨r4, (KP.out Z' hwZ').2.2.2⟩) ?_
        clear hK K
        try simp only [Act.put, List.setIfInBounds_toArray, List.set_cons_zero, List.set_cons_succ]
        refine wpTwo_one (j := 8) (by kernel_rfl) rfl (fun K hK => ?_)
        go_simp
        refine hK.out _ _ (fun h => absurd h (by decide)) ?_
        clear hK K
        refine wpTwo_one (j := 9) (by kernel_rfl) rfl (fun K hK => ?_)
        go_simp
        refine hK.out _ _ (fun h => absurd h (by decide)) ?_
        clear hK K
        refine wpTwo_done (by kernel_rfl) ?_ _
        have hBZ : Box (Z'.setCell ⟨M, 0, none⟩ (.slice a8 (nr + 1) c8)) M 33 #[.slice a8 (ps ++ [(rdtS x, a2, c2)]).length c8] := by
          have := hBX'.set 0 (.slice a8 (nr + 1) c8)
          rw [List.length_append, List.length_singleton, HNR.out]
          simpa using this
        have hBlw : Below w1.heap.size w1 (Z'.setCell ⟨M, 0, none⟩ (.slice a8 (nr + 1) c8)) := hwZ'.setCell (p := ⟨M, 0, none⟩) hMl _
        have hRowZ : MRow w1.heap.size M (Z'.setCell ⟨M, 0, none⟩ (.slice a8 (nr + 1) c8)) (.slice a8 (ps ++ [(rdtS x, a2, c2)]).length c8) (ps ++ [(rdtS x, a2, c2)]) := by
          rw [List.length_append, List.length_singleton, HNR.out]
          exact hRow'.set _
        clear hSd r4 rf4 hr2 hRow' hOn hMn hBX' hwZ' hwZ hY3 hY2 hY1 hY4 hds h1s h2s hML hOl hY3s hO1 hO2 hf1 hf2 hb1 hb2 hD hwY
        have HRL : Hid (PageRel w1 (Z'.setCell ⟨M, 0, none⟩ (.slice a8 (nr + 1) c8)) M (ps ++ [(rdtS x, a2, c2)])) := ⟨a8, c8, hBZ, hBlw, hMl, hRowZ⟩
        have HPN : Hid ((ps ++ [(rdtS x, a2, c2)]).map Prod.fst = x3 ++ (rows.take (k + 1)).map rdtS) := by show _ = _; rw [List.map_append, HP2.out, HTK.out]; rfl
        clear hBZ hBlw hRowZ
        go_wp2_with fail
        go_roundg (rows.length - (k + 1))
        case measure => omega
        case rel => exact ⟨k + 1, _, by omega, rfl, by go_num, HRL.out, HPN.out⟩
      · have hki : ¬ (k : Int) < (rows.length : Int) := by omega
        obtain rfl : k = rows.length := by omega
        have HP3 : Hid (ps.map Prod.fst = x3 ++ rows.map rdtS) := by have := HP2.out; rw [List.take_length] at this; exact this
        clear HP2
        go_upto_if 42 with fail
        go_cut [42] (fun v42 wx => ∃ ps, PageRel w1 wx M ps ∧ ps.map Prod.fst = xs9)
        case first =>
          by_cases hp0 : pointer.size = 0
          · obtain ⟨e1, e2, e3⟩ := empty_yes hp0
            have e4 : (!pointer.toList.isEmpty) = false := by rw [e2]; rfl
            rw [e4]
            have HXX : Hid (ps.map Prod.fst = xs9) := by show _ = _; rw [HP3.out, HPM.out]; unfold dscM; rw [if_pos hp0, List.append_nil]
            have HEND : Hid (PageRel w1 Y M ps) := ⟨ar, cr, by rw [HNR.out]; exact HBX.out, HBY.out, hMl, by rw [HNR.out]; exact HRW.out⟩
            go_wp2_with fail
            go_meet
            case rel => exact ⟨_, HEND.out, HXX.out⟩
          · obtain ⟨e1, e2, e3⟩ := empty_no hp0
            have e4 : (!pointer.toList.isEmpty) = true := by rw [e2]; rfl
            rw [e4]
            have HXX : Hid (x3 ++ rows.map rdtS ++ [dscS pointer] = xs9) := by show _ = _; rw [HPM.out]; unfold dscM; rw [if_neg hp0]
            go_upto_region 8 with fail
            obtain ⟨D, hDe⟩ : ∃ D, Y.drew = D := ⟨_, rfl⟩
            have hD : Below Y.heap.size Y D := by rw [← hDe]; exact (Below.refl _ _).drew
            have hSd : (fun X : World => X.cell? ⟨M, 0, none⟩ = some (.slice ar nr cr) ∧ X.cell? ⟨w.heap.size, 3, none⟩ = some (.string pointer)) D := ⟨(HBX.out.below hD).cell 0 (by simp), (KP.out D (bjoin hD HBY.out)).2.2.2⟩
            have hDe' := hDe
            refine wp_region_two (fun X : World => X.cell? ⟨M, 0, none⟩ = some (.slice ar nr cr) ∧ X.cell? ⟨w.heap.size, 3, none⟩ = some (.string pointer)) 9 (by kernel_rfl) ?_
            rw [hDe]
            clear hDe hDe'
            refine wpTwo_take (i := 0) (some 43) (v := ?v0_9) rfl rfl (by kernel_rfl) (by kernel_rfl) (by kernel_rfl) (by kernel_rfl) (fun _ _ _ h => h) hSd (Or.inl ⟨by rfl, ?hy0_9⟩) ?rest0_9
            case hy0_9 => (intro w hSw; (try dsimp only at hSw); go_simp; try with_reducible rfl)
            try simp only [Act.put, List.setIfInBounds_toArray, List.set_cons_zero, List.set_cons_succ]
            refine wpTwo_take (i := 1) (some 44) (v := ?v1_9) rfl rfl (by kernel_rfl) (by kernel_rfl) (by kernel_rfl) (by kernel_rfl) (fun _ _ _ h => h) hSd (Or.inl ⟨by rfl, ?hy1_9⟩) ?rest1_9
            case hy1_9 => (intro w hSw; (try dsimp only at hSw); go_simp; try with_reducible rfl)
            try simp only [Act.put, List.setIfInBounds_toArray, List.set_cons_zero, List.set_cons_succ]
            refine wpTwo_take (i := 2) (some 45) (v := ?v2_9) rfl rfl (by kernel_rfl) (by kernel_rfl) (by kernel_rfl) (by kernel_rfl) (fun _ _ _ h => h) hSd (Or.inl ⟨by rfl, ?hy2_9⟩) ?rest2_9
            case hy2_9 => (intro w hSw; (try dsimp only at hSw); go_simp; try with_reducible rfl)
            try simp only [Act.put, List.setIfInBounds_toArray, List.set_cons_zero, List.set_cons_succ]
            refine wpTwo_take (i := 3) (some 46) (v := ?v3_9) rfl rfl (by kernel_rfl) (by kernel_rfl) (by kernel_rfl) (by kernel_rfl) (fun _ _ _ h => h) hSd (Or.inl ⟨by rfl, ?hy3_9⟩) ?rest3_9
            case hy3_9 => (intro w hSw; (try dsimp only at hSw); go_simp; try with_reducible rfl)
            try simp only [Act.put, List.setIfInBounds_toArray, List.set_cons_zero, List.set_cons_succ]
            refine wpTwo_one (j := 4) (by kernel_rfl) rfl (fun K hK => ?_)
            go_simp
            refine (newWordO pointer D hp).mono ?_
            rintro e Z1 ⟨a1, c1, rfl, b1, hO1, hf1, hb1⟩
            dsimp only
            have hY1 : Below Y.heap.size Y Z1 := bjoin hb1 hD
            refine hK.out _ _ (fun _ => ⟨(HBX.out.below hY1).cell 0 (by simp), (KP.out Z1 (bjoin hY1 HBY.out)).2.2.2⟩) ?_
            clear hK K
            try simp only [Act.put, List.setIfInBounds_toArray, List.set_cons_zero, List.set_cons_succ]
            have hY2 : Below Y.heap.size Y (Z1.alloc (Obj.cells #[.slice a1 (wordF pointer).length c1] 60)) := Below.al2 hY1 (Nat.le_refl _)
            refine wpTwo_one (j := 5) (by kernel_rfl) rfl (fun K hK => ?_)
            go_simp
            refine hK.out _ _ (fun _ => ⟨(HBX.out.below hY2).cell 0 (by simp), (KP.out _ (bjoin hY2 HBY.out)).2.2.2⟩) ?_
            clear hK K
            try simp only [Act.put, List.setIfInBounds_toArray, List.set_cons_zero, List.set_cons_succ]
            refine wpTwo_one (j := 6) (by kernel_rfl) rfl (fun K hK => ?_)
            go_simp
            refine (newSegP1 ⟨#[68, 83, 67]⟩ _ (wordF pointer) b1 _ _ (Box.new _ _ _) (keepRO hO1 ((Below.refl _ _).alloc (Nat.le_refl _) _)) (wordF_len _)).mono ?_
            rintro e Z2 ⟨a2, c2, rfl, b2, hO2, hf2, hb2⟩
            dsimp only
            have hY3 : Below Y.heap.size Y Z2 := bjoin hb2 hY2
            refine hK.out _ _ (fun _ => ⟨(HBX.out.below hY3).cell 0 (by simp), (KP.out Z2 (bjoin hY3 HBY.out)).2.2.2⟩) ?_
            clear hK K
            try simp only [Act.put, List.setIfInBounds_toArray, List.set_cons_zero, List.set_cons_succ]
            have hY4 : Below Y.heap.size Y (Z2.alloc (Obj.cells #[.string ⟨#[68, 83, 67]⟩, .slice a2 (trimE List.isEmpty [wordF pointer]).length c2] 45)) := Below.al2 hY3 (Nat.le_refl _)
            refine wpTwo_one (j := 7) (by kernel_rfl) rfl (fun K hK => ?_)
            go_simp
            refine hK.out _ _ (fun _ => ⟨(HBX.out.below hY4).cell 0 (by simp), (KP.out _ (bjoin hY4 HBY.out)).2.2.2⟩) ?_
            clear hK K
            try simp only [Act.put, List.setIfInBounds_toArray, List.set_cons_zero, List.set_cons_succ]
            have hds := hD.size
            have h1s := hb1.size
            have h2s := hb2.size
            rw [Deep.nblk_alloc] at h2s
            have hML : M < Y.heap.size := HBX.out.lt
            have hOl : ∀ b, (Value.slice ar nr cr).ownBlock = some b → w1.heap.size ≤ b ∧ b < Y.heap.size := fun b hb => HRW.out.row.own b (by rw [hb]; simp)
            have hY3s := hY3.size
            have hwY := HBY.out.size
            obtain ⟨v', Z', hr2, hRow', hOn⟩ := (HRW.out.below hY3).push (by omega) (by omega) (by rw [HNR.out]; omega) (dscS pointer, a2, c2) (by first | decide | exact (by decide : (3 : Nat) ≤ 9223372036854775807)) (bs := b2) hO2 (fun b hb => by
              have hb' : Y.heap.size ≤ b := by
                rcases (hf2 b hb).2 with h | h
                · rw [Deep.nblk_alloc] at h; omega
                · have := (hf1 b h).1; omega
              exact ⟨by omega, by omega, fun e => by have := (hOl b e).2; omega⟩) 31
            have hMn : M ∉ (Value.slice ar nr cr).ownBlock.toList := fun hm => HRW.out.own (by simpa using hm)
            have hBX' : Box Z' M 33 #[.slice ar nr cr] := ((HBX.out.below hY3).only hOn hMn)
            have hwZ : Below w1.heap.size w1 Z2 := bjoin hY3 HBY.out
            have hwZ' : Below w1.heap.size w1 Z' := hwZ.trans (hOn.below hwZ.size fun d hd => (hOl d (by simpa using hd)).1)
            have r4 : Z'.cell? ⟨M, 0, none⟩ = some (.slice ar nr cr) := hBX'.cell 0 (by simp)
            have rf4 := hBX'.frozen 0
            obtain ⟨a8, c8, e8⟩ := hRow'.form
            rw [List.length_append, List.length_singleton, HNR.out] at e8
            subst e8
            refine wpTwo_one (j := 8) (by kernel_rfl) rfl (fun K hK => ?_)
            refine step_app rfl _ _ 31 rfl hr2 (by first | rfl | simp [Act.eval, Act.put]) (by first | rfl | simp [Act.eval, Act.put]) ?_
            show K (Act.put _ (some 51) _) _
            refine hK.out _ _ (fun _ => ⟨r4, (KP.out Z' hwZ').2.2.2⟩) ?_
            clear hK K
            try simp only [Act.put, List.setIfInBounds_toArray, List.set_cons_zero, List.set_cons_succ]
            refine wpTwo_one (j := 9) (by kernel_rfl) rfl (fun K hK => ?_)
            go_simp
            refine hK.out _ _ (fun h => absurd h (by decide)) ?_
            clear hK K
            refine wpTwo_one (j := 10) (by kernel_rfl) rfl (fun K hK => ?_)
            go_simp
            refine hK.out _ _ (fun h => absurd h (by decide)) ?_
            clear hK K
            refine wpTwo_done (by kernel_rfl) ?_ _
            have hBZ : Box (Z'.setCell ⟨M, 0, none⟩ (.slice a8 (nr + 1) c8)) M 33 #[.slice a8 (ps ++ [(dscS pointer, a2, c2)]).length c8] := by
              have := hBX'.set 0 (.slice a8 (nr + 1) c8)
              rw [List.length_append, List.length_singleton, HNR.out]
              simpa using this
            have hBlw : Below w1.heap.size w1 (Z'.setCell ⟨M, 0, none⟩ (.slice a8 (nr + 1) c8)) := hwZ'.setCell (p := ⟨M, 0, none⟩) hMl _
            have hRowZ : MRow w1.heap.size M (Z'.setCell ⟨M, 0, none⟩ (.slice a8 (nr + 1) c8)) (.slice a8 (ps ++ [(dscS pointer, a2, c2)]).length c8) (ps ++ [(dscS pointer, a2, c2)]) := by
              rw [List.length_append, List.length_singleton, HNR.out]
              exact hRow'.set _
            clear hSd r4 rf4 hr2 hRow' hOn hMn hBX' hwZ' hwZ hY3 hY2 hY1 hY4 hds h1s h2s hML hOl hY3s hO1 hO2 hf1 hf2 hb1 hb2 hD hwY
            have HRL : Hid (PageRel w1 (Z'.setCell ⟨M, 0, none⟩ (.slice a8 (nr + 1) c8)) M (ps ++ [(dscS pointer, a2, c2)])) := ⟨a8, c8, hBZ, hBlw, hMl, hRowZ⟩
            have HPN : Hid ((ps ++ [(dscS pointer, a2, c2)]).map Prod.fst = xs9) := by show _ = _; rw [List.map_append, HP3.out, ← HXX.out]; rfl
            clear hBZ hBlw hRowZ
            go_wp2_with fail
            go_meet
            case rel => exact ⟨_, HRL.out, HPN.out⟩
        case rest =>
          obtain ⟨ps9, hR9, hP9⟩ := hcut
          obtain ⟨X9, rfl⟩ : ∃ x, x = wc := ⟨_, rfl⟩
          obtain ⟨a9, c9, hB9, hb9, _, hM9⟩ := hR9
          have HRES9 := hide (HRES.out.below hb9)
          have h9l : ps9.length ≤ 9223372036854775807 := by
            obtain ⟨a0, c0, e0, q1, q2⟩ := hM9.row.form
            omega
          have hsw := HSW.out
          have HSG : Hid (∀ y, SegsAt w.heap.size (X9.setCell ⟨w.heap.size + 1, 0, none⟩ y) (.slice a9 ps9.length c9) xs9) := fun y => by
            rw [← hP9]
            exact At.mono mono_seg ((hM9.low (b := w.heap.size + 1) (o := 0) (by omega) y).segs h9l) (by omega)
          have HBF : Hid (∀ y, Below w.heap.size w (X9.setCell ⟨w.heap.size + 1, 0, none⟩ y)) := fun y => (bjoin' hb9 HB1.out).setCell (p := ⟨w.heap.size + 1, 0, none⟩) (Nat.le_succ _) y
          obtain ⟨n9, hn9⟩ : ∃ n, ps9.length = n := ⟨_, rfl⟩
          rw [hn9] at hB9 HSG
          have m0 : X9.cell? ⟨M, 0, none⟩ = some (.slice a9 n9 c9) := hB9.cell 0 (by simp)
          have r0 : X9.cell? ⟨w.heap.size + 1, 0, none⟩ = some (.slice none 0 0) := HRES9.out.cell 0 (by simp)
          have rf : X9.frozen? ⟨w.heap.size + 1, 0, none⟩ = false := HRES9.out.frozen 0
          have rl : w.heap.size + 1 < X9.heap.size := HRES9.out.lt
          clear hM9 hP9 hb9 hB9 h9l hn9 p0 p1 p2 p3
          go_wp2_with fail
          exact bodyPost_ret (v := .agg #[.slice a9 n9 c9]) (by simp [results, Tryz.results144, go_sem, r0, rl]) rfl ⟨_, rfl, HSG.out _, HBF.out _⟩
end Go.Proofs.YtfcmhnfdbobnlaaGreatDoor.Msg
