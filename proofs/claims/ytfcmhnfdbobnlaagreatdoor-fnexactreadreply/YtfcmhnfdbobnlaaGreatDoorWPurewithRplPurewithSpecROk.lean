import Derived.Test.YtfcmhnfdbobnlaaGreatDoorImplLetterXwithImplLetterNwithBufEsc
import Derived.Test.YtfcmhnfdbobnlaaGreatDoorNumwithQrySpecwithQryNum
import Derived.Test.YtfcmhnfdbobnlaaGreatDoorMsgEncodewithImplMsgLwithImplMsgIn
import Derived.Test.YtfcmhnfdbobnlaaGreatDoorWLetterwithRplOfwithRplErr
import Derived.Deep.LoopGhost
namespace Go.Proofs.YtfcmhnfdbobnlaaGreatDoor.Msg
set_option linter.unusedVariables false
set_option linter.unusedSimpArgs false

theorem keepN_last {α : Type} (p : α → Bool) : ∀ (xs : List α) (m : Nat), keepN p xs = m + 1 → ∃ h : m < xs.length, p xs[m] = false
  | [], m, h => by simp [keepN] at h
  | x :: xs, m, h => by
    simp only [keepN] at h
    cases hk : keepN p xs with
    | zero =>
      rw [hk] at h
      simp only at h
      cases hp : p x
      · rw [hp] at h
        simp at h
        subst h
        exact ⟨by simp, by simpa using hp⟩
      · rw [hp] at h
        simp at h
    | succ n =>
      rw [hk] at h
      simp only at h
      obtain rfl : m = n + 1 := by omega
      obtain ⟨h1, h2⟩ := keepN_last p xs n hk
      exact ⟨by simp; omega, by simpa using h2⟩
theorem trim_end (xs : List Field) : endB List.length (trimE List.isEmpty xs) = true := by
  cases hm : keepN List.isEmpty xs with
  | zero => unfold trimE; rw [hm]; rfl
  | succ m =>
    obtain ⟨h1, h2⟩ := keepN_last List.isEmpty xs m hm
    have hl : (trimE List.isEmpty xs).length = m + 1 := by unfold trimE; rw [hm, List.length_take]; omega
    rw [endB_at List.length _ (by omega), decide_eq_true_eq]
    have e : (trimE List.isEmpty xs)[(trimE List.isEmpty xs).length - 1]'(by omega) = xs[m] := by
      unfold trimE
      rw [List.getElem_take]
      congr 1
      rw [List.length_take, hm]
      omega
    rw [e]
    cases hx : xs[m] with
    | nil => rw [hx] at h2; cases h2
    | cons a r => simp
theorem wordI (s : ByteArray) (hp : plainB s = true) (hz : s.size ≤ 40000) : fieldI (wordF s) = true := by
  unfold wordF
  split
  · rfl
  · rename_i h
    unfold fieldI repI csB compI endB
    simp [hp, hz, repI, csB, compI, endB]
    omega
theorem trimI (xs : List Field) (hl : xs.length ≤ 30) (h : ∀ f ∈ xs, fieldI f = true) : (csB 30 List.length (trimE List.isEmpty xs) && (trimE List.isEmpty xs).all fieldI) = true := by
  have h1 : (trimE List.isEmpty xs).length ≤ 30 := by unfold trimE; rw [List.length_take]; omega
  unfold csB
  rw [trim_end, decide_eq_true h1, Bool.true_and, Bool.true_and, List.all_eq_true]
  intro f hf
  unfold trimE at hf
  exact h f (List.mem_of_mem_take hf)
theorem wordSz (s : ByteArray) : fieldSz (wordF s) ≤ 2 + s.size := by
  unfold wordF
  split
  · simp [fieldSz, lenSum, sumOf]
  · simp [fieldSz, lenSum, sumOf, repSz, strSz]; omega
theorem trimSz (xs : List Field) : lenSum fieldSz (trimE List.isEmpty xs) ≤ lenSum fieldSz xs := by
  have h1 := sum_le fieldSz xs (keepN List.isEmpty xs)
  unfold lenSum trimE
  rw [List.length_take]
  omega
theorem good_of (segs : List Seg) (h1 : 1 ≤ segs.length) (h2 : segs.length ≤ 10) (hp : Places segs segs.length) (hs : sumOf segSz segs ≤ 3000) : msgB segs = true ∧ msgSz segs ≤ 1048576 := by
  refine ⟨msgB_good segs h1 (by omega) hp ?_, by have e : msgSz segs = segs.length + sumOf segSz segs := rfl; omega⟩
  rw [List.take_length]
  have : ∀ xs : List Seg, (msgWI xs).length ≤ 6 * xs.length + 3 * sumOf segSz xs := by
    intro xs
    induction xs with
    | nil => simp [msgWI, sumOf]
    | cons x r ih =>
      have hx := segWI_le x
      unfold msgWI at ih ⊢
      unfold sumOf at ih ⊢
      rw [List.flatMap_cons, List.length_append, List.map_cons, List.sum_cons, List.length_cons]
      omega
  have := this segs
  omega
theorem bound_p {lo hi : Nat} {s : ByteArray} (h : boundB lo hi s = true) : plainB s = true ∧ s.size ≤ hi := by
  unfold boundB at h
  simp only [Bool.and_eq_true, decide_eq_true_eq] at h
  exact ⟨h.2.2, h.2.1⟩
theorem segI_trim (name : ByteArray) (xs : List Field) (hn : nameB name = true) (hl : xs.length ≤ 30) (h : ∀ f ∈ xs, fieldI f = true) : segI ⟨name, trimE List.isEmpty xs⟩ = true := by
  unfold segI
  rw [trimI xs hl h, hn]
  rfl
theorem headI (kr : Rep) (ctl : ByteArray) (hk : fieldI [kr] = true) (hc : plainB ctl = true) (hz : ctl.size ≤ 40000) : segI ⟨⟨#[77, 83, 72]⟩, headF kr ctl⟩ = true := by
  have h := segI_trim ⟨#[77, 83, 72]⟩ (headF kr ctl) (by decide) (by simp [headF]) (fun f hf => by
    simp only [headF, List.mem_cons, List.not_mem_nil, or_false] at hf
    rcases hf with rfl | rfl | rfl | rfl | rfl | rfl | rfl | rfl | rfl | rfl
    · rfl
    · rfl
    · rfl
    · rfl
    · rfl
    · rfl
    · exact hk
    · exact wordI ctl hc hz
    · rfl
    · exact wordI v251 (by decide) (by decide))
  rw [headF_trim] at h
  exact h
theorem headSz (kr : Rep) (ctl : ByteArray) : segSz ⟨⟨#[77, 83, 72]⟩, headF kr ctl⟩ ≤ 60 + repSz kr + ctl.size := by
  have h1 := wordSz ctl
  have h2 := wordSz v251
  have h3 : v251.size = 5 := rfl
  have h4 : (⟨#[77, 83, 72]⟩ : ByteArray).size = 3 := rfl
  have h5 : fieldSz ([] : Field) = 0 := rfl
  have h6 : fieldSz [kr] = 1 + repSz kr := by simp [fieldSz, lenSum, sumOf]
  unfold segSz lenSum sumOf headF
  simp only [List.map_cons, List.map_nil, List.sum_cons, List.sum_nil, List.length_cons, List.length_nil, h5, h6, h4]
  omega
theorem segTrimSz (name : ByteArray) (xs : List Field) : segSz ⟨name, trimE List.isEmpty xs⟩ ≤ name.size + lenSum fieldSz xs := by
  have := trimSz xs
  unfold segSz
  simp only
  omega

theorem msh_is (a b c : UInt8) : mshB ⟨#[a, b, c]⟩ = ([a, b, c] == [77, 83, 72]) := by unfold mshB; rw [ByteArray.toList_eq]
theorem place0 (x : Seg) (h : segI x = true) (hm : mshB x.name = true) : placeB 0 x = true := by unfold placeB; rw [h, hm]; rfl
theorem place1 (k : Nat) (x : Seg) (h : segI x = true) (hm : mshB x.name = false) : placeB (k + 1) x = true := by unfold placeB; rw [h, hm]; rfl
theorem cancelM_ok (control tag : ByteArray) (hc : controlB control = true) (ht : tagB tag = true) : msgB (cancelM control tag) = true ∧ msgSz (cancelM control tag) ≤ 1048576 := by
  obtain ⟨c1, c2⟩ := bound_p hc
  obtain ⟨t1, t2⟩ := bound_p ht
  have i1 := headI [⟨#[81, 67, 78]⟩, ⟨#[74, 48, 49]⟩] control (by decide) c1 (by omega)
  have i2 := segI_trim ⟨#[81, 73, 68]⟩ [wordF tag] (by decide) (by simp) (fun f hf => by simp at hf; subst hf; exact wordI tag t1 (by omega))
  refine good_of _ (by simp [cancelM]) (by simp [cancelM]) ?_ ?_
  · intro j hj _
    have hj' : j < 2 := hj
    match j, hj' with
    | 0, _ => exact place0 _ i1 (msh_is 77 83 72)
    | 1, _ => exact place1 0 _ i2 (msh_is 81 73 68)
  · have s1 := headSz [⟨#[81, 67, 78]⟩, ⟨#[74, 48, 49]⟩] control
    have s2 := segTrimSz ⟨#[81, 73, 68]⟩ [wordF tag]
    have s3 : repSz [⟨#[81, 67, 78]⟩, ⟨#[74, 48, 49]⟩] = 8 := rfl
    have s4 : (⟨#[81, 73, 68]⟩ : ByteArray).size = 3 := rfl
    have s5 := wordSz tag
    have s6 : lenSum fieldSz [wordF tag] = 1 + fieldSz (wordF tag) := by simp [lenSum, sumOf]
    unfold sumOf cancelM
    simp only [List.map_cons, List.map_nil, List.sum_cons, List.sum_nil]
    omega
theorem nextM_ok (control tag query pointer : ByteArray) (hc : controlB control = true) (ht : tagB tag = true) (hq : textB query = true) (hp : textB pointer = true) : msgB (nextM control tag query pointer) = true ∧ msgSz (nextM control tag query pointer) ≤ 1048576 := by
  obtain ⟨c1, c2⟩ := bound_p hc
  obtain ⟨t1, t2⟩ := bound_p ht
  obtain ⟨q1, q2⟩ := bound_p hq
  obtain ⟨p1, p2⟩ := bound_p hp
  have i1 := headI [⟨#[81, 66, 80]⟩, ⟨#[90, 48, 49]⟩] control (by decide) c1 (by omega)
  have i2 := segI_trim ⟨#[81, 80, 68]⟩ [wordF ⟨#[81]⟩, wordF tag, wordF query] (by decide) (by simp) (fun f hf => by
    simp at hf
    rcases hf with rfl | rfl | rfl
    · exact wordI _ (by decide) (by decide)
    · exact wordI tag t1 (by omega)
    · exact wordI query q1 (by omega))
  have i3 := segI_trim ⟨#[68, 83, 67]⟩ [wordF pointer] (by decide) (by simp) (fun f hf => by simp at hf; subst hf; exact wordI pointer p1 (by omega))
  refine good_of _ (by simp [nextM]) (by simp [nextM]) ?_ ?_
  · intro j hj _
    have hj' : j < 3 := hj
    match j, hj' with
    | 0, _ => exact place0 _ i1 (msh_is 77 83 72)
    | 1, _ => exact place1 0 _ i2 (msh_is 81 80 68)
    | 2, _ => exact place1 1 _ i3 (msh_is 68 83 67)
  · have s1 := headSz [⟨#[81, 66, 80]⟩, ⟨#[90, 48, 49]⟩] control
    have s2 := segTrimSz ⟨#[81, 80, 68]⟩ [wordF ⟨#[81]⟩, wordF tag, wordF query]
    have s3 : repSz [⟨#[81, 66, 80]⟩, ⟨#[90, 48, 49]⟩] = 8 := rfl
    have s4 : (⟨#[81, 80, 68]⟩ : ByteArray).size = 3 := rfl
    have s5 := wordSz tag
    have s6 : lenSum fieldSz [wordF ⟨#[81]⟩, wordF tag, wordF query] = 3 + (fieldSz (wordF ⟨#[81]⟩) + (fieldSz (wordF tag) + fieldSz (wordF query))) := by simp [lenSum, sumOf]
    have s7 := wordSz query
    have s8 := wordSz pointer
    have s9 := wordSz ⟨#[81]⟩
    have s10 : (⟨#[81]⟩ : ByteArray).size = 1 := rfl
    have s11 := segTrimSz ⟨#[68, 83, 67]⟩ [wordF pointer]
    have s12 : (⟨#[68, 83, 67]⟩ : ByteArray).size = 3 := rfl
    have s13 : lenSum fieldSz [wordF pointer] = 1 + fieldSz (wordF pointer) := by simp [lenSum, sumOf]
    unfold sumOf nextM
    simp only [List.map_cons, List.map_nil, List.sum_cons, List.sum_nil]
    omega
theorem newM_ok (control tag query dt : ByteArray) (hc : controlB control = true) (ht : tagB tag = true) (hq : textB query = true) (hp : plainB dt = true) (hd : dt.size ≤ 20) : msgB (newM control tag query dt) = true ∧ msgSz (newM control tag query dt) ≤ 1048576 := by
  obtain ⟨c1, c2⟩ := bound_p hc
  obtain ⟨t1, t2⟩ := bound_p ht
  obtain ⟨q1, q2⟩ := bound_p hq
  have i1 := headI [⟨#[81, 66, 80]⟩, ⟨#[90, 48, 49]⟩] control (by decide) c1 (by omega)
  have i2 := segI_trim ⟨#[81, 80, 68]⟩ [wordF ⟨#[81]⟩, wordF tag, wordF query] (by decide) (by simp) (fun f hf => by
    simp at hf
    rcases hf with rfl | rfl | rfl
    · exact wordI _ (by decide) (by decide)
    · exact wordI tag t1 (by omega)
    · exact wordI query q1 (by omega))
  have i3 := segI_trim ⟨#[82, 67, 80]⟩ [([] : Field), wordF dt] (by decide) (by simp) (fun f hf => by
    simp at hf
    rcases hf with rfl | rfl
    · rfl
    · exact wordI dt hp (by omega))
  refine good_of _ (by simp [newM]) (by simp [newM]) ?_ ?_
  · intro j hj _
    have hj' : j < 3 := hj
    match j, hj' with
    | 0, _ => exact place0 _ i1 (msh_is 77 83 72)
    | 1, _ => exact place1 0 _ i2 (msh_is 81 80 68)
    | 2, _ => exact place1 1 _ i3 (msh_is 82 67 80)
  · have s1 := headSz [⟨#[81, 66, 80]⟩, ⟨#[90, 48, 49]⟩] control
    have s2 := segTrimSz ⟨#[81, 80, 68]⟩ [wordF ⟨#[81]⟩, wordF tag, wordF query]
    have s3 : repSz [⟨#[81, 66, 80]⟩, ⟨#[90, 48, 49]⟩] = 8 := rfl
    have s4 : (⟨#[81, 80, 68]⟩ : ByteArray).size = 3 := rfl
    have s5 := wordSz tag
    have s6 : lenSum fieldSz [wordF ⟨#[81]⟩, wordF tag, wordF query] = 3 + (fieldSz (wordF ⟨#[81]⟩) + (fieldSz (wordF tag) + fieldSz (wordF query))) := by simp [lenSum, sumOf]
    have s7 := wordSz query
    have s8 := wordSz dt
    have s9 := wordSz ⟨#[81]⟩
    have s10 : (⟨#[81]⟩ : ByteArray).size = 1 := rfl
    have s11 := segTrimSz ⟨#[82, 67, 80]⟩ [([] : Field), wordF dt]
    have s12 : (⟨#[82, 67, 80]⟩ : ByteArray).size = 3 := rfl
    have s13 : lenSum fieldSz [([] : Field), wordF dt] = 2 + (fieldSz ([] : Field) + fieldSz (wordF dt)) := by simp [lenSum, sumOf]
    have s14 : fieldSz ([] : Field) = 0 := rfl
    unfold sumOf newM
    simp only [List.map_cons, List.map_nil, List.sum_cons, List.sum_nil]
    omega
end Go.Proofs.YtfcmhnfdbobnlaaGreatDoor.Msg

namespace Go.Proofs.YtfcmhnfdbobnlaaGreatDoor.Msg
open Go.ChangeShapes Go.WideShapes Go.ChangeAt Go.RowKit
set_option linter.unusedVariables false
set_option linter.unusedSimpArgs false

/-! a reply's message, over lists -/
def rdtS (s : ByteArray) : Seg := ⟨⟨#[82, 68, 84]⟩, trimE List.isEmpty [wordF s]⟩
def dscS (s : ByteArray) : Seg := ⟨⟨#[68, 83, 67]⟩, trimE List.isEmpty [wordF s]⟩
def dscM (p : ByteArray) : List Seg := if p.size = 0 then [] else [dscS p]
def rspS : Seg := ⟨⟨#[77, 83, 72]⟩, headF [⟨#[82, 83, 80]⟩, ⟨#[90, 48, 49]⟩] ⟨#[]⟩⟩
def msaS (ack control : ByteArray) : Seg := ⟨⟨#[77, 83, 65]⟩, trimE List.isEmpty [wordF ack, wordF control]⟩
def qakS (tag st : ByteArray) : Seg := ⟨⟨#[81, 65, 75]⟩, trimE List.isEmpty [wordF tag, wordF st]⟩
def errS (dt : ByteArray) : Seg := ⟨⟨#[69, 82, 82]⟩, trimE List.isEmpty [([] : Field), ([] : Field), wordF dt]⟩
def pageM (control tag : ByteArray) (rows : List ByteArray) (pointer : ByteArray) : List Seg := [rspS, msaS ⟨#[65, 65]⟩ control, qakS tag ⟨#[79, 75]⟩] ++ rows.map rdtS ++ dscM pointer
theorem errM_is (ack control tag dt : ByteArray) : errM ack control tag dt = [rspS, msaS ack control, errS dt, qakS tag ack] := rfl
/-- a reply in order -/
def okRpl (r : Rpl) : Bool := rheadB r.control r.tag && (textB r.pointer && (rowsB r.rows 200 && (if aAA r.ack then decide (r.code = 0) else (aAE r.ack || aAR r.ack) && (decide (1 ≤ r.code) && (decide (r.code ≤ 999) && (decide (r.rows.length = 0) && decide (r.pointer.size = 0)))))))
def specM (r : Rpl) : List Seg := if aAA r.ack then pageM r.control r.tag r.rows r.pointer else errM r.ack r.control r.tag (decT r.code.toNat)
def onlyGood (xs : List Seg) : List Seg := if msgB xs then xs else []
def rplM (r : Rpl) : List Seg := if okRpl r then onlyGood (specM r) else []

theorem rhead_sz {c t : ByteArray} (h : rheadB c t = true) : c.size ≤ 20 ∧ t.size ≤ 16 := by
  unfold rheadB at h
  simp only [Bool.and_eq_true, Bool.or_eq_true, decide_eq_true_eq] at h
  refine ⟨?_, ?_⟩
  · rcases h.1 with h | h
    · omega
    · exact (bound_p h).2
  · rcases h.2 with h | h
    · omega
    · exact (bound_p h).2
theorem rows_sz {rows : List ByteArray} (h : rowsB rows 200 = true) : rows.length ≤ 200 ∧ ∀ s ∈ rows, s.size ≤ 200 := by
  unfold rowsB at h
  simp only [Bool.and_eq_true, decide_eq_true_eq, List.all_eq_true] at h
  exact ⟨h.1, fun s hs => (bound_p (h.2 s hs)).2⟩
theorem seg1Sz (name s : ByteArray) : segSz ⟨name, trimE List.isEmpty [wordF s]⟩ ≤ name.size + 3 + s.size := by
  have h1 := segTrimSz name [wordF s]
  have h2 : lenSum fieldSz [wordF s] = 1 + fieldSz (wordF s) := by simp [lenSum, sumOf]
  have h3 := wordSz s
  omega
theorem seg2Sz (name s t : ByteArray) : segSz ⟨name, trimE List.isEmpty [wordF s, wordF t]⟩ ≤ name.size + 6 + s.size + t.size := by
  have h1 := segTrimSz name [wordF s, wordF t]
  have h2 : lenSum fieldSz [wordF s, wordF t] = 2 + (fieldSz (wordF s) + fieldSz (wordF t)) := by simp [lenSum, sumOf]
  have h3 := wordSz s
  have h4 := wordSz t
  omega
theorem rdtSz (rows : List ByteArray) (h : ∀ s ∈ rows, s.size ≤ 200) : sumOf segSz (rows.map rdtS) ≤ 206 * rows.length := by
  induction rows with
  | nil => simp [sumOf]
  | cons a t ih =>
    have h1 := ih (fun s hs => h s (List.mem_cons_of_mem _ hs))
    have h2 := h a (List.mem_cons_self ..)
    have h3 := seg1Sz ⟨#[82, 68, 84]⟩ a
    have h4 : (⟨#[82, 68, 84]⟩ : ByteArray).size = 3 := rfl
    have h5 : sumOf segSz ((a :: t).map rdtS) = segSz (rdtS a) + sumOf segSz (t.map rdtS) := by simp [sumOf]
    have h6 : segSz (rdtS a) ≤ 206 := by unfold rdtS; omega
    rw [h5, List.length_cons]
    omega
theorem sumOf_app {α : Type} (f : α → Nat) (xs ys : List α) : sumOf f (xs ++ ys) = sumOf f xs + sumOf f ys := by simp [sumOf]
theorem rspSz : segSz rspS ≤ 100 := by
  have h1 := headSz [⟨#[82, 83, 80]⟩, ⟨#[90, 48, 49]⟩] ⟨#[]⟩
  have h2 : repSz [⟨#[82, 83, 80]⟩, ⟨#[90, 48, 49]⟩] = 8 := rfl
  have h3 : (⟨#[]⟩ : ByteArray).size = 0 := rfl
  unfold rspS
  omega
theorem errSz (dt : ByteArray) : segSz (errS dt) ≤ 20 + dt.size := by
  have h1 := segTrimSz ⟨#[69, 82, 82]⟩ [([] : Field), ([] : Field), wordF dt]
  have h2 : lenSum fieldSz [([] : Field), ([] : Field), wordF dt] = 3 + (fieldSz ([] : Field) + (fieldSz ([] : Field) + fieldSz (wordF dt))) := by simp [lenSum, sumOf]
  have h3 := wordSz dt
  have h4 : (⟨#[69, 82, 82]⟩ : ByteArray).size = 3 := rfl
  have h5 : fieldSz ([] : Field) = 0 := rfl
  unfold errS
  omega
theorem pageM_sz {control tag pointer : ByteArray} {rows : List ByteArray} (h1 : rheadB control tag = true) (h2 : rowsB rows 200 = true) (h3 : textB pointer = true) : msgSz (pageM control tag rows pointer) ≤ 1048576 := by
  obtain ⟨c1, c2⟩ := rhead_sz h1
  obtain ⟨r1, r2⟩ := rows_sz h2
  have p1 := (bound_p h3).2
  have e1 := rdtSz rows r2
  have e2 := rspSz
  have e3 := seg2Sz ⟨#[77, 83, 65]⟩ ⟨#[65, 65]⟩ control
  have e4 := seg2Sz ⟨#[81, 65, 75]⟩ tag ⟨#[79, 75]⟩
  have e5 := seg1Sz ⟨#[68, 83, 67]⟩ pointer
  have k1 : (⟨#[77, 83, 65]⟩ : ByteArray).size = 3 := rfl
  have k2 : (⟨#[81, 65, 75]⟩ : ByteArray).size = 3 := rfl
  have k3 : (⟨#[68, 83, 67]⟩ : ByteArray).size = 3 := rfl
  have k4 : (⟨#[65, 65]⟩ : ByteArray).size = 2 := rfl
  have k5 : (⟨#[79, 75]⟩ : ByteArray).size = 2 := rfl
  have e6 : sumOf segSz (dscM pointer) ≤ 300 ∧ (dscM pointer).length ≤ 1 := by
    unfold dscM
    split
    · exact ⟨by simp [sumOf], by simp⟩
    · refine ⟨?_, by simp⟩
      have : sumOf segSz [dscS pointer] = segSz (dscS pointer) := by simp [sumOf]
      rw [this]
      unfold dscS
      omega
  have e7 : sumOf segSz [rspS, msaS ⟨#[65, 65]⟩ control, qakS tag ⟨#[79, 75]⟩] = segSz rspS + (segSz (msaS ⟨#[65, 65]⟩ control) + segSz (qakS tag ⟨#[79, 75]⟩)) := by simp [sumOf]
  unfold msgSz lenSum pageM
  rw [sumOf_app, sumOf_app, e7]
  simp only [List.length_append, List.length_map, List.length_cons, List.length_nil]
  unfold msaS qakS
  omega
theorem errM_sz {ack control tag dt : ByteArray} (h1 : rheadB control tag = true) (h2 : ack.size ≤ 200) (h3 : dt.size ≤ 200) : msgSz (errM ack control tag dt) ≤ 1048576 := by
  obtain ⟨c1, c2⟩ := rhead_sz h1
  have e2 := rspSz
  have e3 := seg2Sz ⟨#[77, 83, 65]⟩ ack control
  have e4 := seg2Sz ⟨#[81, 65, 75]⟩ tag ack
  have e5 := errSz dt
  have k1 : (⟨#[77, 83, 65]⟩ : ByteArray).size = 3 := rfl
  have k2 : (⟨#[81, 65, 75]⟩ : ByteArray).size = 3 := rfl
  rw [errM_is]
  have e7 : sumOf segSz [rspS, msaS ack control, errS dt, qakS tag ack] = segSz rspS + (segSz (msaS ack control) + (segSz (errS dt) + segSz (qakS tag ack))) := by simp [sumOf]
  unfold msgSz lenSum
  rw [e7]
  simp only [List.length_cons, List.length_nil]
  unfold msaS qakS
  omega
theorem ack_sz {s : ByteArray} (h : aAE s = true ∨ aAR s = true) : s.size = 2 := by
  rw [← toList_size]
  rcases h with h | h
  · unfold aAE at h; rw [eq_of_beq h]; rfl
  · unfold aAR at h; rw [eq_of_beq h]; rfl
theorem ack_is {s : ByteArray} (h : aAA s = true) : s = ⟨#[65, 65]⟩ := by
  unfold aAA at h
  have e := eq_of_beq h
  apply ByteArray.ext
  rw [ByteArray.toList_eq] at e
  have : s.data.toList = (⟨#[65, 65]⟩ : ByteArray).data.toList := e
  exact Array.toList_inj.1 this
theorem text_empty {s : ByteArray} (h : s.size = 0) : textB s = true := by
  unfold textB boundB
  rw [decide_eq_true (Nat.zero_le _), decide_eq_true (by omega : s.size ≤ 200)]
  have : s = ⟨#[]⟩ := by
    apply ByteArray.ext
    exact Array.eq_empty_of_size_eq_zero h
  rw [this]
  decide
/-- what the program finds of a reply, against what the specification does -/
theorem ok_none {r : Rpl} (h : rplKind r = 0) : okRpl r = false := by
  unfold rplKind at h
  unfold okRpl
  cases h1 : aAA r.ack
  · rw [h1] at h
    simp only [Bool.false_eq_true, if_false] at h ⊢
    cases h2 : (aAE r.ack || aAR r.ack)
    · simp
    · rw [h2] at h
      simp only [if_true] at h
      by_cases h3 : r.rows.length = 0 ∧ r.pointer.size = 0
      · rw [if_pos h3] at h; cases h
      · cases hx : (decide (r.rows.length = 0) && decide (r.pointer.size = 0))
        · simp
        · simp only [Bool.and_eq_true, decide_eq_true_eq] at hx
          exact absurd hx h3
  · rw [h1] at h
    simp only [if_true] at h ⊢
    by_cases h3 : r.code = 0
    · rw [if_pos h3] at h; cases h
    · rw [decide_eq_false h3]; simp
theorem ok_page {r : Rpl} (h : rplKind r = 1) : aAA r.ack = true ∧ r.code = 0 ∧ okRpl r = (pageL r.control r.tag r.rows r.pointer).isNone := by
  unfold rplKind at h
  cases h1 : aAA r.ack
  · rw [h1] at h
    simp only [Bool.false_eq_true, if_false] at h
    split at h
    · split at h <;> cases h
    · cases h
  · rw [h1] at h
    simp only [if_true] at h
    by_cases h3 : r.code = 0
    · refine ⟨rfl, h3, ?_⟩
      unfold okRpl pageL
      rw [h1]
      simp only [if_true]
      rw [decide_eq_true h3]
      cases rheadB r.control r.tag <;> cases textB r.pointer <;> cases rowsB r.rows 200 <;> rfl
    · rw [if_neg h3] at h; cases h
theorem ok_err {r : Rpl} (h : rplKind r = 2) : aAA r.ack = false ∧ (aAE r.ack = true ∨ aAR r.ack = true) ∧ okRpl r = (errorL r.control r.code r.tag).isNone := by
  unfold rplKind at h
  cases h1 : aAA r.ack
  · rw [h1] at h
    simp only [Bool.false_eq_true, if_false] at h
    cases h2 : (aAE r.ack || aAR r.ack)
    · rw [h2] at h
      simp only [Bool.false_eq_true, if_false] at h
      cases h
    · rw [h2] at h
      simp only [if_true] at h
      by_cases h3 : r.rows.length = 0 ∧ r.pointer.size = 0
      · refine ⟨rfl, by simpa using h2, ?_⟩
        have hr : rowsB r.rows 200 = true := by
          unfold rowsB
          rw [List.length_eq_zero_iff.1 h3.1]
          rfl
        unfold okRpl errorL
        rw [h1, h2, text_empty h3.2, hr, decide_eq_true h3.1, decide_eq_true h3.2]
        simp only [Bool.false_eq_true, if_false]
        cases rheadB r.control r.tag <;> cases decide (1 ≤ r.code) <;> cases decide (r.code ≤ 999) <;> rfl
      · rw [if_neg h3] at h; cases h
  · rw [h1] at h
    simp only [if_true] at h
    split at h <;> cases h
theorem kind_cases (r : Rpl) : rplKind r = 0 ∨ rplKind r = 1 ∨ rplKind r = 2 := by
  unfold rplKind
  split
  · split
    · exact .inr (.inl rfl)
    · exact .inl rfl
  · split
    · split
      · exact .inr (.inr rfl)
      · exact .inl rfl
    · exact .inl rfl
end Go.Proofs.YtfcmhnfdbobnlaaGreatDoor.Msg

namespace Go.Proofs.YtfcmhnfdbobnlaaGreatDoor.Msg
open Go.ChangeShapes Go.WideShapes Go.ChangeAt Go.RowKit
set_option linter.unusedVariables false
set_option linter.unusedSimpArgs false

/-! l3ReplyOk -/
theorem rhead_is (c t : ByteArray) : rheadB c t = ((decide (c.size = 0) || controlB c) && (decide (t.size = 0) || tagB t)) := rfl
def badR (r : Rpl) : Bool := !(rheadB r.control r.tag && textB r.pointer)
theorem bad_ok {r : Rpl} (h : badR r = true) : okRpl r = false := by
  unfold badR at h
  have h' : (rheadB r.control r.tag && textB r.pointer) = false := by cases hh : (rheadB r.control r.tag && textB r.pointer); rfl; rw [hh] at h; cases h
  unfold okRpl
  rw [← Bool.and_assoc, h', Bool.false_and]
theorem good_ok {r : Rpl} (h : badR r = false) : okRpl r = (rowsB r.rows 200 && (if aAA r.ack then decide (r.code = 0) else (aAE r.ack || aAR r.ack) && (decide (1 ≤ r.code) && (decide (r.code ≤ 999) && (decide (r.rows.length = 0) && decide (r.pointer.size = 0)))))) := by
  unfold badR at h
  have h' : (rheadB r.control r.tag && textB r.pointer) = true := by cases hh : (rheadB r.control r.tag && textB r.pointer); rw [hh] at h; cases h; rfl
  unfold okRpl
  rw [← Bool.and_assoc, h', Bool.true_and]
theorem rows_all {rows : List ByteArray} (h : rows.length ≤ 200) : rowsB rows 200 = rows.all textB := by
  unfold rowsB; rw [decide_eq_true h]; rfl

set_option maxRecDepth 100000 in
set_option maxHeartbeats 8000000 in
theorem replyOkS_any (r : Rpl) (a : Option Addr) (cap : Nat) (w : World) {lo : Nat} (h1 : r.control.size ≤ 9223372036854775807) (h2 : r.tag.size ≤ 9223372036854775807) (h3 : r.pointer.size ≤ 9223372036854775807) (hv : StrsAt lo w (.slice a r.rows.length cap) r.rows) :
    Calls Tryz.prog 29 #[rplV r (.slice a r.rows.length cap)] w fun e w' => e = .returned (.bool (okRpl r)) ∧ Below w.heap.size w w' := by
  have HGOOD := hide (fun h : badR r = false => good_ok h)
  have HBAD := hide (fun h : badR r = true => bad_ok h)
  obtain ⟨bad, hbad⟩ : ∃ b, badR r = b := ⟨_, rfl⟩
  have HRB : Hid (badR r = bad) := hbad
  have HBD : Hid (badR r = !(((decide (r.control.size = 0) || controlB r.control) && (decide (r.tag.size = 0) || tagB r.tag)) && textB r.pointer)) := rfl
  clear hbad
  have HOK : Hid (∃ o, okRpl r = o) := ⟨_, rfl⟩
  obtain ⟨ok, hok⟩ := HOK.out
  have HE := hide hok
  rw [hok] at HGOOD HBAD ⊢
  clear hok HOK
  rw [HRB.out] at HGOOD HBAD HBD
  obtain ⟨ack, control, code, tag, rows, pointer⟩ := r
  unfold rplV
  dsimp only at h1 h2 h3 hv HGOOD HBAD HBD ⊢
  have hl := hv.1
  have hb : Below w.heap.size w (w.alloc (Obj.cells #[.string ack, .string control, .int .i64 code, .string tag, .slice a rows.length cap, .string pointer] 28)) := (Below.refl _ _).alloc (Nat.le_refl _) _
  obtain ⟨w1, hw1⟩ : ∃ w1, w.alloc (Obj.cells #[.string ack, .string control, .int .i64 code, .string tag, .slice a rows.length cap, .string pointer] 28) = w1 := ⟨_, rfl⟩
  have d0 : w1.cell? ⟨w.heap.size, 0, none⟩ = some (.string ack) := by rw [← hw1]; simp
  have d1 : w1.cell? ⟨w.heap.size, 1, none⟩ = some (.string control) := by rw [← hw1]; simp
  have d2 : w1.cell? ⟨w.heap.size, 2, none⟩ = some (.int .i64 code) := by rw [← hw1]; simp
  have d3 : w1.cell? ⟨w.heap.size, 3, none⟩ = some (.string tag) := by rw [← hw1]; simp
  have d4 : w1.cell? ⟨w.heap.size, 4, none⟩ = some (.slice a rows.length cap) := by rw [← hw1]; simp
  have d5 : w1.cell? ⟨w.heap.size, 5, none⟩ = some (.string pointer) := by rw [← hw1]; simp
  rw [hw1] at hb
  have HV := hide (At.kept kept_str hv hb)
  have HB := hide hb
  have HCC := hide (fun W => controlSpec_any control W h1)
  have HTT := hide (fun W => tagSpec_any tag W h2)
  have HPP := hide (fun W => textSpec_any pointer W h3)
  clear hv hb
  go_enter Tryz.func29, Tryz.ntmps29
  go_upto_region 1 with fail
  go_cut [31] (fun v31 wx => v31 = .bool bad ∧ wx = w1)
  case first =>
    by_cases hc0 : (0 : Int) < (control.size : Int)
    · have ec : decide (control.size = 0) = false := decide_eq_false (by omega)
      cases hcb : controlB control
      · rw [hcb] at HCC
        have HX : Hid (bad = true) := by have := HBD.out; rw [ec, hcb] at this; show _ = _; simpa using this
        clear ec
        go_wp2_with (first | (go_at_call 47; refine (HCC.out _).mono ?_; rintro e w' ⟨rfl, rfl⟩))
        go_meet
        case rel => exact ⟨by rw [HX.out], rfl⟩
      · rw [hcb] at HCC
        by_cases ht0 : (0 : Int) < (tag.size : Int)
        · have et : decide (tag.size = 0) = false := decide_eq_false (by omega)
          cases htb : tagB tag
          · rw [htb] at HTT
            have HX : Hid (bad = true) := by have := HBD.out; rw [ec, hcb, et, htb] at this; show _ = _; simpa using this
            clear ec et
            go_wp2_with (first | (go_at_call 47; refine (HCC.out _).mono ?_; rintro e w' ⟨rfl, rfl⟩) | (go_at_call 48; refine (HTT.out _).mono ?_; rintro e w' ⟨rfl, rfl⟩))
            go_meet
            case rel => exact ⟨by rw [HX.out], rfl⟩
          · rw [htb] at HTT
            have HX : Hid (bad = !textB pointer) := by have := HBD.out; rw [ec, hcb, et, htb] at this; show _ = _; simpa using this
            clear ec et
            go_wp2_with (first | (go_at_call 47; refine (HCC.out _).mono ?_; rintro e w' ⟨rfl, rfl⟩) | (go_at_call 48; refine (HTT.out _).mono ?_; rintro e w' ⟨rfl, rfl⟩) | (go_at_call 49; refine (HPP.out _).mono ?_; rintro e w' ⟨rfl, rfl⟩))
            go_meet
            case rel => exact ⟨by rw [HX.out], rfl⟩
        · have et : decide (tag.size = 0) = true := decide_eq_true (by omega)
          have HX : Hid (bad = !textB pointer) := by have := HBD.out; rw [ec, hcb, et] at this; show _ = _; simpa using this
          clear ec et
          go_wp2_with (first | (go_at_call 47; refine (HCC.out _).mono ?_; rintro e w' ⟨rfl, rfl⟩) | (go_at_call 49; refine (HPP.out _).mono ?_; rintro e w' ⟨rfl, rfl⟩))
          go_meet
          case rel => exact ⟨by rw [HX.out], rfl⟩
    · have ec : decide (control.size = 0) = true := decide_eq_true (by omega)
      by_cases ht0 : (0 : Int) < (tag.size : Int)
      · have et : decide (tag.size = 0) = false := decide_eq_false (by omega)
        cases htb : tagB tag
        · rw [htb] at HTT
          have HX : Hid (bad = true) := by have := HBD.out; rw [ec, et, htb] at this; show _ = _; simpa using this
          clear ec et
          go_wp2_with (first | (go_at_call 48; refine (HTT.out _).mono ?_; rintro e w' ⟨rfl, rfl⟩))
          go_meet
          case rel => exact ⟨by rw [HX.out], rfl⟩
        · rw [htb] at HTT
          have HX : Hid (bad = !textB pointer) := by have := HBD.out; rw [ec, et, htb] at this; show _ = _; simpa using this
          clear ec et
          go_wp2_with (first | (go_at_call 48; refine (HTT.out _).mono ?_; rintro e w' ⟨rfl, rfl⟩) | (go_at_call 49; refine (HPP.out _).mono ?_; rintro e w' ⟨rfl, rfl⟩))
          go_meet
          case rel => exact ⟨by rw [HX.out], rfl⟩
      · have et : decide (tag.size = 0) = true := decide_eq_true (by omega)
        have HX : Hid (bad = !textB pointer) := by have := HBD.out; rw [ec, et] at this; show _ = _; simpa using this
        clear ec et
        go_wp2_with (first | (go_at_call 49; refine (HPP.out _).mono ?_; rintro e w' ⟨rfl, rfl⟩))
        go_meet
        case rel => exact ⟨by rw [HX.out], rfl⟩
  case rest =>
    obtain ⟨rfl, hwx⟩ := hcut
    rw [hwx]
    clear hwx HCC HTT HPP HBD
    have hbb : bad = false ∨ bad = true := by cases bad; exact .inl rfl; exact .inr rfl
    rcases hbb with hbb | hbb
    · have hOK := HGOOD.out hbb
      subst hbb
      have HOKX : Hid (ok = _) := hOK
      clear hOK HGOOD HBAD
      by_cases hlen : (200 : Int) < (rows.length : Int)
      · have HX : Hid (ok = false) := by rw [HOKX.out]; unfold rowsB; rw [decide_eq_false (p := rows.length ≤ 200) (by omega)]; exact rfl
        go_wp2_with fail
        go_ret
        exact ⟨ret_bool HX.out.symm, HB.out⟩
      have HXR : Hid (rowsB rows 200 = rows.all textB) := rows_all (by omega)
      go_wp2_with fail
      go_loopg [3] rows.length (fun q i wr => ∃ k : Nat, k ≤ rows.length ∧ q = rows.length - k ∧ i = .int .i64 (k : Int) ∧ (rows.take k).all textB = true ∧ wr = w1)
      case atStart => exact ⟨0, Nat.zero_le _, rfl, rfl, rfl, rfl⟩
      case round =>
        obtain ⟨k, hk, rfl, rfl, hall, hwr⟩ := hrel
        rw [hwr]
        have HA := hide hall
        clear hall hwr
        by_cases hlt : k < rows.length
        · have hki : (k : Int) < (rows.length : Int) := by omega
          obtain ⟨a', cap', e', hc⟩ := HV.out.form
          injection e' with e1 e2 e3
          subst e1 e3
          obtain ⟨b, off, rfl, _, hbl, hcell, hsz⟩ := hc k hlt
          clear hc
          rw [Nat.mul_one] at hcell
          obtain ⟨x, hx⟩ : ∃ x, rows[k] = x := ⟨_, rfl⟩
          rw [hx] at hcell hsz
          have HR := hide (fun W => textSpec_any x W hsz)
          cases hxb : textB x
          · rw [hxb] at HR
            have HN : Hid (rows.all textB = false) := by
              show _ = _
              rw [List.all_eq_false]
              exact ⟨rows[k], List.getElem_mem _, by rw [hx, hxb]; decide⟩
            have HX : Hid (ok = false) := by rw [HOKX.out, HXR.out, HN.out]; exact rfl
            clear hx
            go_wp2_with (first | (go_at_call 49; refine (HR.out _).mono ?_; rintro e w2 ⟨rfl, rfl⟩))
            go_ret
            exact ⟨ret_bool HX.out.symm, HB.out⟩
          · rw [hxb] at HR
            have HN : Hid ((rows.take (k + 1)).all textB = true) := by
              show _ = _
              rw [List.take_succ_eq_append_getElem hlt, List.all_append, HA.out, hx]
              simp [hxb]
            clear hx
            go_wp2_with (first | (go_at_call 49; refine (HR.out _).mono ?_; rintro e w2 ⟨rfl, rfl⟩))
            go_roundg (rows.length - (k + 1))
            case measure => omega
            case rel => exact ⟨k + 1, by omega, rfl, by go_num, HN.out, rfl⟩
        · obtain rfl : k = rows.length := by omega
          have hki : ¬ (rows.length : Int) < (rows.length : Int) := by omega
          have HN : Hid (rows.all textB = true) := by have := HA.out; rw [List.take_length] at this; exact this
          have HX := hide (show ok = _ from HOKX.out.trans (by rw [HXR.out, HN.out, Bool.true_and]))
          clear HA HN HXR HOKX
          cases h1 : aAA ack
          · have e1 : (ack.toList == [65, 65]) = false := h1
            have HX2 := HX.out
            rw [h1] at HX2
            simp only [Bool.false_eq_true, if_false] at HX2
            have HX := hide HX2
            clear HX2 h1
            have key : ∀ (b1 b2 : Bool), (ack.toList == [65, 69]) = b1 → (ack.toList == [65, 82]) = b2 → Hid (ok = ((b1 || b2) && (decide (1 ≤ code) && (decide (code ≤ 999) && (decide (rows.length = 0) && decide (pointer.size = 0)))))) := fun b1 b2 h h' => by
              have := HX.out
              unfold aAE aAR at this
              rw [h, h'] at this
              exact this
            cases e2 : (ack.toList == [65, 69])
            · cases e3 : (ack.toList == [65, 82])
              · have HY : Hid (ok = false) := by rw [(key _ _ e2 e3).out]; exact rfl
                clear key HX
                go_wp2_with fail
                go_ret
                exact ⟨ret_bool HY.out.symm, HB.out⟩
              · have HZ := key _ _ e2 e3
                clear key HX
                by_cases c1 : (1 : Int) ≤ code
                · by_cases c2 : code ≤ 999
                  · by_cases c3 : rows.length = 0
                    · have c3b : ((rows.length : Int) == 0) = true := by simpa using c3
                      by_cases c4 : pointer.size = 0
                      · have c4b : ((pointer.size : Int) == 0) = true := by simpa using c4
                        have HY : Hid (ok = true) := by rw [HZ.out, decide_eq_true c1, decide_eq_true c2, decide_eq_true c3, decide_eq_true c4]; exact rfl
                        clear HZ c3 c4
                        go_wp2_with fail
                        go_ret
                        exact ⟨ret_bool HY.out.symm, HB.out⟩
                      · have c4i : ¬ (pointer.size : Int) = 0 := by omega
                        have c4b : ((pointer.size : Int) == 0) = false := by simpa using c4i
                        have HY : Hid (ok = false) := by rw [HZ.out, decide_eq_true c1, decide_eq_true c2, decide_eq_true c3, decide_eq_false c4]; exact rfl
                        clear HZ c3 c4
                        go_wp2_with fail
                        go_ret
                        exact ⟨ret_bool HY.out.symm, HB.out⟩
                    · have c3i : ¬ (rows.length : Int) = 0 := by omega
                      have c3b : ((rows.length : Int) == 0) = false := by simpa using c3i
                      have HY : Hid (ok = false) := by rw [HZ.out, decide_eq_true c1, decide_eq_true c2, decide_eq_false c3]; exact rfl
                      clear HZ c3
                      go_wp2_with fail
                      go_ret
                      exact ⟨ret_bool HY.out.symm, HB.out⟩
                  · have HY : Hid (ok = false) := by rw [HZ.out, decide_eq_true c1, decide_eq_false c2]; exact rfl
                    clear HZ
                    go_wp2_with fail
                    go_ret
                    exact ⟨ret_bool HY.out.symm, HB.out⟩
                · have HY : Hid (ok = false) := by rw [HZ.out, decide_eq_false c1]; exact rfl
                  clear HZ
                  go_wp2_with fail
                  go_ret
                  exact ⟨ret_bool HY.out.symm, HB.out⟩
            · have HZ : Hid (ok = (decide (1 ≤ code) && (decide (code ≤ 999) && (decide (rows.length = 0) && decide (pointer.size = 0))))) := by rw [(key true _ e2 rfl).out]; exact rfl
              clear key HX
              by_cases c1 : (1 : Int) ≤ code
              · by_cases c2 : code ≤ 999
                · by_cases c3 : rows.length = 0
                  · have c3b : ((rows.length : Int) == 0) = true := by simpa using c3
                    by_cases c4 : pointer.size = 0
                    · have c4b : ((pointer.size : Int) == 0) = true := by simpa using c4
                      have HY : Hid (ok = true) := by rw [HZ.out, decide_eq_true c1, decide_eq_true c2, decide_eq_true c3, decide_eq_true c4]; exact rfl
                      clear HZ c3 c4
                      go_wp2_with fail
                      go_ret
                      exact ⟨ret_bool HY.out.symm, HB.out⟩
                    · have c4i : ¬ (pointer.size : Int) = 0 := by omega
                      have c4b : ((pointer.size : Int) == 0) = false := by simpa using c4i
                      have HY : Hid (ok = false) := by rw [HZ.out, decide_eq_true c1, decide_eq_true c2, decide_eq_true c3, decide_eq_false c4]; exact rfl
                      clear HZ c3 c4
                      go_wp2_with fail
                      go_ret
                      exact ⟨ret_bool HY.out.symm, HB.out⟩
                  · have c3i : ¬ (rows.length : Int) = 0 := by omega
                    have c3b : ((rows.length : Int) == 0) = false := by simpa using c3i
                    have HY : Hid (ok = false) := by rw [HZ.out, decide_eq_true c1, decide_eq_true c2, decide_eq_false c3]; exact rfl
                    clear HZ c3
                    go_wp2_with fail
                    go_ret
                    exact ⟨ret_bool HY.out.symm, HB.out⟩
                · have HY : Hid (ok = false) := by rw [HZ.out, decide_eq_true c1, decide_eq_false c2]; exact rfl
                  clear HZ
                  go_wp2_with fail
                  go_ret
                  exact ⟨ret_bool HY.out.symm, HB.out⟩
              · have HY : Hid (ok = false) := by rw [HZ.out, decide_eq_false c1]; exact rfl
                clear HZ
                go_wp2_with fail
                go_ret
                exact ⟨ret_bool HY.out.symm, HB.out⟩
          · have e1 : (ack.toList == [65, 65]) = true := h1
            have HX2 := HX.out
            rw [h1] at HX2
            simp only [if_true] at HX2
            have HX := hide HX2
            clear HX2 h1
            by_cases hc : code = 0
            · have hcb : (code == 0) = true := by simpa using hc
              have HY : Hid (ok = true) := by rw [HX.out, decide_eq_true hc]; exact rfl
              clear HX hc
              go_wp2_with fail
              go_ret
              exact ⟨ret_bool HY.out.symm, HB.out⟩
            · have hcb : (code == 0) = false := by simpa using hc
              have HY : Hid (ok = false) := by rw [HX.out, decide_eq_false hc]; exact rfl
              clear HX
              go_wp2_with fail
              go_ret
              exact ⟨ret_bool HY.out.symm, HB.out⟩
    · have HX : Hid (ok = false) := HBAD.out hbb
      clear HGOOD HBAD
      subst hbb
      go_wp2_with fail
      go_ret
      exact ⟨ret_bool HX.out.symm, HB.out⟩
end Go.Proofs.YtfcmhnfdbobnlaaGreatDoor.Msg
