import Derived.Test.YtpmnepalchgcbaaGreatDoorTblApplyPwithBkMapwithBkFns
import Derived.Test.YtpmnepalchgcbaaGreatDoorParseCompswithImplSplitwithChgDecP
import Derived.Test.YtpmnepalchgcbaaGreatDoorLogPurewithLogBldwithLogFirst
import Derived.Test.YtpmnepalchgcbaaGreatDoorTblApplyS
import Derived.Test.YtpmnepalchgcbaaGreatDoorChgSpec
import Derived.Test.YtpmnepalchgcbaaGreatDoorCrashSpecwithBufKitwithRecSpec
import Derived.Test.YtpmnepalchgcbaaGreatDoorParseDatawithCutPurewithParseCut
import Derived.Deep.RegionHeld3
namespace Go.Proofs.YtpmnepalchgcbaaGreatDoor.Msg
open Go.ChangeShapes Go.WideShapes Go.ChangeAt Go.RowKit
set_option linter.unusedVariables false
set_option linter.unusedSimpArgs false

/-! a table stays in order -/
def keyS (s : Sess) : Int × List UInt8 := (s.client, s.tag.toList)
theorem sameB_key (x y : Sess) : sameB x y = false ↔ keyS x ≠ keyS y := by
  unfold sameB keyS
  rw [Bool.and_eq_false_iff]
  constructor
  · rintro (h | h) e
    · injection e with e1 e2
      rw [decide_eq_true e1] at h
      cases h
    · injection e with e1 e2
      rw [e2] at h
      simp at h
  · intro h
    by_cases e1 : x.client = y.client
    · right
      cases e : (x.tag.toList == y.tag.toList)
      · rfl
      · exact absurd (by rw [e1, eq_of_beq e]) h
    · left
      exact decide_eq_false e1
theorem tblB_iff (xs : List Sess) : tblB xs = true ↔ xs.length ≤ 16 ∧ (∀ s ∈ xs, sessB s = true) ∧ (xs.map keyS).Pairwise (fun a b => a ≠ b) := by
  unfold tblB
  rw [Bool.and_eq_true, decide_eq_true_eq, decide_eq_true_eq, List.pairwise_map]
  constructor
  · rintro ⟨h1, h2⟩
    refine ⟨h1, fun s hs => ?_, ?_⟩
    · obtain ⟨i, hi, rfl⟩ := List.mem_iff_getElem.1 hs
      exact (h2 i hi).1
    · rw [List.pairwise_iff_getElem]
      intro i j hi hj hij
      exact fun e => (sameB_key _ _).1 ((h2 j hj).2 i hij) e.symm
  · rintro ⟨h1, h2, h3⟩
    refine ⟨h1, fun i hi => ⟨h2 _ (List.getElem_mem hi), fun j hj => (sameB_key _ _).2 fun e => ?_⟩⟩
    exact List.pairwise_iff_getElem.1 h3 j i (by omega) hi hj e.symm
theorem tblB_nil : tblB [] = true := (tblB_iff []).2 ⟨by simp, by simp, by simp⟩
theorem tbl_sub {xs ys : List Sess} (h : tblB xs = true) (hs : ys.Sublist xs) : tblB ys = true := by
  obtain ⟨h1, h2, h3⟩ := (tblB_iff xs).1 h
  exact (tblB_iff ys).2 ⟨Nat.le_trans hs.length_le h1, fun s hm => h2 s (hs.subset hm), h3.sublist (hs.map keyS)⟩
theorem tbl_set {xs : List Sess} (h : tblB xs = true) {i : Nat} (hi : i < xs.length) {s : Sess} (hs : sessB s = true) (hc : s.client = xs[i].client) (ht : s.tag = xs[i].tag) : tblB (xs.set i s) = true := by
  obtain ⟨h1, h2, h3⟩ := (tblB_iff xs).1 h
  have hk : (xs.set i s).map keyS = xs.map keyS := by
    apply List.ext_getElem
    · simp
    · intro j g1 g2
      rw [List.getElem_map, List.getElem_map]
      by_cases e : j = i
      · subst e
        rw [List.getElem_set_self]
        unfold keyS
        rw [hc, ht]
      · rw [List.getElem_set_ne (Ne.symm e)]
  refine (tblB_iff _).2 ⟨by rw [List.length_set]; exact h1, fun x hx => ?_, by rw [hk]; exact h3⟩
  rcases List.mem_or_eq_of_mem_set hx with hx | rfl
  · exact h2 x hx
  · exact hs
theorem tbl_snoc {xs : List Sess} (h : tblB xs = true) (hl : xs.length < 16) {s : Sess} (hs : sessB s = true) (hk : ∀ x ∈ xs, keyS x ≠ keyS s) : tblB (xs ++ [s]) = true := by
  obtain ⟨h1, h2, h3⟩ := (tblB_iff xs).1 h
  refine (tblB_iff _).2 ⟨by simp; omega, fun x hx => ?_, ?_⟩
  · rcases List.mem_append.1 hx with hx | hx
    · exact h2 x hx
    · rw [List.mem_singleton.1 hx]; exact hs
  · rw [List.map_append, List.pairwise_append]
    refine ⟨h3, by simp, fun a ha b hb => ?_⟩
    obtain ⟨x, hx, rfl⟩ := List.mem_map.1 ha
    simp at hb
    subst hb
    exact hk x hx
theorem room_sub (ys : List Sess) : (roomP ys).Sublist ys := by
  unfold roomP
  split
  · exact List.Sublist.refl _
  · split
    · exact List.eraseIdx_sublist _ _
    · exact List.Sublist.refl _
theorem keyB_key (c : Int) (t : ByteArray) (s : Sess) : keyB c t s = true ↔ keyS s = (c, t.toList) := by
  unfold keyB keyS
  constructor
  · intro h
    simp only [Bool.and_eq_true, decide_eq_true_eq, beq_iff_eq] at h
    rw [h.1, h.2]
  · intro h
    injection h with h1 h2
    simp [h1, h2]
theorem newS_ok {c : Chg} (h : chgB c = true) (hk : c.kind = 1) : sessB (newS c) = true := by
  unfold chgB at h
  simp only [Bool.and_eq_true] at h
  obtain ⟨⟨h1, h2⟩, h3⟩ := h
  unfold kindB at h3
  rw [if_pos hk] at h3
  simp only [Bool.and_eq_true] at h3
  unfold sessB newS stateB
  simp only [Bool.and_eq_true]
  exact ⟨⟨h1, h2, h3.1.1, h3.1.2, by decide⟩, by simp⟩
theorem openFin_tbl {xs ys : List Sess} {c : Chg} (hx : tblB xs = true) (hy : tblB ys = true) (hc : chgB c = true) (hk : c.kind = 1) (hn : ∀ s ∈ ys, keyB c.client c.tag s = false) : tblB (openFin xs ys c).1 = true := by
  unfold openFin
  split
  · exact hx
  · rename_i hl
    refine tbl_snoc (tbl_sub hy (room_sub ys)) (by omega) (newS_ok hc hk) fun x hx2 e => ?_
    have h1 := hn x ((room_sub ys).subset hx2)
    have h2 := (keyB_key c.client c.tag x).2 (by rw [e]; rfl)
    rw [h1] at h2
    cases h2
theorem erase_key {xs : List Sess} (h : tblB xs = true) {c : Int} {t : ByteArray} {i : Nat} (hi : i < xs.length) (hk : keyB c t xs[i] = true) : ∀ s ∈ xs.eraseIdx i, keyB c t s = false := by
  obtain ⟨_, _, h3⟩ := (tblB_iff xs).1 h
  intro s hs
  rw [List.mem_eraseIdx_iff_getElem] at hs
  obtain ⟨j, hj, hne, rfl⟩ := hs
  cases e : keyB c t xs[j]
  · rfl
  · exfalso
    have e1 := (keyB_key _ _ _).1 hk
    have e2 := (keyB_key _ _ _).1 e
    rw [List.pairwise_map, List.pairwise_iff_getElem] at h3
    rcases Nat.lt_or_gt_of_ne hne with hl | hl
    · exact h3 j i hj hi hl (e2.trans e1.symm)
    · exact h3 i j hi hj hl (e1.trans e2.symm)
theorem openP_tbl {xs : List Sess} {c : Chg} (hx : tblB xs = true) (hc : chgB c = true) (hk : c.kind = 1) : tblB (openP xs c).1 = true := by
  unfold openP
  cases e : xs.findIdx? (keyB c.client c.tag) with
  | none =>
    rw [List.findIdx?_eq_none_iff] at e
    exact openFin_tbl hx hx hc hk e
  | some i =>
    dsimp only
    split
    · exact hx
    · rw [List.findIdx?_eq_some_iff_getElem] at e
      obtain ⟨hi, h1, _⟩ := e
      exact openFin_tbl hx (tbl_sub hx (List.eraseIdx_sublist _ _)) hc hk (erase_key hx hi h1)
theorem stepS_ok {s s' : Sess} {c : Chg} (hs : sessB s = true) (hc : chgB c = true) (h : stepS s c = .ok s') : sessB s' = true ∧ s'.client = s.client ∧ s'.tag = s.tag := by
  have hs0 := hs
  unfold sessB at hs
  simp only [Bool.and_eq_true] at hs
  obtain ⟨⟨a1, a2, a3, a4, a5⟩, a6⟩ := hs
  unfold stepS at h
  split at h
  · rename_i k2
    split at h
    · rename_i st
      split at h
      · cases h
      · rename_i hl
        injection h with h
        subst h
        refine ⟨?_, rfl, rfl⟩
        have hr : rowsB c.rows 200 = true := by
          unfold chgB kindB at hc
          rw [if_neg (by omega), if_pos k2] at hc
          simp only [Bool.and_eq_true] at hc
          exact hc.2.1
        unfold sessB
        simp only [Bool.and_eq_true]
        refine ⟨⟨a1, a2, a3, a4, ?_⟩, ?_⟩
        · unfold rowsB at a5 hr ⊢
          simp only [Bool.and_eq_true, decide_eq_true_eq, List.all_eq_true] at a5 hr ⊢
          refine ⟨by rw [List.length_append]; omega, fun r hr2 => ?_⟩
          rcases List.mem_append.1 hr2 with hr2 | hr2
          · exact a5.2 r hr2
          · exact hr.2 r hr2
        · unfold stateB at a6 ⊢
          rw [if_pos st] at a6
          dsimp only
          rw [if_pos st]
          exact a6
    · cases h
  split at h
  · split at h
    · rename_i st
      injection h with h
      subst h
      refine ⟨?_, rfl, rfl⟩
      unfold sessB
      simp only [Bool.and_eq_true]
      refine ⟨⟨a1, a2, a3, a4, a5⟩, ?_⟩
      unfold stateB at a6 ⊢
      rw [if_pos st] at a6
      simp only [decide_eq_true_eq] at a6
      dsimp only
      rw [a6]
      simp
    · cases h
  split at h
  · rename_i k4
    split at h
    · rename_i st
      split at h
      · cases h
      · rename_i hl
        injection h with h
        subst h
        refine ⟨?_, rfl, rfl⟩
        have hn : 0 ≤ c.n := by
          unfold chgB kindB at hc
          rw [if_neg (by omega), if_neg (by omega), if_pos k4] at hc
          simp only [Bool.and_eq_true, cursorB, decide_eq_true_eq] at hc
          exact hc.2.1.1
        unfold sessB
        simp only [Bool.and_eq_true]
        refine ⟨⟨a1, a2, a3, a4, a5⟩, ?_⟩
        unfold stateB
        dsimp only
        rw [if_neg (by omega), if_pos st]
        simp only [Bool.and_eq_true, decide_eq_true_eq]
        exact ⟨hn, by omega⟩
    · cases h
  split at h
  · split at h
    · injection h with h
      subst h
      refine ⟨?_, rfl, rfl⟩
      unfold sessB stateB
      simp only [Bool.and_eq_true]
      exact ⟨⟨a1, a2, a3, a4, by decide⟩, by simp⟩
    · cases h
  · split at h
    · injection h with h
      subst h
      refine ⟨?_, rfl, rfl⟩
      unfold sessB stateB
      simp only [Bool.and_eq_true]
      exact ⟨⟨a1, a2, a3, a4, by decide⟩, by simp⟩
    · cases h
theorem atP_tbl {xs : List Sess} {c : Chg} (hx : tblB xs = true) (hc : chgB c = true) {i : Nat} (hi : i < xs.length) : tblB (atP xs i (stepS xs[i] c)).1 = true := by
  cases e : stepS xs[i] c with
  | error k => exact hx
  | ok s =>
    have h1 := stepS_ok (((tblB_iff xs).1 hx).2.1 _ (List.getElem_mem hi)) hc e
    exact tbl_set hx hi h1.1 h1.2.1 h1.2.2
theorem applyP_tbl (xs : List Sess) (c : Chg) : tblB (applyP xs c).1 = true := by
  unfold applyP
  split
  · rename_i h
    split
    · exact openP_tbl h.1 h.2 (by assumption)
    · split
      · rename_i i e
        have hi : i < xs.length := by rw [List.findIdx?_eq_some_iff_getElem] at e; exact e.1
        have hg : xs.getD i sess0 = xs[i] := by rw [List.getD_eq_getElem?_getD, List.getElem?_eq_getElem hi]; rfl
        rw [hg]
        exact atP_tbl h.1 h.2 hi
      · exact h.1
  · exact tblB_nil

/-! a log is read, change by change -/
theorem decS_ok {t : ByteArray} {c : Chg} (h : decS t = some c) : chgB c = true := by
  rw [← dec_same] at h
  unfold decI at h
  split at h
  · cases h
  · rename_i h0
    split at h
    · rename_i h1
      injection h with h
      subst h
      exact (encB_ok h1 (fun e => h0 (.inl e))).1
    · cases h
def stepR (xs : List Sess) (t : ByteArray) : Option (List Sess) := match decS t with
  | none => none
  | some c => if (applyP xs c).2 = 0 then some (applyP xs c).1 else none
def runF (xs : List Sess) : List ByteArray → Option (List Sess)
  | [] => some xs
  | t :: ts => match stepR xs t with
    | some ys => runF ys ts
    | none => none
def recF (xs : List Sess) : List ByteArray → List Sess
  | [] => xs
  | t :: ts => match stepR xs t with
    | some ys => recF ys ts
    | none => xs
theorem runF_snoc : ∀ (ts : List ByteArray) (xs ys : List Sess) (t : ByteArray), runF xs ts = some ys → runF xs (ts ++ [t]) = stepR ys t
  | [], xs, ys, t, h => by
    injection h with h
    subst h
    show (match stepR xs t with | some ys => some ys | none => none) = _
    cases stepR xs t <;> rfl
  | u :: ts, xs, ys, t, h => by
    unfold runF at h
    show (match stepR xs u with | some ys => runF ys (ts ++ [t]) | none => none) = _
    cases e : stepR xs u with
    | none => rw [e] at h; cases h
    | some zs => rw [e] at h; exact runF_snoc ts zs ys t h
theorem recF_run : ∀ (ts us : List ByteArray) (xs ys : List Sess), runF xs ts = some ys → recF xs (ts ++ us) = recF ys us
  | [], us, xs, ys, h => by
    injection h with h
    subst h
    rfl
  | u :: ts, us, xs, ys, h => by
    unfold runF at h
    show (match stepR xs u with | some ys => recF ys (ts ++ us) | none => xs) = _
    cases e : stepR xs u with
    | none => rw [e] at h; cases h
    | some zs => rw [e] at h; exact recF_run ts us zs ys h
theorem recF_stop {ts us : List ByteArray} {xs ys : List Sess} {t : ByteArray} (h : runF xs ts = some ys) (hn : stepR ys t = none) : recF xs (ts ++ t :: us) = ys := by
  rw [recF_run ts (t :: us) xs ys h]
  unfold recF
  rw [hn]
theorem recF_all {ts : List ByteArray} {xs ys : List Sess} (h : runF xs ts = some ys) : recF xs ts = ys := by
  have := recF_run ts [] xs ys h
  rw [List.append_nil] at this
  exact this
theorem stepR_tbl {xs ys : List Sess} {t : ByteArray} (h : stepR xs t = some ys) : tblB ys = true := by
  unfold stepR at h
  split at h
  · cases h
  · split at h
    · injection h with h
      rw [← h]
      exact applyP_tbl _ _
    · cases h
theorem runF_tbl : ∀ (ts : List ByteArray) (xs ys : List Sess), tblB xs = true → runF xs ts = some ys → tblB ys = true
  | [], xs, ys, hx, h => by
    injection h with h
    rw [← h]
    exact hx
  | u :: ts, xs, ys, hx, h => by
    unfold runF at h
    cases e : stepR xs u with
    | none => rw [e] at h; cases h
    | some zs => rw [e] at h; exact runF_tbl ts zs ys (stepR_tbl e) h
theorem recF_tbl : ∀ (ts : List ByteArray) (xs : List Sess), tblB xs = true → tblB (recF xs ts) = true
  | [], xs, hx => hx
  | u :: ts, xs, hx => by
    show tblB (match stepR xs u with | some ys => recF ys ts | none => xs) = true
    cases e : stepR xs u with
    | none => exact hx
    | some zs => exact recF_tbl ts zs (stepR_tbl e)
theorem stepR_no {xs : List Sess} {t : ByteArray} (h : decS t = none) : stepR xs t = none := by unfold stepR; rw [h]
theorem stepR_bad {xs : List Sess} {t : ByteArray} {c : Chg} (h : decS t = some c) (hn : (applyP xs c).2 ≠ 0) : stepR xs t = none := by unfold stepR; rw [h]; exact if_neg hn
theorem stepR_good {xs : List Sess} {t : ByteArray} {c : Chg} (h : decS t = some c) (hn : (applyP xs c).2 = 0) : stepR xs t = some (applyP xs c).1 := by unfold stepR; rw [h]; exact if_pos hn

/-! what drains has failed -/
def failS (s : Sess) : Sess := if s.state = 1 then ⟨s.client, s.tag, s.query, s.page, 3, [], 0⟩ else s
def failT (xs : List Sess) : List Sess := xs.map failS
def failK (xs : List Sess) (k : Nat) : List Sess := (xs.take k).map failS ++ xs.drop k
def failC (s : Sess) : Chg := ⟨5, s.client, s.tag, ⟨#[]⟩, 0, [], 0⟩
theorem failK_zero (xs : List Sess) : failK xs 0 = xs := by simp [failK]
theorem failK_len (xs : List Sess) (k : Nat) : (failK xs k).length = xs.length := by
  unfold failK
  rw [List.length_append, List.length_map, List.length_take, List.length_drop]
  omega
theorem failK_all (xs : List Sess) : failK xs xs.length = failT xs := by simp [failK, failT]
theorem failK_at (xs : List Sess) (k : Nat) (h : k < xs.length) : (failK xs k)[k]'(by rw [failK_len]; exact h) = xs[k] := by
  unfold failK
  rw [List.getElem_append_right (by simp; omega)]
  simp [List.getElem_drop, Nat.min_eq_left (Nat.le_of_lt h)]
theorem failK_succ (xs : List Sess) (k : Nat) (h : k < xs.length) : failK xs (k + 1) = (failK xs k).set k (failS xs[k]) := by
  unfold failK
  rw [List.take_succ_eq_append_getElem h, List.map_append, List.set_append]
  rw [if_neg (by simp; omega)]
  have e : k - ((xs.take k).map failS).length = 0 := by simp; omega
  rw [e, List.append_assoc]
  congr 1
  rw [List.drop_eq_getElem_cons h]
  rfl
theorem failK_keep (xs : List Sess) (k : Nat) (h : k < xs.length) (hs : xs[k].state ≠ 1) : failK xs (k + 1) = failK xs k := by
  rw [failK_succ xs k h]
  have e : failS xs[k] = xs[k] := if_neg hs
  rw [e]
  have e2 := failK_at xs k h
  conv => lhs; rw [← e2]
  exact List.set_getElem_self _
theorem failC_ok {s : Sess} (h : sessB s = true) : chgB (failC s) = true := by
  unfold sessB at h
  simp only [Bool.and_eq_true] at h
  unfold chgB failC kindB
  simp only [Bool.and_eq_true]
  exact ⟨⟨h.1.1, h.1.2.1⟩, by first | rfl | decide⟩
theorem fail_step {xs : List Sess} {k : Nat} (hx : tblB (failK xs k) = true) (h : k < xs.length) (hs : xs[k].state = 1) : applyP (failK xs k) (failC xs[k]) = (failK xs (k + 1), 0) := by
  have hl : k < (failK xs k).length := by rw [failK_len]; exact h
  have hat := failK_at xs k h
  have hsB : sessB xs[k] = true := by rw [← hat]; exact ((tblB_iff _).1 hx).2.1 _ (List.getElem_mem hl)
  have hf : (failK xs k).findIdx? (keyB xs[k].client xs[k].tag) = some k := by
    rw [List.findIdx?_eq_some_iff_getElem]
    refine ⟨hl, (keyB_key _ _ _).2 (by rw [hat]; rfl), fun j hj => ?_⟩
    have hj2 : j < (failK xs k).length := by omega
    have h3 := ((tblB_iff _).1 hx).2.2
    rw [List.pairwise_map, List.pairwise_iff_getElem] at h3
    have h4 := h3 j k hj2 hl hj
    cases e : keyB xs[k].client xs[k].tag (failK xs k)[j]
    · simp
    · exfalso
      apply h4
      rw [(keyB_key _ _ _).1 e, hat]
      rfl
  unfold applyP
  rw [if_pos ⟨hx, failC_ok hsB⟩, if_neg (show ¬ (failC xs[k]).kind = 1 from (show ¬ (5 : Int) = 1 by decide))]
  show (match (failK xs k).findIdx? (keyB xs[k].client xs[k].tag) with | some i => atP (failK xs k) i (stepS ((failK xs k).getD i sess0) (failC xs[k])) | none => (failK xs k, 3)) = _
  rw [hf]
  dsimp only
  have hg : (failK xs k).getD k sess0 = xs[k] := by rw [List.getD_eq_getElem?_getD, List.getElem?_eq_getElem hl, hat]; rfl
  rw [hg]
  have hst : stepS xs[k] (failC xs[k]) = .ok (failS xs[k]) := by
    unfold stepS failC failS
    dsimp only
    rw [if_neg (by decide), if_neg (by decide), if_neg (by decide), if_pos rfl, if_pos hs, if_pos hs]
  rw [hst, failK_succ xs k h]
  rfl
theorem failK_tbl {xs : List Sess} (hx : tblB xs = true) : ∀ k, k ≤ xs.length → tblB (failK xs k) = true
  | 0, _ => by rw [failK_zero]; exact hx
  | k + 1, h => by
    have ih := failK_tbl hx k (by omega)
    by_cases hs : (xs[k]'(by omega)).state = 1
    · have e := fail_step ih (by omega) hs
      have := applyP_tbl (failK xs k) (failC (xs[k]'(by omega)))
      rw [e] at this
      exact this
    · rw [failK_keep xs k (by omega) hs]
      exact ih
theorem failT_tbl {xs : List Sess} (hx : tblB xs = true) : tblB (failT xs) = true := by
  rw [← failK_all]
  exact failK_tbl hx _ (Nat.le_refl _)

/-! a part of the records is a first part -/
theorem recsK_pre (img : ByteArray) (k : Nat) : ∀ j, recsK img k <+: recsK img (k + j)
  | 0 => List.prefix_refl _
  | j + 1 => by
    refine (recsK_pre img k j).trans ?_
    show _ <+: recsK img (k + j + 1)
    conv => rhs; unfold recsK
    split
    · exact List.prefix_append _ _
    · exact List.prefix_refl _
theorem recsK_still (img : ByteArray) : ∀ k, (recsK img k).length < k → ∀ m, recsK img (k + m) = recsK img k
  | 0, h, _ => absurd h (by omega)
  | k + 1, h, m => by
    cases e : firstB (img.extract (endOf (recsK img k)) img.size) with
    | none =>
      have h1 := recsK_no e 1
      have h2 := recsK_no e (m + 1)
      rw [show k + 1 + m = k + (m + 1) by omega, h2, h1]
    | some p =>
      have h1 := recsK_yes (t := p.1) (n := p.2) e
      rw [h1, List.length_append, List.length_singleton] at h
      have h2 := recsK_still img k (by omega) 1
      rw [h1] at h2
      exact absurd (congrArg List.length h2) (by simp)
theorem recsA_pre (img : ByteArray) (k : Nat) : recsK img k <+: recsA img := by
  unfold recsA
  by_cases hk : k ≤ img.size
  · have := recsK_pre img k (img.size - k)
    rwa [show k + (img.size - k) = img.size by omega] at this
  · have hl := recsK_len img img.size
    by_cases h0 : img.size = 0
    · have h1 := recsK_len img k
      have : recsK img k = [] := List.eq_nil_of_length_eq_zero (by omega)
      rw [this]
      exact List.nil_prefix
    · have := recsK_still img img.size (by omega) (k - img.size)
      rw [show img.size + (k - img.size) = k by omega] at this
      rw [this]
      exact List.prefix_refl _
/-- what Recover gives -/
def recovP (img : ByteArray) : List Sess := failT (recF [] ((recsA img).map (·.1)))
theorem recovP_tbl (img : ByteArray) : tblB (recovP img) = true := failT_tbl (recF_tbl _ _ tblB_nil)
end Go.Proofs.YtpmnepalchgcbaaGreatDoor.Msg

namespace Go.Proofs.YtpmnepalchgcbaaGreatDoor.Msg
open Go.ChangeShapes Go.WideShapes Go.ChangeAt Go.RowKit
set_option linter.unusedVariables false
set_option linter.unusedSimpArgs false

/-! spec.l5Failed -/
theorem TE.at_form {base : Nat} {X : World} {v : Value} {ps : List (Sess × Value)} {xs : List Sess} (h : TE base X v ps) (he : ps.map Prod.fst = xs) : ∃ a c, v = .slice a xs.length c := by
  obtain ⟨a, c, e, _⟩ := h.form
  exact ⟨a, c, by rw [e, ← he, List.length_map]⟩
theorem TE.reads {base : Nat} {X : World} {v : Value} {ps : List (Sess × Value)} {xs : List Sess} (h : TE base X v ps) (he : ps.map Prod.fst = xs) (hl : xs.length ≤ 100000) : SesssAt base X v xs := by
  have hl2 : ps.length = xs.length := by rw [← he, List.length_map]
  have := h.sesss (by omega)
  rw [he] at this
  exact this
set_option maxRecDepth 100000 in
set_option maxHeartbeats 8000000 in
theorem fail_all {base : Nat} (xs : List Sess) (v : Value) (w : World) (ht : tblB xs = true) (hv : ∃ ps, TE base w v ps ∧ ps.map Prod.fst = xs) (hbase : base ≤ w.heap.size) :
    Calls Tryz.prog 11 #[.agg #[v]] w fun e w' => ∃ u, e = .returned (.agg #[u]) ∧ (∃ ps, TE base w' u ps ∧ ps.map Prod.fst = failT xs) ∧ Below w.heap.size w w' := by
  obtain ⟨a, cap, rfl⟩ : ∃ a c, v = .slice a xs.length c := by obtain ⟨ps, h, he⟩ := hv; exact h.at_form he
  have HT := hide ht
  have h16 : xs.length ≤ 16 := ((tblB_iff xs).1 ht).1
  obtain ⟨n, hn⟩ : ∃ n, xs.length = n := ⟨_, rfl⟩
  have HN := hide hn
  rw [hn] at hv h16 ⊢
  obtain ⟨x2, hx2⟩ : ∃ x, (w.alloc (Obj.cells #[.slice a n cap] 24)).alloc (Obj.cells #[.slice none 0 0] 24) = x := ⟨_, rfl⟩
  have HA2 : Hid (Box x2 w.heap.size 24 #[.slice a n cap]) := by rw [← hx2]; exact (Box.new _ _ _).alloc _
  have HR2 : Hid (Box x2 (w.heap.size + 1) 24 #[.slice none 0 0]) := by
    have := Box.new (w.alloc (Obj.cells #[.slice a n cap] 24)) 24 #[.slice none 0 0]
    rw [Deep.nblk_alloc, hx2] at this
    exact this
  have HB2 : Hid (Below w.heap.size w x2) := by
    rw [← hx2]
    have h1 := (Below.refl w.heap.size w).alloc (Nat.le_refl _) (Obj.cells #[.slice a n cap] 24)
    exact h1.alloc h1.size _
  have HV2 : Hid (∃ ps, TE base x2 (.slice a n cap) ps ∧ ps.map Prod.fst = failK xs 0) := by
    obtain ⟨ps, h, he⟩ := hv
    exact ⟨ps, h.below HB2.out, by rw [failK_zero]; exact he⟩
  have HX2 := hide hx2
  clear hv ht hn hx2
  go_enter Tryz.func11, Tryz.ntmps11
  go_upto_region 1 with fail
  (try rw [HX2.out])
  go_wp2_with fail
  go_loopg [3] n (fun q i wr => ∃ (k : Nat) (ak : Option Addr) (ck : Nat), k ≤ n ∧ q = n - k ∧ i = .int .i64 (k : Int) ∧ Box wr w.heap.size 24 #[.slice ak n ck] ∧ Box wr (w.heap.size + 1) 24 #[.slice none 0 0] ∧ (∃ ps, TE base wr (.slice ak n ck) ps ∧ ps.map Prod.fst = failK xs k) ∧ Below w.heap.size w wr)
  case atStart => exact ⟨0, _, _, Nat.zero_le _, rfl, rfl, HA2.out, HR2.out, HV2.out, HB2.out⟩
  case round =>
    obtain ⟨k, ak, ck, hk, rfl, rfl, hA, hR, hV, hb⟩ := hrel
    obtain ⟨Y, rfl⟩ : ∃ x, x = wr := ⟨_, rfl⟩
    have HA := hide hA
    have HR := hide hR
    have HV := hide hV
    have HB := hide hb
    have d0 : Y.cell? ⟨w.heap.size, 0, none⟩ = some (.slice ak n ck) := hA.cell 0 (by simp)
    have dl := hA.lt
    clear hA hR hV hb
    by_cases hlt : k < n
    · have hki : (k : Int) < (n : Int) := by omega
      have hk0 : (0 : Int) ≤ (k : Int) := by omega
      have hk9 : (k : Int) ≤ 100 := by omega
      have hkx : k < xs.length := by rw [HN.out]; exact hlt
      have HTK : Hid (tblB (failK xs k) = true) := failK_tbl HT.out k (by omega)
      obtain ⟨s, hs⟩ : ∃ s, xs[k] = s := ⟨_, rfl⟩
      have hat := failK_at xs k hkx
      rw [hs] at hat
      have hsB : sessB s = true := by rw [← hat]; exact ((tblB_iff _).1 HTK.out).2.1 _ (List.getElem_mem _)
      have hreads : SesssAt base Y (.slice ak n ck) (failK xs k) := by
        obtain ⟨ps, h, he⟩ := HV.out
        exact h.reads he (by rw [failK_len, HN.out]; omega)
      have HRD := hide hreads
      obtain ⟨a', cap', ea, hel⟩ := At.form hreads
      rw [failK_len, HN.out] at ea
      injection ea with e1 _ e3
      subst e1 e3
      obtain ⟨b, off, rfl, _, hbl, g⟩ := hel k (by rw [failK_len]; exact hkx)
      rw [hat] at g
      obtain ⟨p, hp⟩ : ∃ p, off + k * 7 = p := ⟨_, rfl⟩
      rw [hp] at g
      obtain ⟨g0, g1, g2, g3, g4, g6, z1, z2, ve, g5, hrows⟩ := g
      obtain ⟨ar, cr, rfl, _⟩ := At.form hrows
      obtain ⟨nr, hnr⟩ : ∃ q, s.rows.length = q := ⟨_, rfl⟩
      rw [hnr] at g5
      obtain ⟨X0, hX0⟩ : ∃ x, Y.alloc (Obj.cells #[.int .i64 s.client, .string s.tag, .string s.query, .int .i64 s.page, .int .i64 s.state, .slice ar nr cr, .int .i64 s.cursor] 51) = x := ⟨_, rfl⟩
      have hbx : Below Y.heap.size Y X0 := by rw [← hX0]; exact (Below.refl _ _).alloc (Nat.le_refl _) _
      have HBX : Hid (Box X0 Y.heap.size 51 #[.int .i64 s.client, .string s.tag, .string s.query, .int .i64 s.page, .int .i64 s.state, .slice ar nr cr, .int .i64 s.cursor]) := by rw [← hX0]; exact Box.new _ _ _
      have k0 : X0.cell? ⟨Y.heap.size, 0, none⟩ = some (.int .i64 s.client) := HBX.out.cell 0 (by simp)
      have k1 : X0.cell? ⟨Y.heap.size, 1, none⟩ = some (.string s.tag) := HBX.out.cell 1 (by simp)
      have k4 : X0.cell? ⟨Y.heap.size, 4, none⟩ = some (.int .i64 s.state) := HBX.out.cell 4 (by simp)
      have HA0 := hide (HA.out.below hbx)
      have HR0 := hide (HR.out.below hbx)
      have HB0 := hide (bjoin hbx HB.out)
      have HV0 : Hid (∃ ps, TE base X0 (.slice (some ⟨b, off, none⟩) n ck) ps ∧ ps.map Prod.fst = failK xs k) := by
        obtain ⟨ps, h, he⟩ := HV.out
        exact ⟨ps, h.below hbx, he⟩
      have HAP := hide (applyS_any (failK xs k) (.slice (some ⟨b, off, none⟩) n ck) (failC s) none 0 0 X0 (At.kept kept_sess HRD.out hbx) (by have := (tbl_sm HTK.out).2 _ (List.getElem_mem (show k < (failK xs k).length by rw [failK_len]; exact hkx)); rw [hat] at this; exact this.1) (by show (⟨#[]⟩ : ByteArray).size ≤ _; decide) (lo2 := 0) ⟨by simp [failC], .inl ⟨_, _, rfl, rfl⟩⟩)
      unfold chgV failC at HAP
      dsimp only at HAP
      have HX0 := hide hX0
      have dA : X0.cell? ⟨w.heap.size, 0, none⟩ = some (.slice (some ⟨b, off, none⟩) n ck) := HA0.out.cell 0 (by simp)
      by_cases hst : s.state = 1
      · have hq : (s.state == 1) = true := by simpa using hst
        have HST : Hid (applyP (failK xs k) (failC s) = (failK xs (k + 1), 0)) := by
          have := fail_step HTK.out hkx (by rw [hs]; exact hst)
          rw [hs] at this
          exact this
        unfold failC at HST
        rw [HST.out] at HAP
        unfold ApPost at HAP
        dsimp only at HAP
        clear hs hat hreads hel hrows hbx hX0 hsB hnr hst
        go_upto_region 5 with fail
        (try rw [HX0.out])
        clear g0 g1 g2 g3 g4 g5 g6 d0
        go_wp2_with fail
        refine HAP.out.mono ?_
        rintro e V1 ⟨t, rfl, ⟨qs, hte, hqs⟩, hb1⟩
        obtain ⟨at1, ct1, et⟩ := hte.at_form hqs
        rw [failK_len, HN.out] at et
        subst et
        have HTE : Hid (∃ ps, TE base V1 (.slice at1 n ct1) ps ∧ ps.map Prod.fst = failK xs (k + 1)) := ⟨qs, hte.low (by have := HB0.out.size; omega), hqs⟩
        have HA1 := hide (HA0.out.below hb1)
        have HR1 := hide (HR0.out.below hb1)
        have HB1 := hide (bjoin hb1 HB0.out)
        have c0 : V1.cell? ⟨w.heap.size, 0, none⟩ = some (.slice (some ⟨b, off, none⟩) n ck) := HA1.out.cell 0 (by simp)
        have f0 := HA1.out.frozen 0
        have l0 := HA1.out.lt
        have HFIN : Hid (Box (V1.setCell ⟨w.heap.size, 0, none⟩ (.slice at1 n ct1)) w.heap.size 24 #[.slice at1 n ct1] ∧ Box (V1.setCell ⟨w.heap.size, 0, none⟩ (.slice at1 n ct1)) (w.heap.size + 1) 24 #[.slice none 0 0] ∧ (∃ ps, TE base (V1.setCell ⟨w.heap.size, 0, none⟩ (.slice at1 n ct1)) (.slice at1 n ct1) ps ∧ ps.map Prod.fst = failK xs (k + 1)) ∧ Below w.heap.size w (V1.setCell ⟨w.heap.size, 0, none⟩ (.slice at1 n ct1))) := by
          refine ⟨by have := HA1.out.set 0 (.slice at1 n ct1); simpa using this, HR1.out.other (by simp) _, ?_, HB1.out.setCell (p := ⟨w.heap.size, 0, none⟩) (Nat.le_refl _) _⟩
          obtain ⟨ps, h, he⟩ := HTE.out
          exact ⟨ps, h.setBox HA1.out _, he⟩
        clear hte hqs hb1 k0 k1 k4 dA
        go_wp2_with fail
        go_roundg (n - (k + 1))
        case measure => omega
        case rel => exact ⟨k + 1, _, _, by omega, rfl, by go_num, HFIN.out.1, HFIN.out.2.1, HFIN.out.2.2.1, HFIN.out.2.2.2⟩
      · have hq : (s.state == 1) = false := by simpa using hst
        have HKP : Hid (failK xs (k + 1) = failK xs k) := failK_keep xs k hkx (by rw [hs]; exact hst)
        clear hs hat hreads hel hrows hbx hX0 hsB hnr hst
        go_upto_region 5 with fail
        (try rw [HX0.out])
        clear g0 g1 g2 g3 g4 g5 g6 d0
        go_wp2_with fail
        go_roundg (n - (k + 1))
        case measure => omega
        case rel => exact ⟨k + 1, _, _, by omega, rfl, by go_num, HA0.out, HR0.out, by rw [HKP.out]; exact HV0.out, HB0.out⟩
    · obtain rfl : k = n := by omega
      have hki : ¬ (k : Int) < (k : Int) := by omega
      have r0 : Y.cell? ⟨w.heap.size + 1, 0, none⟩ = some (.slice none 0 0) := HR.out.cell 0 (by simp)
      have rf := HR.out.frozen 0
      have rl := HR.out.lt
      have HFIN : Hid ((∃ ps, TE base (Y.setCell ⟨w.heap.size + 1, 0, none⟩ (.slice ak k ck)) (.slice ak k ck) ps ∧ ps.map Prod.fst = failT xs) ∧ Below w.heap.size w (Y.setCell ⟨w.heap.size + 1, 0, none⟩ (.slice ak k ck))) := by
        refine ⟨?_, HB.out.setCell (p := ⟨w.heap.size + 1, 0, none⟩) (Nat.le_succ _) _⟩
        obtain ⟨ps, h, he⟩ := HV.out
        exact ⟨ps, h.setBox HR.out _, by rw [he, ← failK_all, HN.out]⟩
      go_wp2_with fail
      exact bodyPost_ret (v := .agg #[.slice ak k ck]) (by simp [results, Tryz.results11, go_sem, r0, rl]) rfl ⟨_, rfl, HFIN.out.1, HFIN.out.2⟩
end Go.Proofs.YtpmnepalchgcbaaGreatDoor.Msg

namespace Go.Proofs.YtpmnepalchgcbaaGreatDoor.Msg
open Go.ChangeShapes Go.WideShapes Go.ChangeAt Go.RowKit
set_option linter.unusedVariables false
set_option linter.unusedSimpArgs false

theorem showI_any (n : Int) (h0 : 0 ≤ n) (h1 : n ≤ 9223372036854775807) (w : World) :
    Calls Tryz.prog 52 #[.int .i64 n] w fun e w' => e = .returned (.string (decT n.toNat)) ∧ Below w.heap.size w w' := by
  have h := show_any n.toNat w (by omega)
  rw [Int.toNat_of_nonneg h0] at h
  exact h
theorem decT_size (n : Int) (h1 : n < 1000) : (decT n.toNat).size ≤ 3 := by
  unfold decT
  have := dec_len 2 n.toNat (by omega)
  show (Lib.decDigits n.toNat).toArray.size ≤ 3
  simp
  omega
theorem Buf.empty_at (base : Nat) (w : World) (h : base ≤ w.heap.size) : Buf base (w.alloc (Obj.cells #[] 5)) (.slice (some ⟨w.heap.size, 0, none⟩) 0 0) [] :=
  World.ownsRow_lit (base := base) w #[] 0 h (by unfold maxLen; omega) rfl
theorem data_add (a b : ByteArray) : (a ++ b).data.toList = a.data.toList ++ b.data.toList := by simp
theorem tail_step (rows : List ByteArray) (k : Nat) (h : k < rows.length) : tailNL ((rows.take (k + 1)).map (·.data.toList)) = tailNL ((rows.take k).map (·.data.toList)) ++ (10 :: rows[k].data.toList) := by
  unfold tailNL
  rw [List.take_succ_eq_append_getElem h, List.map_append]
  unfold Lib.joinTail
  rw [List.map_append, List.flatten_append]
  simp only [List.map_cons, List.map_nil, List.flatten_cons, List.flatten_nil, List.append_nil, List.singleton_append]

theorem lens_le200 : ∀ (l : List (List UInt8)), (∀ q ∈ l, q.length ≤ 200) → Lib.lens l ≤ l.length * 200
  | [], _ => by simp [Lib.lens]
  | q :: r, h => by
    have h1 := lens_le200 r fun a ha => h a (List.mem_cons_of_mem _ ha)
    have h2 := h q (by simp)
    simp only [Lib.lens, List.map_cons, List.sum_cons, List.length_cons, Nat.add_mul, Nat.one_mul] at *
    omega

set_option maxRecDepth 100000 in
set_option maxHeartbeats 8000000 in
theorem encS_any (c : Chg) (v : Value) (w : World) {lo : Nat} (h2 : c.tag.size ≤ 1048576) (h3 : c.query.size ≤ 1048576) (hv : StrsAt lo w v c.rows) :
    Calls Tryz.prog 25 #[chgV c v] w fun e w' => e = .returned (.string (encB c)) ∧ Below w.heap.size w w' := by
  have HOK := hide (fun W hW => changeOk_any c v W (lo := lo) (by omega) (by omega) (At.kept kept_str hv (w' := W) hW))
  obtain ⟨kind, client, tag, query, page, rows, n⟩ := c
  simp only at h2 h3 hv
  have hl := hv.1
  obtain ⟨a, cap, hf, _⟩ := hv.form
  subst hf
  obtain ⟨w1, hw1⟩ : ∃ w1, w.alloc (Obj.cells #[.int .i64 kind, .int .i64 client, .string tag, .string query, .int .i64 page, .slice a rows.length cap, .int .i64 n] 33) = w1 := ⟨_, rfl⟩
  have bw1 : Below w.heap.size w w1 := by rw [← hw1]; exact (Below.refl _ _).alloc (Nat.le_refl _) _
  have sw1 : w1.heap.size = w.heap.size + 1 := by rw [← hw1]; simp
  have KEEP : Hid (∀ X, Below w1.heap.size w1 X → X.cell? ⟨w.heap.size, 0, none⟩ = some (.int .i64 kind) ∧ X.cell? ⟨w.heap.size, 1, none⟩ = some (.int .i64 client) ∧ X.cell? ⟨w.heap.size, 2, none⟩ = some (.string tag) ∧ X.cell? ⟨w.heap.size, 3, none⟩ = some (.string query) ∧ X.cell? ⟨w.heap.size, 4, none⟩ = some (.int .i64 page) ∧ X.cell? ⟨w.heap.size, 5, none⟩ = some (.slice a rows.length cap) ∧ X.cell? ⟨w.heap.size, 6, none⟩ = some (.int .i64 n) ∧ Below w1.heap.size w1 X) := fun X h =>
    ⟨(h.cell (p := ⟨w.heap.size, 0, none⟩) (by rw [sw1]; simp)).trans (by rw [← hw1]; simp), (h.cell (p := ⟨w.heap.size, 1, none⟩) (by rw [sw1]; simp)).trans (by rw [← hw1]; simp), (h.cell (p := ⟨w.heap.size, 2, none⟩) (by rw [sw1]; simp)).trans (by rw [← hw1]; simp), (h.cell (p := ⟨w.heap.size, 3, none⟩) (by rw [sw1]; simp)).trans (by rw [← hw1]; simp), (h.cell (p := ⟨w.heap.size, 4, none⟩) (by rw [sw1]; simp)).trans (by rw [← hw1]; simp), (h.cell (p := ⟨w.heap.size, 5, none⟩) (by rw [sw1]; simp)).trans (by rw [← hw1]; simp), (h.cell (p := ⟨w.heap.size, 6, none⟩) (by rw [sw1]; simp)).trans (by rw [← hw1]; simp), h⟩
  have HOK1 := hide (HOK.out w1 bw1)
  have HBW := hide bw1
  have HV := hide hv
  have HW1 := hide hw1
  clear HOK hv bw1 sw1 hw1
  cases hk : chgB ⟨kind, client, tag, query, page, rows, n⟩
  · have HX : Hid (encB ⟨kind, client, tag, query, page, rows, n⟩ = ⟨#[]⟩) := by unfold encB; rw [hk]; exact rfl
    rw [hk] at HOK1
    show Calls Tryz.prog 25 #[.agg #[.int .i64 kind, .int .i64 client, .string tag, .string query, .int .i64 page, .slice a rows.length cap, .int .i64 n]] w _
    go_enter Tryz.func25, Tryz.ntmps25
    go_wp2_with fail
    rw [HW1.out]
    refine HOK1.out.mono ?_
    rintro e W0 ⟨rfl, hb0⟩
    go_wp2_with fail
    go_ret
    exact ⟨ret_string HX.out.symm, bjoin hb0 HBW.out⟩
  have HX : Hid (encB ⟨kind, client, tag, query, page, rows, n⟩ = ⟨(encL ⟨kind, client, tag, query, page, rows, n⟩).toArray⟩) := by unfold encB; rw [hk]; exact rfl
  have hkk := chgB_kind hk
  have hcc := chgB_client hk
  simp only at hkk hcc
  have HCS := hide (chgB_cases hk)
  have HSK := hide (showI_any kind (by omega) (by omega))
  have HSC := hide (showI_any client (by omega) (by omega))
  obtain ⟨K, hK⟩ : ∃ K, decT kind.toNat = K := ⟨_, rfl⟩
  obtain ⟨CL, hCL⟩ : ∃ CL, decT client.toNat = CL := ⟨_, rfl⟩
  have hKz : K.size ≤ 3 := by rw [← hK]; exact decT_size kind (by omega)
  have hCz : CL.size ≤ 3 := by rw [← hCL]; exact decT_size client (by omega)
  rw [hK] at HSK
  rw [hCL] at HSC
  have HKE := hide hK
  have HCE := hide hCL
  have z1 : ¬ 9223372036854775807 < K.size + 1 := by omega
  have z2 : ¬ 9223372036854775807 < K.size + 1 + CL.size := by omega
  have z3 : ¬ 9223372036854775807 < K.size + 1 + CL.size + 1 := by omega
  have z4 : ¬ 9223372036854775807 < K.size + 1 + CL.size + 1 + tag.size := by omega
  have HLEN : Hid (([] : List UInt8).length + (K ++ ⟨#[10]⟩ ++ CL ++ ⟨#[10]⟩ ++ tag).size ≤ 70368744177664) := by
    show _ ≤ _
    simp only [ByteArray.size_append, List.length_nil]
    have e : (⟨#[10]⟩ : ByteArray).size = 1 := rfl
    omega
  rw [hk] at HOK1
  clear hK hCL
  show Calls Tryz.prog 25 #[.agg #[.int .i64 kind, .int .i64 client, .string tag, .string query, .int .i64 page, .slice a rows.length cap, .int .i64 n]] w _
  go_enter Tryz.func25, Tryz.ntmps25
  go_wp2_with fail
  rw [HW1.out]
  refine HOK1.out.mono ?_
  rintro e W0 ⟨rfl, hb0⟩
  have HB0 := hide hb0
  clear hb0
  go_wp2_with fail
  obtain ⟨D, hwd⟩ : ∃ D, W0.drew = D := ⟨_, rfl⟩
  have hbd0 : Below w1.heap.size w1 W0.drew := bjoin ((Below.refl _ _).drew) HB0.out
  have hD : Below w1.heap.size w1 D := by rw [← hwd]; exact hbd0
  go_region_held3 (fun X => X.cell? ⟨w.heap.size, 0, none⟩ = some (.int .i64 kind) ∧ X.cell? ⟨w.heap.size, 1, none⟩ = some (.int .i64 client) ∧ X.cell? ⟨w.heap.size, 2, none⟩ = some (.string tag) ∧ X.cell? ⟨w.heap.size, 3, none⟩ = some (.string query) ∧ X.cell? ⟨w.heap.size, 4, none⟩ = some (.int .i64 page) ∧ X.cell? ⟨w.heap.size, 5, none⟩ = some (.slice a rows.length cap) ∧ X.cell? ⟨w.heap.size, 6, none⟩ = some (.int .i64 n) ∧ Below w1.heap.size w1 X)
    (first | with_reducible exact KEEP.out _ hbd0 | with_reducible exact KEEP.out _ hD | with_reducible exact KEEP.out _ (hD.alloc hD.size _) | with_reducible exact KEEP.out _ hB1 | with_reducible exact KEEP.out _ (hB1.alloc hB1.size _) | with_reducible exact KEEP.out _ hB2 | with_reducible exact KEEP.out _ (hB2.alloc hB2.size _) | with_reducible exact KEEP.out _ hB3)
    (first
      | (go_at_call 53; have _g := hB2; refine (put_any w1.heap.size [] _ _ _ (by first | with_reducible exact (Buf.empty_at _ D hD.size).keep (bjoin hb2 hb1) | with_reducible exact (Buf.empty_at _ v1 hB1.size).keep hb2 | with_reducible exact Buf.empty_at _ v2 hB2.size) (by first | with_reducible exact hB2.size | with_reducible exact (hB2.alloc hB2.size _).size) HLEN.out).mono ?_; rintro e v3 ⟨u3, rfl, hO3, hg3⟩; have hB3 : Below w1.heap.size w1 v3 := (by first | exact hB2.trans (hg3.below (by first | exact hB1.size | exact hD.size) hB2.size) | exact (hB2.alloc hB2.size _).trans (hg3.below (by exact hB2.size) (hB2.alloc hB2.size _).size)))
      | (go_at_call 52; have _g := hB1; refine (HSC.out _).mono ?_; rintro e v2 ⟨rfl, hb2⟩; have hB2 : Below w1.heap.size w1 v2 := bjoin hb2 (by first | exact hB1 | exact hB1.alloc hB1.size _))
      | (go_at_call 52; refine (HSK.out _).mono ?_; rintro e v1 ⟨rfl, hb1⟩; have hB1 : Below w1.heap.size w1 v1 := bjoin hb1 (by first | exact hD | exact hD.alloc hD.size _)))
  all_goals
    obtain ⟨L0, hL0⟩ : ∃ L0, [] ++ (K ++ ⟨#[10]⟩ ++ CL ++ ⟨#[10]⟩ ++ tag).data.toList = L0 := ⟨_, rfl⟩
    rw [hL0] at hO3
    have hL0z : L0.length ≤ 1048600 := by
      rw [← hL0]
      simp only [List.nil_append, ByteArray.size_append, Array.length_toList, ByteArray.size_data]
      have e : (⟨#[10]⟩ : ByteArray).size = 1 := rfl
      omega
    have HLE : Hid (encL ⟨kind, client, tag, query, page, rows, n⟩ = L0 ++ tailNL (chgMore ⟨kind, client, tag, query, page, rows, n⟩)) := by
      show _ = _
      rw [encL_eq, ← hL0, ← HKE.out, ← HCE.out]
      simp [decT]
    have HO3 := hide hO3
    have HB3 := hide hB3
    have HROW : Hid (∀ r ∈ rows, r.size ≤ 200) := by
      show ∀ r ∈ rows, r.size ≤ 200
      rcases HCS.out with ⟨_, _, _, _, e, _⟩ | ⟨_, _, _, _, e, _⟩ | ⟨_, _, _, e, _, _⟩ | ⟨_, _, _, e, _⟩
      · (try simp only at e); rw [e]; intro r hr; cases hr
      · exact e
      · (try simp only at e); rw [e]; intro r hr; cases hr
      · (try simp only at e); rw [e]; intro r hr; cases hr
    have HRL : Hid (rows.length ≤ 200) := by
      show rows.length ≤ 200
      rcases HCS.out with ⟨_, _, _, _, e, _⟩ | ⟨_, _, _, e, _, _⟩ | ⟨_, _, _, e, _, _⟩ | ⟨_, _, _, e, _⟩
      · (try simp only at e); rw [e]; simp
      · exact e
      · (try simp only at e); rw [e]; simp
      · (try simp only at e); rw [e]; simp
    have HTZ : Hid (∀ k, k ≤ rows.length → (tailNL ((rows.take k).map (·.data.toList))).length ≤ 100000) := fun k hk => by
      unfold tailNL
      rw [Lib.joinTail_length]
      have h1 := lens_le200 ((rows.take k).map (·.data.toList)) (fun q hq => by
        obtain ⟨r, hr, rfl⟩ := List.mem_map.1 hq
        have := HROW.out r (List.mem_of_mem_take hr)
        simpa using this)
      have h2 := HRL.out
      simp only [List.length_map, List.length_take, List.length_cons, List.length_nil] at *
      omega
    clear hL0 hO3 hB3 hg3
    by_cases k1 : kind = 1
    · have HC1 : Hid (query.size ≤ 200 ∧ 1 ≤ page ∧ page ≤ 50 ∧ rows = []) := by
        show _ ∧ _ ∧ _ ∧ _
        rcases HCS.out with ⟨e1, e2, e3, e4, e5, _⟩ | ⟨e1, _⟩ | ⟨e1, _⟩ | ⟨e1, _⟩
        · exact ⟨e2, e3, e4, e5⟩
        · (try simp only at e1); omega
        · (try simp only at e1); omega
        · (try simp only at e1); omega
      have hpg := HC1.out.2
      have hqz := HC1.out.1
      have HSP := hide (showI_any page (by omega) (by omega))
      obtain ⟨PT, hPT⟩ : ∃ PT, decT page.toNat = PT := ⟨_, rfl⟩
      have hPz : PT.size ≤ 3 := by rw [← hPT]; exact decT_size page (by omega)
      rw [hPT] at HSP
      have HLE1 : Hid (encL ⟨kind, client, tag, query, page, rows, n⟩ = L0 ++ (⟨#[10]⟩ ++ query ++ ⟨#[10]⟩ ++ PT : ByteArray).data.toList) := by
        show _ = _
        rw [HLE.out, ← hPT]
        unfold chgMore
        rw [if_pos k1]
        simp [tailNL, Lib.joinTail, decT]
      have z5 : ¬ 9223372036854775807 < 1 + query.size := by omega
      have z6 : ¬ 9223372036854775807 < 1 + query.size + 1 := by omega
      have z7 : ¬ 9223372036854775807 < 1 + query.size + 1 + PT.size := by omega
      have HPT := hide (fun W hO hS => put_any w1.heap.size L0 (⟨#[10]⟩ ++ query ++ ⟨#[10]⟩ ++ PT) u3 W hO hS (by simp only [ByteArray.size_append] at *; have e : (⟨#[10]⟩ : ByteArray).size = 1 := rfl; omega))
      clear hPT hpg
      obtain ⟨f0, f1, f2, f3, f4, f5, f6, _⟩ := KEEP.out v3 HB3.out
      go_wp2_with fail
      clear f0 f1 f2 f3 f4 f5 f6
      obtain ⟨D2, hwd2⟩ : ∃ D2, v3.drew = D2 := ⟨_, rfl⟩
      have hbd2 : Below v3.heap.size v3 v3.drew := (Below.refl _ _).drew
      have hbd2' : Below w1.heap.size w1 v3.drew := bjoin hbd2 HB3.out
      have hD2 : Below v3.heap.size v3 D2 := by rw [← hwd2]; exact hbd2
      have hD2' : Below w1.heap.size w1 D2 := bjoin hD2 HB3.out
      go_region_held3 (fun X => X.cell? ⟨w.heap.size, 0, none⟩ = some (.int .i64 kind) ∧ X.cell? ⟨w.heap.size, 1, none⟩ = some (.int .i64 client) ∧ X.cell? ⟨w.heap.size, 2, none⟩ = some (.string tag) ∧ X.cell? ⟨w.heap.size, 3, none⟩ = some (.string query) ∧ X.cell? ⟨w.heap.size, 4, none⟩ = some (.int .i64 page) ∧ X.cell? ⟨w.heap.size, 5, none⟩ = some (.slice a rows.length cap) ∧ X.cell? ⟨w.heap.size, 6, none⟩ = some (.int .i64 n) ∧ Below w1.heap.size w1 X)
        (first | with_reducible exact KEEP.out _ hbd2' | with_reducible exact KEEP.out _ hD2' | with_reducible exact KEEP.out _ hB4 | with_reducible exact KEEP.out _ hB5)
        (first
          | (go_at_call 53; have _g := hB4; refine (HPT.out _ (HO3.out.keep (bjoin hb4 hD2)) hB4.size).mono ?_; rintro e v5 ⟨u5, rfl, hO5, hg5⟩; have hB5 : Below w1.heap.size w1 v5 := hB4.trans (hg5.below (HO3.out.keep (bjoin hb4 hD2)).own hB4.size))
          | (go_at_call 52; refine (HSP.out _).mono ?_; rintro e v4 ⟨rfl, hb4⟩; have hB4 : Below w1.heap.size w1 v4 := bjoin hb4 hD2'))
      obtain ⟨L1, hL1⟩ : ∃ L1, L0 ++ (⟨#[10]⟩ ++ query ++ ⟨#[10]⟩ ++ PT : ByteArray).data.toList = L1 := ⟨_, rfl⟩
      have hL1z : L1.length ≤ 2097300 := by
        rw [← hL1]
        simp only [List.length_append, ByteArray.size_append, Array.length_toList, ByteArray.size_data] at *
        have e : (⟨#[10]⟩ : ByteArray).size = 1 := rfl
        omega
      rw [hL1] at hO5 HLE1
      have HO5 := hide hO5
      have HB5 := hide hB5
      have HTL : Hid (∀ k, k ≤ rows.length → (L1 ++ tailNL ((rows.take k).map (·.data.toList))).length ≤ 4000000) := fun k hk => by have := HTZ.out k hk; rw [List.length_append]; omega
      have HE1 : Hid ((⟨(encL ⟨kind, client, tag, query, page, rows, n⟩).toArray⟩ : ByteArray) = ⟨(L1 ++ tailNL (rows.map (·.data.toList))).toArray⟩) := by
        show _ = _
        rw [HLE1.out, HC1.out.2.2.2]
        simp [tailNL, Lib.joinTail]
      clear hL1 hO5 hg5 hwd2 hbd2 hbd2' hD2 hD2'
      go_wp2_with fail
      go_loopg [3, 4] rows.length (fun q x i wr => ∃ (k : Nat) (u : Value), k ≤ rows.length ∧ q = rows.length - k ∧ i = .int .i64 (k : Int) ∧ u = x ∧ Buf w1.heap.size wr u (L1 ++ tailNL ((rows.take k).map (·.data.toList))) ∧ Below w1.heap.size w1 wr)
      case atStart => exact ⟨0, _, Nat.zero_le _, rfl, rfl, rfl, by simpa [tailNL, Lib.joinTail] using HO5.out, HB5.out⟩
      case round =>
        obtain ⟨k, u, hkl, rfl, rfl, rfl, hOk, hbk⟩ := hrel
        obtain ⟨f0, f1, f2, f3, f4, f5, f6, _⟩ := KEEP.out wr hbk
        have HOk := hide hOk
        have HBk := hide hbk
        have hwrs := hbk.size
        clear hOk hbk
        by_cases hlt : k < rows.length
        · have hki : (k : Int) < (rows.length : Int) := by omega
          obtain ⟨a', cap', he', hcs⟩ := (At.kept kept_str HV.out (bjoin HBk.out HBW.out)).form
          injection he' with he1 _ he2
          subst he1 he2
          obtain ⟨b, off, rfl, _, hbl, hcell, hsz⟩ := hcs k hlt
          rw [Nat.mul_one] at hcell
          have HTS := hide (tail_step rows k hlt)
          have hrz : rows[k].size ≤ 200 := HROW.out rows[k] (List.getElem_mem _)
          obtain ⟨x, hx⟩ : ∃ x, rows[k] = x := ⟨_, rfl⟩
          rw [hx] at hcell HTS hrz
          have z9 : ¬ 9223372036854775807 < 1 + x.size := by omega
          have HPT := hide (fun W hO hS => put_any w1.heap.size (L1 ++ tailNL ((rows.take k).map (·.data.toList))) (⟨#[10]⟩ ++ x) u W hO hS (by have := HTL.out k hkl; simp only [List.length_append, ByteArray.size_append] at *; have e : (⟨#[10]⟩ : ByteArray).size = 1 := rfl; omega))
          clear hx hsz hcs
          go_wp2_with (first | (go_at_call 53; refine (HPT.out _ HOk.out hwrs).mono ?_; rintro e v5 ⟨u5, rfl, hO5, hg5⟩))
          have hB5 : Below w1.heap.size w1 v5 := HBk.out.trans (hg5.below HOk.out.own hwrs)
          have HFIN : Hid (Buf w1.heap.size v5 u5 (L1 ++ tailNL ((rows.take (k + 1)).map (·.data.toList)))) := by show Buf _ _ _ _; rw [HTS.out, ← List.append_assoc]; simpa using hO5
          clear hO5 hg5
          go_roundg (rows.length - (k + 1))
          case measure => omega
          case rel => exact ⟨k + 1, _, by omega, rfl, by go_num, rfl, HFIN.out, hB5⟩
        · obtain rfl : k = rows.length := by omega
          have hki : ¬ (rows.length : Int) < (rows.length : Int) := by omega
          have HON : Hid (Buf w1.heap.size wr u (L1 ++ tailNL (rows.map (·.data.toList)))) := by have := HOk.out; rw [List.take_length] at this; exact this
          have hcv := HON.out.string
          have HFX : Hid (encB ⟨kind, client, tag, query, page, rows, n⟩ = ⟨(L1 ++ tailNL (rows.map (·.data.toList))).toArray⟩) := by show _ = _; rw [HX.out]; exact HE1.out
          go_wp2_with fail
          go_ret
          exact ⟨ret_string (by first | rw [HFX.out] | (have h := HFX.out; rw [k1] at h; exact h.symm)), bjoin HBk.out HBW.out⟩
    · have HTL : Hid (∀ k, k ≤ rows.length → (L0 ++ tailNL ((rows.take k).map (·.data.toList))).length ≤ 4000000) := fun k hk => by have := HTZ.out k hk; rw [List.length_append]; omega
      have HN4 : Hid (kind = 4 → 0 ≤ n ∧ n ≤ 200) := fun k4 => by
        rcases HCS.out with ⟨e1, _⟩ | ⟨e1, _⟩ | ⟨_, _, _, _, e5, e6⟩ | ⟨e1, _⟩
        · (try simp only at e1); omega
        · (try simp only at e1); omega
        · exact ⟨e5, e6⟩
        · (try simp only at e1); omega
      have HE2 : Hid (kind = 4 → encL ⟨kind, client, tag, query, page, rows, n⟩ = L0 ++ tailNL (rows.map (·.data.toList)) ++ (⟨#[10]⟩ ++ decT n.toNat : ByteArray).data.toList) := fun k4 => by
        have hr : rows = [] := by
          rcases HCS.out with ⟨e1, _⟩ | ⟨e1, _⟩ | ⟨_, _, _, e4, _⟩ | ⟨e1, _⟩
          · (try simp only at e1); omega
          · (try simp only at e1); omega
          · exact e4
          · (try simp only at e1); omega
        rw [HLE.out, hr]
        unfold chgMore
        rw [if_neg k1, if_neg (by simp only; omega), if_pos k4]
        simp [tailNL, Lib.joinTail, decT]
      have HE3 : Hid (¬ kind = 4 → encL ⟨kind, client, tag, query, page, rows, n⟩ = L0 ++ tailNL (rows.map (·.data.toList))) := fun k4 => by
        rw [HLE.out]
        unfold chgMore
        rw [if_neg k1]
        rcases HCS.out with ⟨e1, _⟩ | ⟨e1, _⟩ | ⟨e1, _⟩ | ⟨_, _, _, e4, _⟩
        · exact absurd e1 k1
        · rw [if_pos e1]
        · exact absurd e1 k4
        · (try simp only at e4)
          subst e4
          rw [if_neg k4]
          split <;> rfl
      obtain ⟨f0, f1, f2, f3, f4, f5, f6, _⟩ := KEEP.out v3 HB3.out
      have k1b : (kind == 1) = false := by simpa using k1
      go_wp2_with fail
      clear f0 f1 f2 f3 f4 f5 f6
      go_loopg [3, 4] rows.length (fun q x i wr => ∃ (k : Nat) (u : Value), k ≤ rows.length ∧ q = rows.length - k ∧ i = .int .i64 (k : Int) ∧ u = x ∧ Buf w1.heap.size wr u (L0 ++ tailNL ((rows.take k).map (·.data.toList))) ∧ Below w1.heap.size w1 wr)
      case atStart => exact ⟨0, _, Nat.zero_le _, rfl, rfl, rfl, by simpa [tailNL, Lib.joinTail] using HO3.out, HB3.out⟩
      case round =>
        obtain ⟨k, u, hkl, rfl, rfl, rfl, hOk, hbk⟩ := hrel
        obtain ⟨f0, f1, f2, f3, f4, f5, f6, _⟩ := KEEP.out wr hbk
        have HOk := hide hOk
        have HBk := hide hbk
        have hwrs := hbk.size
        clear hOk hbk
        by_cases hlt : k < rows.length
        · have hki : (k : Int) < (rows.length : Int) := by omega
          obtain ⟨a', cap', he', hcs⟩ := (At.kept kept_str HV.out (bjoin HBk.out HBW.out)).form
          injection he' with he1 _ he2
          subst he1 he2
          obtain ⟨b, off, rfl, _, hbl, hcell, hsz⟩ := hcs k hlt
          rw [Nat.mul_one] at hcell
          have HTS := hide (tail_step rows k hlt)
          have hrz : rows[k].size ≤ 200 := HROW.out rows[k] (List.getElem_mem _)
          obtain ⟨x, hx⟩ : ∃ x, rows[k] = x := ⟨_, rfl⟩
          rw [hx] at hcell HTS hrz
          have z9 : ¬ 9223372036854775807 < 1 + x.size := by omega
          have HPT := hide (fun W hO hS => put_any w1.heap.size (L0 ++ tailNL ((rows.take k).map (·.data.toList))) (⟨#[10]⟩ ++ x) u W hO hS (by have := HTL.out k hkl; simp only [List.length_append, ByteArray.size_append] at *; have e : (⟨#[10]⟩ : ByteArray).size = 1 := rfl; omega))
          clear hx hsz hcs
          go_wp2_with (first | (go_at_call 53; refine (HPT.out _ HOk.out hwrs).mono ?_; rintro e v5 ⟨u5, rfl, hO5, hg5⟩))
          have hB5 : Below w1.heap.size w1 v5 := HBk.out.trans (hg5.below HOk.out.own hwrs)
          have HFIN : Hid (Buf w1.heap.size v5 u5 (L0 ++ tailNL ((rows.take (k + 1)).map (·.data.toList)))) := by show Buf _ _ _ _; rw [HTS.out, ← List.append_assoc]; simpa using hO5
          clear hO5 hg5
          go_roundg (rows.length - (k + 1))
          case measure => omega
          case rel => exact ⟨k + 1, _, by omega, rfl, by go_num, rfl, HFIN.out, hB5⟩
        · obtain rfl : k = rows.length := by omega
          have hki : ¬ (rows.length : Int) < (rows.length : Int) := by omega
          have HON : Hid (Buf w1.heap.size wr u (L0 ++ tailNL (rows.map (·.data.toList)))) := by have := HOk.out; rw [List.take_length] at this; exact this
          by_cases k4 : kind = 4
          · have hcv4 : True := trivial
            have HSN := hide (showI_any n (by have := HN4.out k4; omega) (by have := HN4.out k4; omega))
            obtain ⟨NT, hNT⟩ : ∃ NT, decT n.toNat = NT := ⟨_, rfl⟩
            have hNz : NT.size ≤ 3 := by rw [← hNT]; exact decT_size n (by have := HN4.out k4; omega)
            rw [hNT] at HSN
            have HE4 : Hid (encL ⟨kind, client, tag, query, page, rows, n⟩ = L0 ++ tailNL (rows.map (·.data.toList)) ++ (⟨#[10]⟩ ++ NT : ByteArray).data.toList) := by rw [← hNT]; exact HE2.out k4
            clear hNT
            have z8 : ¬ 9223372036854775807 < 1 + NT.size := by omega
            have HPT := hide (fun W hO hS => put_any w1.heap.size (L0 ++ tailNL (rows.map (·.data.toList))) (⟨#[10]⟩ ++ NT) u W hO hS (by have := HTL.out rows.length (Nat.le_refl _); rw [List.take_length] at this; simp only [List.length_append, ByteArray.size_append] at *; have e : (⟨#[10]⟩ : ByteArray).size = 1 := rfl; omega))
            go_wp2_with (first | (go_at_call 52; refine (HSN.out _).mono ?_; rintro e v6 ⟨rfl, hb6⟩) | (go_at_call 53; refine (HPT.out _ (HON.out.keep hb6) (Nat.le_trans hwrs hb6.size)).mono ?_; rintro e v7 ⟨u7, rfl, hO7, hg7⟩; have hB7 : Below w1.heap.size w1 v7 := (bjoin hb6 HBk.out).trans (hg7.below (HON.out.keep hb6).own (Nat.le_trans hwrs hb6.size)); have hcv := hO7.string; have HFX : Hid (encB ⟨kind, client, tag, query, page, rows, n⟩ = ⟨(L0 ++ tailNL (rows.map (·.data.toList)) ++ (⟨#[10]⟩ ++ NT : ByteArray).data.toList).toArray⟩) := (by show _ = _; rw [HX.out, HE4.out])))
            go_ret
            exact ⟨ret_string (by rw [HFX.out]; simp), bjoin hB7 HBW.out⟩
          · have HE1 : Hid ((⟨(encL ⟨kind, client, tag, query, page, rows, n⟩).toArray⟩ : ByteArray) = ⟨(L0 ++ tailNL (rows.map (·.data.toList))).toArray⟩) := by show _ = _; rw [HE3.out k4]
            have hcv := HON.out.string
            have HFX : Hid (encB ⟨kind, client, tag, query, page, rows, n⟩ = ⟨(L0 ++ tailNL (rows.map (·.data.toList))).toArray⟩) := by show _ = _; rw [HX.out]; exact HE1.out
            go_wp2_with fail
            go_ret
            exact ⟨ret_string (by first | rw [HFX.out] | (have h := HFX.out; rw [k1] at h; exact h.symm)), bjoin HBk.out HBW.out⟩
end Go.Proofs.YtpmnepalchgcbaaGreatDoor.Msg
