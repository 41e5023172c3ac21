import Derived.Test.YtcphfhfockjljaaGreatDoorParsePieceswithImplPurewithImplStart
namespace Go.Proofs.YtcphfhfockjljaaGreatDoor.Msg
set_option linter.unusedVariables false
set_option linter.unusedSimpArgs false

/-! how great a message that is read is: pure -/
def sm {α : Type} (g : α → Nat) (xs : List α) : Nat := (xs.map g).sum
theorem sm_nil {α : Type} (g : α → Nat) : sm g [] = 0 := rfl
theorem sm_cons {α : Type} (g : α → Nat) (x : α) (xs : List α) : sm g (x :: xs) = g x + sm g xs := by
  unfold sm; rw [List.map_cons, List.sum_cons]
theorem sm_map {α β : Type} (g : β → Nat) (f : α → β) (xs : List α) : sm g (xs.map f) = sm (fun x => g (f x)) xs := by
  unfold sm; rw [List.map_map]; rfl
theorem sm_le {α : Type} {g h : α → Nat} : ∀ (xs : List α), (∀ x ∈ xs, g x ≤ h x) → sm g xs ≤ sm h xs
  | [], _ => Nat.le_refl _
  | x :: xs, H => by
    have h1 := H x (by simp)
    have h2 := sm_le xs fun y hy => H y (by simp [hy])
    rw [sm_cons, sm_cons]
    omega
theorem sm_mul {α : Type} (g : α → Nat) (k : Nat) : ∀ (xs : List α), sm (fun x => k * g x) xs = k * sm g xs
  | [] => rfl
  | x :: xs => by rw [sm_cons, sm_cons, sm_mul g k xs, Nat.mul_add]
theorem sm_take {α : Type} (g : α → Nat) : ∀ (xs : List α) (k : Nat), sm g (xs.take k) ≤ sm g xs
  | [], k => by simp [sm]
  | x :: xs, 0 => by simp [sm]
  | x :: xs, k + 1 => by
    have := sm_take g xs k
    rw [List.take_succ_cons, sm_cons, sm_cons]
    omega
theorem sm_trim {α : Type} (g : α → Nat) (p : α → Bool) (xs : List α) : sm g (trimE p xs) ≤ sm g xs := sm_take g xs _
theorem lenSum_sm {α : Type} (g : α → Nat) : ∀ (xs : List α), lenSum g xs = sm (fun x => g x + 1) xs
  | [] => rfl
  | x :: xs => by
    have h := lenSum_sm g xs
    rw [sm_cons, ← h]
    unfold lenSum sumOf
    rw [List.map_cons, List.sum_cons, List.length_cons]
    omega
theorem sm_all {α β : Type} {f : α → Option β} {g : β → Nat} {h : α → Nat} (H : ∀ x y, f x = some y → g y ≤ h x) : ∀ (xs : List α) (ys : List β), allO f xs = some ys → sm g ys ≤ sm h xs
  | [], ys, e => by simp [allO] at e; subst e; exact Nat.le_refl _
  | x :: xs, ys, e => by
    unfold allO at e
    cases hx : f x with
    | none => rw [hx] at e; cases e
    | some y =>
      rw [hx] at e
      cases hr : allO f xs with
      | none => rw [hr] at e; cases e
      | some zs =>
        rw [hr] at e
        simp only [Option.map_some, Option.some.injEq] at e
        subst e
        have h1 := H x y hx
        have h2 := sm_all H xs zs hr
        rw [sm_cons, sm_cons]
        omega
def ln (p : List UInt8) : Nat := p.length + 1
theorem cutGo_w (c : UInt8) : ∀ (l cur : List UInt8), sm ln (cutGo c cur l) = cur.length + l.length + 1
  | [], cur => by unfold cutGo; rw [sm_cons, sm_nil]; simp [ln]
  | x :: xs, cur => by
    unfold cutGo
    split
    · rw [sm_cons, cutGo_w c xs []]
      simp only [ln, List.length_nil, List.length_cons]
      omega
    · rw [cutGo_w c xs (cur ++ [x])]
      simp only [List.length_append, List.length_cons, List.length_nil]
      omega
theorem cutL_w (c : UInt8) (l : List UInt8) : sm ln (cutL c l) = l.length + 1 := by
  unfold cutL; rw [cutGo_w]; simp
def lnR (r : List (List UInt8)) : Nat := sm ln r + 1
def lnF (f : List (List (List UInt8))) : Nat := sm lnR f + 1
theorem compsL_w (c1 : UInt8) (l : List UInt8) : sm ln (compsL c1 l) ≤ l.length + 1 := by
  have h1 := sm_trim ln List.isEmpty (cutL c1 l)
  rw [cutL_w] at h1
  exact h1
theorem repsL_w (c1 c2 : UInt8) (l : List UInt8) : sm lnR (repsL c1 c2 l) ≤ 2 * (l.length + 1) := by
  have h1 := sm_trim lnR List.isEmpty ((cutL c2 l).map (compsL c1))
  rw [sm_map] at h1
  have h2 : sm (fun x => lnR (compsL c1 x)) (cutL c2 l) ≤ sm (fun x => 2 * ln x) (cutL c2 l) := sm_le _ fun x _ => by
    have := compsL_w c1 x
    show sm ln (compsL c1 x) + 1 ≤ 2 * (x.length + 1)
    omega
  rw [sm_mul, cutL_w] at h2
  exact Nat.le_trans h1 h2
theorem fieldsL_w (c0 c1 c2 : UInt8) (l : List UInt8) : sm lnF (fieldsL c0 c1 c2 l) ≤ 3 * (l.length + 1) := by
  cases l with
  | nil => exact Nat.zero_le _
  | cons x l =>
    have h1 := sm_trim lnF List.isEmpty ((cutL c0 l).map (repsL c1 c2))
    rw [sm_map] at h1
    have h2 : sm (fun x => lnF (repsL c1 c2 x)) (cutL c0 l) ≤ sm (fun x => 3 * ln x) (cutL c0 l) := sm_le _ fun x _ => by
      have := repsL_w c1 c2 x
      show sm lnR (repsL c1 c2 x) + 1 ≤ 3 * (x.length + 1)
      omega
    rw [sm_mul, cutL_w] at h2
    have h3 := Nat.le_trans h1 h2
    rw [List.length_cons]
    exact Nat.le_trans h3 (by omega)
theorem rep_sm (r : List (List UInt8)) : sm (fun c => strSz c + 1) (repT r) = sm ln r := by
  unfold repT
  rw [sm_map]
  have e : (fun x => strSz (txt x) + 1) = ln := funext fun x => by
    show (txt x).size + 1 = x.length + 1
    rw [txt_size]
  rw [e]
theorem plainO_sz {d : ByteArray} {hd : d.size = 5} {t u : ByteArray} (h : plainO d hd t = some u) : strSz u + 1 ≤ strSz t + 1 := by
  unfold plainO at h
  cases hp : plainL d[0] d[1] d[2] d[3] d[4] t.data.toList with
  | none => rw [hp] at h; cases h
  | some z =>
    rw [hp] at h
    simp only [Option.map_some, Option.some.injEq] at h
    subst h
    have h1 := plainL_len hp
    have h2 : t.data.toList.length = t.size := by simp
    show (txt z).size + 1 ≤ t.size + 1
    rw [txt_size]
    omega
theorem plainR_sz {d : ByteArray} {hd : d.size = 5} (t u : Rep) (h : allO (plainO d hd) t = some u) : repSz u + 1 ≤ repSz t + 1 := by
  have h1 := sm_all (fun x y => plainO_sz) t u h
  unfold repSz
  rw [lenSum_sm, lenSum_sm]
  omega
theorem plainF_sz {d : ByteArray} {hd : d.size = 5} (t u : Field) (h : allO (allO (plainO d hd)) t = some u) : fieldSz u + 1 ≤ fieldSz t + 1 := by
  have h1 := sm_all plainR_sz t u h
  unfold fieldSz
  rw [lenSum_sm, lenSum_sm]
  omega
theorem fieldT_sz (f : List (List (List UInt8))) : fieldSz (fieldT f) + 1 = lnF f := by
  unfold fieldSz
  rw [lenSum_sm]
  unfold fieldT lnF
  rw [sm_map]
  have e : (fun x => repSz (repT x) + 1) = lnR := funext fun r => by
    show repSz (repT r) + 1 = sm ln r + 1
    unfold repSz
    rw [lenSum_sm, rep_sm]
  rw [e]
theorem fieldsT_w (d : ByteArray) (hd : d.size = 5) (l : List UInt8) : lenSum fieldSz (fieldsT d hd l) ≤ 3 * (l.length + 1) := by
  rw [lenSum_sm]
  unfold fieldsT
  rw [sm_map]
  have e : (fun x => fieldSz (fieldT x) + 1) = lnF := funext fieldT_sz
  rw [e]
  exact fieldsL_w _ _ _ l
theorem segL_w {d : ByteArray} {hd : d.size = 5} {i : Nat} {p : List UInt8} {x : Seg} (h : segL d hd i p = .ok x) : segSz x + 1 ≤ 7 * ln p := by
  unfold segL at h
  split at h
  · cases h
  · split at h
    · cases h
    · split at h
      · cases h
      · split at h
        · cases h
        · rename_i g hg
          injection h with h
          subst h
          have h1 := sm_all plainF_sz _ _ hg
          have h2 := fieldsT_w d hd (restL i p)
          rw [lenSum_sm] at h2
          have h3 : (restL i p).length ≤ p.length := by
            unfold restL
            split <;> rw [List.length_drop] <;> omega
          have h4 : (txt (p.take 3)).size ≤ 3 := by rw [txt_size, List.length_take]; omega
          show (txt (p.take 3)).size + lenSum fieldSz g + 1 ≤ 7 * (p.length + 1)
          rw [lenSum_sm]
          omega
theorem segsGo_w {d : ByteArray} {hd : d.size = 5} : ∀ (ps : List (List UInt8)) (i : Nat) (xs : List Seg), segsGo d hd i ps = .ok xs → msgSz xs ≤ 7 * sm ln ps
  | [], i, xs, h => by
    unfold segsGo at h
    injection h with h
    subst h
    exact Nat.zero_le _
  | p :: ps, i, xs, h => by
    unfold segsGo at h
    cases hx : segL d hd i p with
    | error c => rw [hx] at h; cases h
    | ok x =>
      rw [hx] at h
      cases hr : segsGo d hd (i + 1) ps with
      | error c => rw [hr] at h; cases h
      | ok zs =>
        rw [hr] at h
        simp only [Except.map, Except.ok.injEq] at h
        subst h
        have h1 := segL_w hx
        have h2 := segsGo_w ps (i + 1) zs hr
        unfold msgSz at h2 ⊢
        rw [lenSum_sm] at h2 ⊢
        rw [sm_cons, sm_cons]
        omega
theorem parseL_w {s : ByteArray} {xs : List Seg} (h : parseL s = .ok xs) : msgSz xs ≤ 1048576 := by
  unfold parseL at h
  split at h
  · cases h
  · rename_i hs
    split at h
    · cases h
    · split at h
      · have h1 := segsGo_w _ _ _ h
        have h2 : sm ln (piecesL s.data.toList) ≤ sm ln (cutL 13 s.data.toList) := by
          unfold piecesL
          split
          · rw [List.dropLast_eq_take]; exact sm_take ln _ _
          · exact Nat.le_refl _
        have h3 := cutL_w 13 s.data.toList
        have h4 : s.data.toList.length = s.size := by simp
        omega
      · cases h
end Go.Proofs.YtcphfhfockjljaaGreatDoor.Msg
