import Derived.Test.YtebdfmijlnkcbaaDoorMsgOk
namespace Go.Proofs.YtebdfmijlnkcbaaDoor.Msg
open Go.ChangeShapes Go.WideShapes Go.ChangeAt Go.RowKit
set_option linter.unusedVariables false
set_option linter.unusedSimpArgs false

/-- component number comp (from 1) of the first repetition of the field at a place (from 0) -/
def pick (fs : List Field) (at_ comp : Int) : ByteArray :=
  if at_ < 0 then ⟨#[]⟩ else match fs[at_.toNat]? with
  | none => ⟨#[]⟩
  | some f => match f with
    | [] => ⟨#[]⟩
    | r :: _ => if comp < 1 then ⟨#[]⟩ else r.getD (comp - 1).toNat ⟨#[]⟩
def getFrom (m : List Seg) (name : ByteArray) (field comp : Int) : ByteArray := match m.find? fun s => s.name.toList == name.toList with
  | none => ⟨#[]⟩
  | some s => pick s.fields (field - if mshB name then 3 else 1) comp

theorem wrap_at (field d : Int) (h0 : -9223372036854775808 ≤ field) (h1 : field ≤ 9223372036854775807) (hd0 : 0 ≤ d) (hd : d ≤ 3) :
    ∃ z, wrap64 (field - d) = z ∧ ((0 ≤ field - d ∧ z = field - d) ∨ (field - d < 0 ∧ (z < 0 ∨ 4611686018427387904 ≤ z))) := by
  refine ⟨_, rfl, ?_⟩
  by_cases h : -9223372036854775808 ≤ field - d
  · have e : wrap64 (field - d) = field - d := by unfold wrap64; omega
    rw [e]
    by_cases h2 : 0 ≤ field - d
    · exact .inl ⟨h2, rfl⟩
    · exact .inr ⟨by omega, .inl (by omega)⟩
  · right
    refine ⟨by omega, .inr ?_⟩
    unfold wrap64; omega

theorem find_take {xs : List Seg} {p : Seg → Bool} {k : Nat} (h : k < xs.length) (h1 : ∀ j (hj : j < xs.length), j < k → p xs[j] = false) (h2 : p xs[k] = true) : xs.find? p = some xs[k] := by
  rw [List.find?_eq_some_iff_getElem]
  exact ⟨h2, k, h, rfl, fun j hj => by rw [h1 j (by omega) hj]; rfl⟩
theorem find_none {xs : List Seg} {p : Seg → Bool} (h1 : ∀ j (hj : j < xs.length), p xs[j] = false) : xs.find? p = none := by
  rw [List.find?_eq_none]
  intro x hx
  obtain ⟨j, hj, rfl⟩ := List.getElem_of_mem hx
  simp [h1 j hj]

end Go.Proofs.YtebdfmijlnkcbaaDoor.Msg
