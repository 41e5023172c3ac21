import Derived.Test.YtcebhdhppjinaabDoorParseTail
namespace Go.Proofs.YtcebhdhppjinaabDoor.Msg
open Go.ChangeShapes Go.WideShapes Go.ChangeAt Go.RowKit
set_option linter.unusedVariables false
set_option linter.unusedSimpArgs false

theorem head_of {s : ByteArray} (h8 : 8 ≤ s.size) (hm : ((s.extract 0 3).toList == [77, 83, 72]) = true) (hd : delimsB (s.extract 3 8) = true) (hs : s.size ≤ 8 ∨ ∃ h8 : 8 < s.size, s[8].toNat = 13 ∨ s[8].toNat = s[3].toNat) : headB s = true := by
  unfold headB
  rw [decide_eq_true h8, hm, hd, Bool.true_and, Bool.true_and, Bool.true_and]
  rcases hs with h | ⟨h, h1⟩
  · rw [decide_eq_true h]; rfl
  · have e8 : s.data.toList[8]? = some s[8] := by rw [List.getElem?_eq_getElem (by simpa using h)]; rfl
    have e3 : s.data.toList[3]? = some s[3] := by rw [List.getElem?_eq_getElem (by simp; omega)]; rfl
    rw [e8, e3]
    rcases h1 with h1 | h1
    · have : s[8] = 13 := UInt8.toNat_inj.1 h1
      rw [this]; simp
    · have : s[8] = s[3] := UInt8.toNat_inj.1 h1
      rw [this]; simp

/-- the specification's Parse -/
theorem parseSpec_any (s : ByteArray) (w : World) (hs : s.size ≤ 1048576) : Calls Tryd.prog 4 #[.string s] w (ParsePost w (parseL s)) := by
  by_cases h12 : s.size = 0 ∨ 40000 < s.size ∨ bytesB s = false
  · exact parseSpec_12 s w hs h12
  · have h0 : s.size ≠ 0 := fun h => h12 (.inl h)
    have h40 : s.size ≤ 40000 := by
      by_cases h : 40000 < s.size
      · exact absurd (.inr (.inl h)) h12
      · omega
    have hby : bytesB s = true := by
      cases h : bytesB s
      · exact absurd (.inr (.inr h)) h12
      · rfl
    by_cases h8 : s.size < 8
    · exact parseSpec_short s w h0 h8 hby
    · cases hm : ((s.extract 0 3).toList == [77, 83, 72])
      · exact parseSpec_msh s w (by omega) h40 hby hm
      · cases hd : delimsB (s.extract 3 8)
        · exact parseSpec_del s w (by omega) h40 hby hm hd
        · by_cases hh : s.size ≤ 8 ∨ ∃ h8 : 8 < s.size, s[8].toNat = 13 ∨ s[8].toNat = s[3].toNat
          · exact parseSpec_good s w h40 hby (head_of (by omega) hm hd hh)
          · have h9 : 8 < s.size := by
              by_cases h : s.size ≤ 8
              · exact absurd (.inl h) hh
              · omega
            exact parseSpec_sep s w h9 h40 hby hm hd (fun h => hh (.inr ⟨h9, .inl h⟩)) (fun h => hh (.inr ⟨h9, .inr h⟩))
end Go.Proofs.YtcebhdhppjinaabDoor.Msg
