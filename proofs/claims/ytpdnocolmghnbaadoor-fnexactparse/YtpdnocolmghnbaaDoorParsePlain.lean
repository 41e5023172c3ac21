import Derived.Test.YtpdnocolmghnbaaDoorParseBytes
namespace Go.Proofs.YtpdnocolmghnbaaDoor.Msg
open Go.ChangeShapes Go.WideShapes Go.ChangeAt Go.RowKit
set_option linter.unusedVariables false
set_option linter.unusedSimpArgs false

/-- what an escape's letter stands for -/
def escL (c0 c1 c2 c3 c4 : UInt8) (p : List UInt8) : Option (List UInt8) :=
  if p = [70] then some [c0] else if p = [83] then some [c1] else if p = [84] then some [c4] else if p = [82] then some [c2] else if p = [69] then some [c3] else none
def partL (e : List UInt8 → Option (List UInt8)) (i : Nat) (p : List UInt8) : Option (List UInt8) := if i % 2 = 0 then some p else e p
def unescGo (e : List UInt8 → Option (List UInt8)) : Nat → List (List UInt8) → Option (List UInt8)
  | _, [] => some []
  | i, p :: ps => match partL e i p with
    | none => none
    | some t => (unescGo e (i + 1) ps).map (t ++ ·)
/-- a component out of its escaped text; nothing if an escape is not one -/
def plainL (c0 c1 c2 c3 c4 : UInt8) (l : List UInt8) : Option (List UInt8) :=
  if (cutL c3 l).length % 2 = 0 then none else unescGo (escL c0 c1 c2 c3 c4) 0 (cutL c3 l)

theorem txt_append (a b : List UInt8) : txt a ++ txt b = txt (a ++ b) := by
  apply ByteArray.ext
  simp [txt, ByteArray.data_append]
theorem txt_toList (a : List UInt8) : (txt a).toList = a := by
  rw [ByteArray.toList_eq]
  exact txt_data a
theorem txt_one (s : ByteArray) (i : Nat) (h : i < s.size) : s.extract i (i + 1) = txt [s[i]] := by
  rw [txt_extract]
  congr 1
  have hl : i < s.data.toList.length := by simpa using h
  rw [List.take_succ_eq_append_getElem hl, List.drop_append_of_le_length (by rw [List.length_take]; omega), List.drop_eq_nil_of_le (by rw [List.length_take]; omega)]
  rfl
theorem unesc_step {e : List UInt8 → Option (List UInt8)} {ps : List (List UInt8)} {k : Nat} (hk : k < ps.length) {acc t : List UInt8} (h : unescGo e 0 ps = (unescGo e k (ps.drop k)).map (acc ++ ·)) (ht : partL e k ps[k] = some t) :
    unescGo e 0 ps = (unescGo e (k + 1) (ps.drop (k + 1))).map ((acc ++ t) ++ ·) := by
  rw [h, List.drop_eq_getElem_cons hk]
  have e1 : unescGo e k (ps[k] :: ps.drop (k + 1)) = (unescGo e (k + 1) (ps.drop (k + 1))).map (t ++ ·) := by
    conv => lhs; unfold unescGo
    rw [ht]
  rw [e1]
  simp [Option.map_map, Function.comp_def, List.append_assoc]
theorem unesc_fail {e : List UInt8 → Option (List UInt8)} {ps : List (List UInt8)} {k : Nat} (hk : k < ps.length) {acc : List UInt8} (h : unescGo e 0 ps = (unescGo e k (ps.drop k)).map (acc ++ ·)) (ht : partL e k ps[k] = none) : unescGo e 0 ps = none := by
  rw [h, List.drop_eq_getElem_cons hk]
  unfold unescGo
  rw [ht]
  rfl
theorem unesc_done {e : List UInt8 → Option (List UInt8)} {ps : List (List UInt8)} {k : Nat} (hk : ps.length ≤ k) {acc : List UInt8} (h : unescGo e 0 ps = (unescGo e k (ps.drop k)).map (acc ++ ·)) : unescGo e 0 ps = some acc := by
  rw [h, List.drop_eq_nil_of_le hk]
  simp [unescGo]

theorem ret_none {x : Option (List UInt8)} (h : x = none) : Ending.returned (.tuple #[.string ⟨#[]⟩, .bool false]) = .returned (.tuple #[.string (txt (x.getD [])), .bool x.isSome]) := by subst h; rfl
theorem ret_some {x : Option (List UInt8)} {acc : List UInt8} (h : x = some acc) : Ending.returned (.tuple #[.string (txt acc), .bool true]) = .returned (.tuple #[.string (txt (x.getD [])), .bool x.isSome]) := by subst h; rfl

set_option maxRecDepth 100000 in
set_option maxHeartbeats 2000000 in
theorem plainly_any (s d : ByteArray) (w : World) (hs : s.size ≤ 1048576) (hd : d.size = 5) :
    Calls Tryd.prog 24 #[.string s, .string d] w fun e w' => e = .returned (.tuple #[.string (txt ((plainL d[0] d[1] d[2] d[3] d[4] s.data.toList).getD [])), .bool (plainL d[0] d[1] d[2] d[3] d[4] s.data.toList).isSome]) ∧ Below w.heap.size w w' := by
  have hd' : (3 : Int) < (d.size : Int) := by omega
  have hsl : s.data.toList.length = s.size := by simp
  have HL : Hid ((cutL d[3] s.data.toList).length ≤ 1048577) := by have := cutL_len d[3] s.data.toList; show _ ≤ _; omega
  have HZ : Hid (∀ p ∈ cutL d[3] s.data.toList, p.length ≤ 1048576) := fun p hp => by have := cutL_sz d[3] s.data.toList p hp; omega
  have HP : Hid (plainL d[0] d[1] d[2] d[3] d[4] s.data.toList = if (cutL d[3] s.data.toList).length % 2 = 0 then none else unescGo (escL d[0] d[1] d[2] d[3] d[4]) 0 (cutL d[3] s.data.toList)) := rfl
  have hpos := cutL_pos d[3] s.data.toList
  clear hsl
  go_enter Tryd.func24, Tryd.ntmps24
  go_wp2_with fail
  refine (cut_any s d[3] _ hs).mono ?_
  rintro e W1 ⟨u, rfl, hu, hb1⟩
  generalize cutL d[3] s.data.toList = ps at *
  obtain ⟨g, cap, rfl, hg, hgl, hcap, hcm, hcell⟩ := pieces_form hu hpos
  have HC := hide hcell
  have hlen := HL.out
  clear hu hcell
  by_cases hev : ps.length % 2 = 0
  · have hev' : ((ps.length : Int) % 2 == 0) = true := by rw [beq_iff_eq]; omega
    have HN : Hid (Ending.returned (.tuple #[.string ⟨#[]⟩, .bool false]) = .returned (.tuple #[.string (txt ((plainL d[0] d[1] d[2] d[3] d[4] s.data.toList).getD [])), .bool (plainL d[0] d[1] d[2] d[3] d[4] s.data.toList).isSome])) := ret_none <| by rw [HP.out, if_pos hev]
    clear hev
    go_wp2_with fail
    go_ret2
    exact ⟨HN.out, hb1⟩
  have hev' : ((ps.length : Int) % 2 == 0) = false := by rw [beq_eq_false_iff_ne]; omega
  have HP' : Hid (plainL d[0] d[1] d[2] d[3] d[4] s.data.toList = unescGo (escL d[0] d[1] d[2] d[3] d[4]) 0 ps) := by rw [HP.out, if_neg hev]; trivial
  have HRN : Hid (unescGo (escL d[0] d[1] d[2] d[3] d[4]) 0 ps = none → plainL d[0] d[1] d[2] d[3] d[4] s.data.toList = none) := fun h => by rw [HP'.out, h]
  clear hev
  go_wp2_with fail
  go_loop [7, 8] (fun o i => ∃ (k : Nat) (acc : List UInt8), k ≤ ps.length ∧ i = .int .i64 k ∧ o = .string (txt acc) ∧ acc.length ≤ k * 1048577 ∧ unescGo (escL d[0] d[1] d[2] d[3] d[4]) 0 ps = (unescGo (escL d[0] d[1] d[2] d[3] d[4]) k (ps.drop k)).map (acc ++ ·)) (fun _ i => ps.length - (intOf i).toNat)
  case atStart => exact ⟨0, [], Nat.zero_le _, rfl, rfl, Nat.zero_le _, by simp⟩
  case round =>
    obtain ⟨k, acc, hk, rfl, rfl, hal, hE⟩ := hrel
    have HE := hide hE
    clear hE
    have hts : (txt acc).size = acc.length := txt_size acc
    by_cases hlt : k < ps.length
    · have hpc : W1.cell? ⟨g, k, none⟩ = some (.string (txt ps[k])) := (HC.out k hlt).1
      have hpz : (txt ps[k]).size ≤ 1048576 := by rw [txt_size]; exact HZ.out ps[k] (List.getElem_mem hlt)
      have hki : (k : Int) < (ps.length : Int) := by omega
      by_cases hodd : k % 2 = 0
      · have hodd' : ((k : Int) % 2 == 0) = true := by rw [beq_iff_eq]; omega
        have HS := hide (unesc_step hlt HE.out (t := ps[k]) (by unfold partL; rw [if_pos hodd]))
        have HX := hide (txt_append acc ps[k])
        have hpz' : ps[k].length ≤ 1048576 := by rw [← txt_size]; exact hpz
        clear hodd
        go_wp2_with fail
        go_round
        case rel => exact ⟨k + 1, acc ++ ps[k], by omega, by go_num, by rw [HX.out], by rw [List.length_append]; omega, HS.out⟩
        case measure => simp [intOf]; omega
      have hodd' : ((k : Int) % 2 == 0) = false := by rw [beq_eq_false_iff_ne]; omega
      by_cases n70 : ps[k] = [70]
      · have m70 : ((txt ps[k]).toList == [70]) = true := by rw [txt_toList, n70]; rfl
        have HS := hide (unesc_step hlt HE.out (t := [d[0]]) (by unfold partL; rw [if_neg hodd]; unfold escL; rw [if_pos n70]))
        have HX : Hid (txt acc ++ d.extract 0 1 = txt (acc ++ [d[0]])) := by rw [txt_one d 0 (by omega), txt_append]; trivial
        have hx : (d.extract 0 1).size = 1 := by rw [txt_one d 0 (by omega), txt_size]; rfl
        clear n70  hodd
        go_wp2_with fail
        go_round
        case rel => exact ⟨k + 1, acc ++ [d[0]], by omega, by go_num, by rw [HX.out], by rw [List.length_append, List.length_singleton]; omega, HS.out⟩
        case measure => simp [intOf]; omega
      have m70 : ((txt ps[k]).toList == [70]) = false := by rw [txt_toList, beq_eq_false_iff_ne]; exact n70
      by_cases n83 : ps[k] = [83]
      · have m83 : ((txt ps[k]).toList == [83]) = true := by rw [txt_toList, n83]; rfl
        have HS := hide (unesc_step hlt HE.out (t := [d[1]]) (by unfold partL; rw [if_neg hodd]; unfold escL; rw [if_neg n70, if_pos n83]))
        have HX : Hid (txt acc ++ d.extract 1 2 = txt (acc ++ [d[1]])) := by rw [txt_one d 1 (by omega), txt_append]; trivial
        have hx : (d.extract 1 2).size = 1 := by rw [txt_one d 1 (by omega), txt_size]; rfl
        clear n83 n70 hodd
        go_wp2_with fail
        go_round
        case rel => exact ⟨k + 1, acc ++ [d[1]], by omega, by go_num, by rw [HX.out], by rw [List.length_append, List.length_singleton]; omega, HS.out⟩
        case measure => simp [intOf]; omega
      have m83 : ((txt ps[k]).toList == [83]) = false := by rw [txt_toList, beq_eq_false_iff_ne]; exact n83
      by_cases n84 : ps[k] = [84]
      · have m84 : ((txt ps[k]).toList == [84]) = true := by rw [txt_toList, n84]; rfl
        have HS := hide (unesc_step hlt HE.out (t := [d[4]]) (by unfold partL; rw [if_neg hodd]; unfold escL; rw [if_neg n70, if_neg n83, if_pos n84]))
        have HX : Hid (txt acc ++ d.extract 4 5 = txt (acc ++ [d[4]])) := by rw [txt_one d 4 (by omega), txt_append]; trivial
        have hx : (d.extract 4 5).size = 1 := by rw [txt_one d 4 (by omega), txt_size]; rfl
        clear n84 n70 n83 hodd
        go_wp2_with fail
        go_round
        case rel => exact ⟨k + 1, acc ++ [d[4]], by omega, by go_num, by rw [HX.out], by rw [List.length_append, List.length_singleton]; omega, HS.out⟩
        case measure => simp [intOf]; omega
      have m84 : ((txt ps[k]).toList == [84]) = false := by rw [txt_toList, beq_eq_false_iff_ne]; exact n84
      by_cases n82 : ps[k] = [82]
      · have m82 : ((txt ps[k]).toList == [82]) = true := by rw [txt_toList, n82]; rfl
        have HS := hide (unesc_step hlt HE.out (t := [d[2]]) (by unfold partL; rw [if_neg hodd]; unfold escL; rw [if_neg n70, if_neg n83, if_neg n84, if_pos n82]))
        have HX : Hid (txt acc ++ d.extract 2 3 = txt (acc ++ [d[2]])) := by rw [txt_one d 2 (by omega), txt_append]; trivial
        have hx : (d.extract 2 3).size = 1 := by rw [txt_one d 2 (by omega), txt_size]; rfl
        clear n82 n70 n83 n84 hodd
        go_wp2_with fail
        go_round
        case rel => exact ⟨k + 1, acc ++ [d[2]], by omega, by go_num, by rw [HX.out], by rw [List.length_append, List.length_singleton]; omega, HS.out⟩
        case measure => simp [intOf]; omega
      have m82 : ((txt ps[k]).toList == [82]) = false := by rw [txt_toList, beq_eq_false_iff_ne]; exact n82
      by_cases n69 : ps[k] = [69]
      · have m69 : ((txt ps[k]).toList == [69]) = true := by rw [txt_toList, n69]; rfl
        have HS := hide (unesc_step hlt HE.out (t := [d[3]]) (by unfold partL; rw [if_neg hodd]; unfold escL; rw [if_neg n70, if_neg n83, if_neg n84, if_neg n82, if_pos n69]))
        have HX : Hid (txt acc ++ d.extract 3 4 = txt (acc ++ [d[3]])) := by rw [txt_one d 3 (by omega), txt_append]; trivial
        have hx : (d.extract 3 4).size = 1 := by rw [txt_one d 3 (by omega), txt_size]; rfl
        clear n69 n70 n83 n84 n82 hodd
        go_wp2_with fail
        go_round
        case rel => exact ⟨k + 1, acc ++ [d[3]], by omega, by go_num, by rw [HX.out], by rw [List.length_append, List.length_singleton]; omega, HS.out⟩
        case measure => simp [intOf]; omega
      have m69 : ((txt ps[k]).toList == [69]) = false := by rw [txt_toList, beq_eq_false_iff_ne]; exact n69
      have HN : Hid (Ending.returned (.tuple #[.string ⟨#[]⟩, .bool false]) = .returned (.tuple #[.string (txt ((plainL d[0] d[1] d[2] d[3] d[4] s.data.toList).getD [])), .bool (plainL d[0] d[1] d[2] d[3] d[4] s.data.toList).isSome])) := ret_none <| HRN.out (unesc_fail hlt HE.out (by unfold partL; rw [if_neg hodd]; unfold escL; rw [if_neg n70, if_neg n83, if_neg n84, if_neg n82, if_neg n69]))
      clear n70 n83 n84 n82 n69 hodd
      go_wp2_with fail
      go_ret2
      exact ⟨HN.out, hb1⟩
    · have HN : Hid (Ending.returned (.tuple #[.string (txt acc), .bool true]) = .returned (.tuple #[.string (txt ((plainL d[0] d[1] d[2] d[3] d[4] s.data.toList).getD [])), .bool (plainL d[0] d[1] d[2] d[3] d[4] s.data.toList).isSome])) := ret_some <| by rw [HP'.out]; exact unesc_done (by omega) HE.out
      go_wp2_with fail
      go_ret2
      exact ⟨HN.out, hb1⟩
end Go.Proofs.YtpdnocolmghnbaaDoor.Msg
