import Derived.Test.YtcphfhfockjljaaDoorMsgEqwithMsgEq2withMsgTo
namespace Go.Proofs.YtcphfhfockjljaaDoor.Msg
open Go.ChangeShapes Go.WideShapes Go.ChangeAt Go.RowKit
set_option linter.unusedVariables false
set_option linter.unusedSimpArgs false

theorem all_step {α : Type} {p : α → Bool} {xs : List α} {k : Nat} (h : k < xs.length) (h1 : (xs.take k).all p = true) (h2 : p xs[k] = true) : (xs.take (k + 1)).all p = true := by
  rw [List.take_succ_eq_append_getElem h, List.all_append, h1]
  simp [h2]
theorem all_fail {α : Type} {p : α → Bool} {xs : List α} {k : Nat} (h : k < xs.length) (h2 : p xs[k] = false) : xs.all p = false := by
  rw [List.all_eq_false]
  exact ⟨xs[k], List.getElem_mem h, by simp [h2]⟩
theorem all_done {α : Type} {p : α → Bool} {xs : List α} {k : Nat} (h : xs.length ≤ k) (h1 : (xs.take k).all p = true) : xs.all p = true := by
  rwa [List.take_of_length_le h] at h1

def plainC (c : UInt8) : Bool := decide (32 ≤ c.toNat) && decide (c.toNat ≤ 126)
def plainB (s : ByteArray) : Bool := s.data.toList.all plainC
def capB (c : UInt8) : Bool := decide (65 ≤ c.toNat) && decide (c.toNat ≤ 90)
def digB (c : UInt8) : Bool := decide (48 ≤ c.toNat) && decide (c.toNat ≤ 57)
/-- a segment name -/
def nameB (s : ByteArray) : Bool := match s.data.toList with
  | [a, b, c] => capB a && ((capB b || digB b) && (capB c || digB c))
  | _ => false
/-- the last of a list is not empty -/
def endB {α : Type} (f : α → Nat) (xs : List α) : Bool := match xs.getLast? with
  | none => true
  | some x => decide (0 < f x)
def repB (r : Rep) : Bool := decide (r.length ≤ 20) && (endB ByteArray.size r && r.all plainB)
def fieldB (f : Field) : Bool := decide (f.length ≤ 30) && (endB List.length f && f.all repB)
def mshB (s : ByteArray) : Bool := s.toList == [77, 83, 72]
def segB (first : Bool) (s : Seg) : Bool := nameB s.name && ((mshB s.name == first) && (decide (s.fields.length ≤ 30) && (endB List.length s.fields && s.fields.all fieldB)))
def shapeB (m : List Seg) : Bool := decide (1 ≤ m.length) && (decide (m.length ≤ 250) && m.zipIdx.all fun p => segB (p.2 == 0) p.1)

theorem endB_at {α : Type} (f : α → Nat) (xs : List α) (h : 0 < xs.length) : endB f xs = decide (0 < f xs[xs.length - 1]) := by
  unfold endB
  rw [List.getLast?_eq_getElem?, List.getElem?_eq_getElem (by omega)]
theorem endB_nil {α : Type} (f : α → Nat) (xs : List α) (h : xs.length = 0) : endB f xs = true := by
  rw [List.length_eq_zero_iff] at h
  subst h
  rfl

set_option maxHeartbeats 400000 in
theorem capital_any (c : UInt8) (w : World) :
    Calls Tryd.prog 71 #[.int .u8 (c.toNat : Int)] w fun e w' => e = .returned (.bool (capB c)) ∧ w' = w := by
  have HC : Hid (capB c = (decide (65 ≤ c.toNat) && decide (c.toNat ≤ 90))) := rfl
  by_cases h1 : (65 : Int) ≤ (c.toNat : Int)
  · by_cases h2 : (c.toNat : Int) ≤ 90
    · go_enter Tryd.func71, Tryd.ntmps71
      go_wp2
      go_ret
      exact ⟨ret_bool (by rw [HC.out, decide_eq_true (by omega), decide_eq_true (by omega)]; rfl), rfl⟩
    · go_enter Tryd.func71, Tryd.ntmps71
      go_wp2
      go_ret
      exact ⟨ret_bool (by rw [HC.out, decide_eq_false (p := c.toNat ≤ 90) (by omega), Bool.and_false]), rfl⟩
  · go_enter Tryd.func71, Tryd.ntmps71
    go_wp2
    go_ret
    exact ⟨ret_bool (by rw [HC.out, decide_eq_false (p := 65 ≤ c.toNat) (by omega)]; rfl), rfl⟩

set_option maxHeartbeats 400000 in
theorem plain_any (s : ByteArray) (w : World) (hs : s.size ≤ 9223372036854775807) :
    Calls Tryd.prog 83 #[.string s] w fun e w' => e = .returned (.bool (plainB s)) ∧ w' = w := by
  go_enter Tryd.func83, Tryd.ntmps83
  go_wp2
  go_loop [3] (fun i => ∃ k : Nat, k ≤ s.size ∧ i = .int .i64 k ∧ (s.data.toList.take k).all plainC = true) (fun i => s.size - (intOf i).toNat)
  case atStart => exact ⟨0, Nat.zero_le _, rfl, rfl⟩
  case round =>
    obtain ⟨k, hk, rfl, hall⟩ := hrel
    have HA := hide hall
    clear hall
    have hsz : s.data.toList.length = s.size := by simp
    by_cases hlt : k < s.size
    · have HK : Hid (∀ h, s.data.toList[k]'h = s[k]) := fun h => rfl
      have HP : Hid (plainC s[k] = (decide (32 ≤ s[k].toNat) && decide (s[k].toNat ≤ 126))) := rfl
      by_cases h1 : (s[k].toNat : Int) < 32
      · have HF : Hid (plainC s[k] = false) := by rw [HP.out, decide_eq_false (by omega)]; rfl
        have HZ := hide (all_fail (p := plainC) (xs := s.data.toList) (k := k) (by omega) (by rw [HK.out]; exact HF.out))
        clear hsz
        go_wp2
        go_ret
        exact ⟨ret_bool HZ.out.symm, rfl⟩
      · by_cases h2 : (126 : Int) < (s[k].toNat : Int)
        · have HF : Hid (plainC s[k] = false) := by rw [HP.out, decide_eq_false (p := s[k].toNat ≤ 126) (by omega), Bool.and_false]; trivial
          have HZ := hide (all_fail (p := plainC) (xs := s.data.toList) (k := k) (by omega) (by rw [HK.out]; exact HF.out))
          clear hsz
          go_wp2
          go_ret
          exact ⟨ret_bool HZ.out.symm, rfl⟩
        · have HF : Hid (plainC s[k] = true) := by rw [HP.out, decide_eq_true (by omega), decide_eq_true (by omega)]; rfl
          have HZ := hide (all_step (p := plainC) (xs := s.data.toList) (k := k) (by omega) HA.out (by rw [HK.out]; exact HF.out))
          clear hsz
          go_wp2
          go_round
          case rel => exact ⟨k + 1, by omega, by go_num, HZ.out⟩
          case measure => simp [intOf]; omega
    · have HZ := hide (all_done (by omega) HA.out)
      clear hsz
      go_wp2
      go_ret
      exact ⟨ret_bool HZ.out.symm, rfl⟩

theorem name_no (s : ByteArray) (h : s.size ≠ 3) : nameB s = false := by
  unfold nameB
  split
  · rename_i a b c he
    have : s.data.toList.length = 3 := by rw [he]; rfl
    simp at this
    exact absurd this h
  · rfl
theorem name_yes (s : ByteArray) (h : s.size = 3) : nameB s = (capB (s[0]'(by omega)) && ((capB (s[1]'(by omega)) || digB (s[1]'(by omega))) && (capB (s[2]'(by omega)) || digB (s[2]'(by omega))))) := by
  have e : s.data.toList = [s[0]'(by omega), s[1]'(by omega), s[2]'(by omega)] := by
    apply List.ext_getElem
    · simpa using h
    · intro i h1 h2
      have h3 : i < 3 := by simpa using h2
      match i, h3 with
      | 0, _ => rfl
      | 1, _ => rfl
      | 2, _ => rfl
  unfold nameB
  rw [e]

/-- the test of one byte of a name behind the first -/
def tailB (c : UInt8) : Bool := capB c || digB c

set_option maxHeartbeats 800000 in
theorem segName_any (s : ByteArray) (w : World) (hs : s.size ≤ 9223372036854775807) :
    Calls Tryd.prog 53 #[.string s] w fun e w' => e = .returned (.bool (nameB s)) ∧ w' = w := by
  by_cases h3 : s.size = 3
  · have HN := hide (name_yes s h3)
    have hne : ((s.size : Int) == 3) = true := by simp; omega
    have h30 : (0 : Int) < (s.size : Int) := by omega
    cases hc : capB (s[0]'(by omega))
    · have HC := hide hc
      clear hc
      go_enter Tryd.func53, Tryd.ntmps53
      go_wp2_with fail
      refine (capital_any (s[0]'(by omega)) _).mono ?_
      rintro e w' ⟨rfl, rfl⟩
      rw [HC.out]
      go_wp2_with fail
      go_ret
      exact ⟨ret_bool (by rw [HN.out, HC.out]; rfl), rfl⟩
    · have HC := hide hc
      clear hc
      go_enter Tryd.func53, Tryd.ntmps53
      go_wp2_with fail
      refine (capital_any (s[0]'(by omega)) _).mono ?_
      rintro e w' ⟨rfl, rfl⟩
      rw [HC.out]
      go_wp2_with fail
      go_loop [3] (fun i => ∃ k : Nat, 1 ≤ k ∧ k ≤ 3 ∧ i = .int .i64 k ∧ ∀ j (h : j < s.size), 1 ≤ j → j < k → tailB s[j] = true) (fun i => 3 - (intOf i).toNat)
      case atStart => exact ⟨1, by omega, by omega, rfl, fun j _ h1 h2 => absurd h2 (by omega)⟩
      case round =>
        obtain ⟨k, hk1, hk, rfl, hall⟩ := hrel
        have HA := hide hall
        clear hall
        by_cases hlt : k < 3
        · have hks : k < s.size := by omega
          have hks' : (k : Int) < (s.size : Int) := by omega
          have HT : Hid (tailB s[k] = (capB s[k] || (decide (48 ≤ s[k].toNat) && decide (s[k].toNat ≤ 57)))) := rfl
          have HBad : Hid (tailB s[k] = false → nameB s = false) := fun hf => by
            rw [HN.out]
            rcases (by omega : k = 1 ∨ k = 2) with rfl | rfl
            · change (_ && (tailB s[1] && tailB _)) = false
              rw [hf]; simp
            · change (_ && (tailB _ && tailB s[2])) = false
              rw [hf]; simp
          have HGood : Hid (tailB s[k] = true → ∀ j (h : j < s.size), 1 ≤ j → j < k + 1 → tailB s[j] = true) := fun ht j h h1 h2 => by
            by_cases e : j = k
            · subst e; exact ht
            · exact HA.out j h h1 (by omega)
          cases hcap : capB s[k]
          · have HCap := hide hcap
            clear hcap
            by_cases h48 : (s[k].toNat : Int) < 48
            · go_wp2_with fail
              refine (capital_any s[k] _).mono ?_
              rintro e w' ⟨rfl, rfl⟩
              rw [HCap.out]
              go_wp2_with fail
              go_ret
              exact ⟨ret_bool (HBad.out (by rw [HT.out, HCap.out, decide_eq_false (p := 48 ≤ s[k].toNat) (by omega)]; rfl)).symm, rfl⟩
            · by_cases h57 : (57 : Int) < (s[k].toNat : Int)
              · go_wp2_with fail
                refine (capital_any s[k] _).mono ?_
                rintro e w' ⟨rfl, rfl⟩
                rw [HCap.out]
                go_wp2_with fail
                go_ret
                exact ⟨ret_bool (HBad.out (by rw [HT.out, HCap.out, decide_eq_false (p := s[k].toNat ≤ 57) (by omega)]; simp)).symm, rfl⟩
              · go_wp2_with fail
                refine (capital_any s[k] _).mono ?_
                rintro e w' ⟨rfl, rfl⟩
                rw [HCap.out]
                go_wp2_with fail
                go_round
                case rel => exact ⟨k + 1, by omega, by omega, by go_num, HGood.out (by rw [HT.out, HCap.out, decide_eq_true (p := 48 ≤ s[k].toNat) (by omega), decide_eq_true (by omega)]; rfl)⟩
                case measure => simp [intOf]; omega
          · have HCap := hide hcap
            clear hcap
            go_wp2_with fail
            refine (capital_any s[k] _).mono ?_
            rintro e w' ⟨rfl, rfl⟩
            rw [HCap.out]
            go_wp2_with fail
            go_round
            case rel => exact ⟨k + 1, by omega, by omega, by go_num, HGood.out (by rw [HT.out, HCap.out]; rfl)⟩
            case measure => simp [intOf]; omega
        · obtain rfl : k = 3 := by omega
          have HFin : Hid (nameB s = true) := by
            rw [HN.out, HC.out]
            change (true && (tailB _ && tailB _)) = true
            rw [HA.out 1 (by omega) (by omega) (by omega), HA.out 2 (by omega) (by omega) (by omega)]
            rfl
          go_wp2_with fail
          go_ret
          exact ⟨ret_bool HFin.out.symm, rfl⟩
  · have HN := hide (name_no s h3)
    have hne : ((s.size : Int) == 3) = false := by simp; omega
    go_enter Tryd.func53, Tryd.ntmps53
    go_wp2_with fail
    go_ret
    exact ⟨ret_bool HN.out.symm, rfl⟩
end Go.Proofs.YtcphfhfockjljaaDoor.Msg

namespace Go.Proofs.YtcphfhfockjljaaDoor.Msg
open Go.ChangeShapes Go.WideShapes Go.ChangeAt Go.RowKit
set_option linter.unusedVariables false
set_option linter.unusedSimpArgs false

set_option maxHeartbeats 1000000 in
theorem repOk_any (x : Rep) (v : Value) (w : World) {lo : Nat} (hv : StrsAt lo w v x) :
    Calls Tryd.prog 72 #[.agg #[v]] w fun e w' => e = .returned (.bool (repB x)) ∧ Below w.heap.size w w' := by
  have hl := hv.1
  have hb := (Below.refl w.heap.size w).alloc (Nat.le_refl _) (Obj.cells #[v] 50)
  obtain ⟨a, cap, rfl, hc⟩ := (At.kept kept_str hv hb).form
  have HC := hide hc
  clear hc hv
  have HR : Hid (repB x = (decide (x.length ≤ 20) && (endB ByteArray.size x && x.all plainB))) := rfl
  by_cases h20 : (20 : Int) < (x.length : Int)
  · go_enter Tryd.func72, Tryd.ntmps72
    go_wp2_with fail
    go_ret
    exact ⟨ret_bool (by rw [HR.out, decide_eq_false (by omega)]; rfl), hb⟩
  · have HLoop : Hid (endB ByteArray.size x = true → repB x = x.all plainB) := fun he => by rw [HR.out, he, decide_eq_true (by omega)]; rfl
    by_cases h0 : x.length = 0
    · have hz : ¬ (0 : Int) < (x.length : Int) := by omega
      have HE := hide (endB_nil ByteArray.size x h0)
      have hx : x = [] := List.length_eq_zero_iff.1 h0
      have HX : Hid (repB x = true) := by rw [HLoop.out HE.out, hx]; rfl
      clear hx h0
      go_enter Tryd.func72, Tryd.ntmps72
      go_wp2_with fail
      go_loop [4] (fun i => i = .int .i64 0) (fun _ => 0)
      case atStart => rfl
      case round =>
        subst hrel
        go_wp2_with fail
        go_ret
        exact ⟨ret_bool HX.out.symm, hb⟩
    · have hz : (0 : Int) < (x.length : Int) := by omega
      have hi : x.length - 1 < x.length := by omega
      obtain ⟨b, off, rfl, _, hbl, hr⟩ := HC.out (x.length - 1) hi
      have hlast : (w.alloc (Obj.cells #[.slice (some ⟨b, off, none⟩) x.length cap] 50)).cell? ⟨b, off + (x.length - 1), none⟩ = some (.string (x[x.length - 1]'hi)) := by simpa using hr.1
      have hsz : (x[x.length - 1]'hi).size ≤ 9223372036854775807 := hr.2
      have HE : Hid (endB ByteArray.size x = decide (0 < (x[x.length - 1]'hi).size)) := endB_at ByteArray.size x (by omega)
      clear hr
      generalize x[x.length - 1]'hi = z at *
      have hn1 : ((x.length : Int) - 1).toNat = x.length - 1 := by omega
      by_cases hl0 : z.size = 0
      · have hl' : ((z.size : Int) == 0) = true := by rw [beq_iff_eq]; omega
        have HX : Hid (repB x = false) := by rw [HR.out, HE.out, decide_eq_false (p := 0 < z.size) (by omega), Bool.false_and, Bool.and_false]; trivial
        clear hl0
        go_enter Tryd.func72, Tryd.ntmps72
        go_wp2_with fail
        go_ret
        exact ⟨ret_bool HX.out.symm, hb⟩
      · have hl' : ((z.size : Int) == 0) = false := by rw [beq_eq_false_iff_ne]; omega
        have HX : Hid (repB x = x.all plainB) := HLoop.out (by rw [HE.out]; exact decide_eq_true (by omega))
        clear hl0
        go_enter Tryd.func72, Tryd.ntmps72
        go_wp2_with fail
        clear hl' hlast hsz hn1
        go_loop [4] (fun i => ∃ k : Nat, k ≤ x.length ∧ i = .int .i64 k ∧ (x.take k).all plainB = true) (fun i => x.length - (intOf i).toNat)
        case atStart => exact ⟨0, Nat.zero_le _, rfl, rfl⟩
        case round =>
          obtain ⟨k, hk, rfl, hall⟩ := hrel
          have HA := hide hall
          clear hall
          by_cases hlt : k < x.length
          · obtain ⟨b', off', e, _, _, hr⟩ := HC.out k hlt
            simp only [Option.some.injEq, Addr.mk.injEq, and_true] at e
            obtain ⟨rfl, rfl⟩ := e
            have hcell : (w.alloc (Obj.cells #[.slice (some ⟨b, off, none⟩) x.length cap] 50)).cell? ⟨b, off + k, none⟩ = some (.string x[k]) := by simpa using hr.1
            have hsz := hr.2
            clear hr
            go_wp2_with fail
            refine (plain_any x[k] _ hsz).mono ?_
            rintro e w' ⟨rfl, rfl⟩
            cases hp : plainB x[k]
            · have HF := hide (all_fail hlt hp)
              clear hp
              go_wp2_with fail
              go_ret
              exact ⟨ret_bool (by rw [HX.out, HF.out]), hb⟩
            · have HF := hide (all_step hlt HA.out hp)
              clear hp
              go_wp2_with fail
              go_round
              case rel => exact ⟨k + 1, by omega, by go_num, HF.out⟩
              case measure => simp [intOf]; omega
          · have HF := hide (all_done (by omega) HA.out)
            go_wp2_with fail
            go_ret
            exact ⟨ret_bool (by rw [HX.out, HF.out]), hb⟩
end Go.Proofs.YtcphfhfockjljaaDoor.Msg

namespace Go.Proofs.YtcphfhfockjljaaDoor.Msg
open Go.ChangeShapes Go.WideShapes Go.ChangeAt Go.RowKit
set_option linter.unusedVariables false
set_option linter.unusedSimpArgs false

set_option maxHeartbeats 1000000 in
theorem fieldOk_any (x : Field) (v : Value) (w : World) {lo : Nat} (hv : RepsAt lo w v x) :
    Calls Tryd.prog 54 #[.agg #[v]] w fun e w' => e = .returned (.bool (fieldB x)) ∧ Below w.heap.size w w' := by
  have hl := hv.1
  have hb := (Below.refl w.heap.size w).alloc (Nat.le_refl _) (Obj.cells #[v] 47)
  have hbox : (w.alloc (Obj.cells #[v] 47)).cell? ⟨w.heap.size, 0, none⟩ = some v := by simp
  obtain ⟨a, cap, rfl, hc⟩ := (At.kept kept_rep hv hb).form
  have HC := hide hc
  clear hc hv
  have HR : Hid (fieldB x = (decide (x.length ≤ 30) && (endB List.length x && x.all repB))) := rfl
  by_cases h30 : (30 : Int) < (x.length : Int)
  · clear hbox
    go_enter Tryd.func54, Tryd.ntmps54
    go_wp2_with fail
    go_ret
    exact ⟨ret_bool (by rw [HR.out, decide_eq_false (by omega)]; rfl), hb⟩
  · have HLoop : Hid (endB List.length x = true → fieldB x = x.all repB) := fun he => by rw [HR.out, he, decide_eq_true (by omega)]; rfl
    by_cases h0 : x.length = 0
    · have hz : ¬ (0 : Int) < (x.length : Int) := by omega
      have HE := hide (endB_nil List.length x h0)
      have hx : x = [] := List.length_eq_zero_iff.1 h0
      have HX : Hid (fieldB x = true) := by rw [HLoop.out HE.out, hx]; rfl
      clear hx h0 hbox
      go_enter Tryd.func54, Tryd.ntmps54
      go_wp2_with fail
      go_loop [4] (fun i => i = .int .i64 0) (fun _ => 0)
      case atStart => rfl
      case round =>
        subst hrel
        go_wp2_with fail
        go_ret
        exact ⟨ret_bool HX.out.symm, hb⟩
    · have hz : (0 : Int) < (x.length : Int) := by omega
      have hi : x.length - 1 < x.length := by omega
      obtain ⟨b, off, rfl, _, hbl, ve, hcell, hel⟩ := HC.out (x.length - 1) hi
      have hlast : (w.alloc (Obj.cells #[.slice (some ⟨b, off, none⟩) x.length cap] 47)).cell? ⟨b, off + (x.length - 1), none⟩ = some ve := by simpa using hcell
      have HE : Hid (endB List.length x = decide (0 < (x[x.length - 1]'hi).length)) := endB_at List.length x (by omega)
      have hsz : (x[x.length - 1]'hi).length ≤ 9223372036854775807 := hel.1
      obtain ⟨a5, cap5, rfl, _⟩ := hel.form
      clear hcell hel
      generalize x[x.length - 1]'hi = z at *
      have hn1 : ((x.length : Int) - 1).toNat = x.length - 1 := by omega
      by_cases hl0 : z.length = 0
      · have hl' : ((z.length : Int) == 0) = true := by rw [beq_iff_eq]; omega
        have HX : Hid (fieldB x = false) := by rw [HR.out, HE.out, decide_eq_false (p := 0 < z.length) (by omega), Bool.false_and, Bool.and_false]; trivial
        clear hl0 hbox
        go_enter Tryd.func54, Tryd.ntmps54
        go_wp2_with fail
        go_ret
        exact ⟨ret_bool HX.out.symm, hb⟩
      · have hl' : ((z.length : Int) == 0) = false := by rw [beq_eq_false_iff_ne]; omega
        have HX : Hid (fieldB x = x.all repB) := HLoop.out (by rw [HE.out]; exact decide_eq_true (by omega))
        have HBX := hide hbox
        clear hl0 hbox
        go_enter Tryd.func54, Tryd.ntmps54
        go_wp2_with fail
        clear hl' hlast hsz hn1
        go_loopw [4] (fun i wr => ∃ k : Nat, k ≤ x.length ∧ i = .int .i64 k ∧ (x.take k).all repB = true ∧ Below (w.heap.size + 1) (w.alloc (Obj.cells #[.slice (some ⟨b, off, none⟩) x.length cap] 47)) wr) (fun i _ => x.length - (intOf i).toNat)
        case atStart => exact ⟨0, Nat.zero_le _, rfl, rfl, Below.refl _ _⟩
        case round =>
          obtain ⟨k, hk, rfl, hall, hbr⟩ := hrel
          have HA := hide hall
          clear hall
          have hbw : Below w.heap.size w wr := hb.trans (hbr.mono (by omega))
          have hbox : wr.cell? ⟨w.heap.size, 0, none⟩ = some (.slice (some ⟨b, off, none⟩) x.length cap) := by rw [hbr.cell (p := ⟨w.heap.size, 0, none⟩) (by simp)]; exact HBX.out
          have hbr' : Below (w.alloc (Obj.cells #[.slice (some ⟨b, off, none⟩) x.length cap] 47)).heap.size (w.alloc (Obj.cells #[.slice (some ⟨b, off, none⟩) x.length cap] 47)) wr := by simpa using hbr
          by_cases hlt : k < x.length
          · obtain ⟨b', off', e, _, hbl', ve, hcell, hel⟩ := HC.out k hlt
            simp only [Option.some.injEq, Addr.mk.injEq, and_true] at e
            obtain ⟨rfl, rfl⟩ := e
            have hcell' : wr.cell? ⟨b, off + k, none⟩ = some ve := by rw [hbr'.cell (p := ⟨b, off + k, none⟩) hbl']; simpa using hcell
            have hel' := At.kept kept_str hel hbr'
            clear hcell hel
            go_wp2_with fail
            refine (repOk_any x[k] ve _ hel').mono ?_
            rintro e w2 ⟨rfl, hb2⟩
            have hb3 : Below (w.heap.size + 1) (w.alloc (Obj.cells #[.slice (some ⟨b, off, none⟩) x.length cap] 47)) w2 := hbr.trans (hb2.mono (by have := hbr.size; simp at this; omega))
            clear hbr hbr' hb2 hcell' hel' hbox
            cases hp : repB x[k]
            · have HF := hide (all_fail hlt hp)
              clear hp
              go_wp2_with fail
              go_ret
              exact ⟨ret_bool (by rw [HX.out, HF.out]), hb.trans (hb3.mono (by omega))⟩
            · have HF := hide (all_step hlt HA.out hp)
              clear hp
              go_wp2_with fail
              go_roundw
              case rel => exact ⟨k + 1, by omega, by go_num, HF.out, hb3⟩
              case measure => simp [intOf]; omega
          · have HF := hide (all_done (by omega) HA.out)
            go_wp2_with fail
            go_ret
            exact ⟨ret_bool (by rw [HX.out, HF.out]), hbw⟩
end Go.Proofs.YtcphfhfockjljaaDoor.Msg
