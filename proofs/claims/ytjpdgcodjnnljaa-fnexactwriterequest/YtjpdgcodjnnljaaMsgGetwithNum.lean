import Derived.Test.YtjpdgcodjnnljaaParseFieldswithMsgOk
import Derived.Lib.ItoaMem
import Derived.Lib.AtoiAllCases
namespace Go.Proofs.Ytjpdgcodjnnljaa.Msg
open Go.ChangeShapes Go.WideShapes Go.ChangeAt Go.RowKit
set_option linter.unusedVariables false
set_option linter.unusedSimpArgs false

/-- component number comp (from 1) of the first repetition of the field at a place (from 0) -/
def pick (fs : List Field) (at_ comp : Int) : ByteArray :=
  if at_ < 0 then ⟨#[]⟩ else match fs[at_.toNat]? with
  | none => ⟨#[]⟩
  | some f => match f with
    | [] => ⟨#[]⟩
    | r :: _ => if comp < 1 then ⟨#[]⟩ else r.getD (comp - 1).toNat ⟨#[]⟩
def getFrom (m : List Seg) (name : ByteArray) (field comp : Int) : ByteArray := match m.find? fun s => s.name.toList == name.toList with
  | none => ⟨#[]⟩
  | some s => pick s.fields (field - if mshB name then 3 else 1) comp

theorem wrap_at (field d : Int) (h0 : -9223372036854775808 ≤ field) (h1 : field ≤ 9223372036854775807) (hd0 : 0 ≤ d) (hd : d ≤ 3) :
    ∃ z, wrap64 (field - d) = z ∧ ((0 ≤ field - d ∧ z = field - d) ∨ (field - d < 0 ∧ (z < 0 ∨ 4611686018427387904 ≤ z))) := by
  refine ⟨_, rfl, ?_⟩
  by_cases h : -9223372036854775808 ≤ field - d
  · have e : wrap64 (field - d) = field - d := by unfold wrap64; omega
    rw [e]
    by_cases h2 : 0 ≤ field - d
    · exact .inl ⟨h2, rfl⟩
    · exact .inr ⟨by omega, .inl (by omega)⟩
  · right
    refine ⟨by omega, .inr ?_⟩
    unfold wrap64; omega

theorem find_take {xs : List Seg} {p : Seg → Bool} {k : Nat} (h : k < xs.length) (h1 : ∀ j (hj : j < xs.length), j < k → p xs[j] = false) (h2 : p xs[k] = true) : xs.find? p = some xs[k] := by
  rw [List.find?_eq_some_iff_getElem]
  exact ⟨h2, k, h, rfl, fun j hj => by rw [h1 j (by omega) hj]; rfl⟩
theorem find_none {xs : List Seg} {p : Seg → Bool} (h1 : ∀ j (hj : j < xs.length), p xs[j] = false) : xs.find? p = none := by
  rw [List.find?_eq_none]
  intro x hx
  obtain ⟨j, hj, rfl⟩ := List.getElem_of_mem hx
  simp [h1 j hj]

set_option maxRecDepth 100000 in
set_option maxHeartbeats 2000000 in
theorem getSpec_any (xs : List Seg) (name : ByteArray) (field comp : Int) (v : Value) (w : World) (hn : name.size ≤ 9223372036854775807) (hl2 : xs.length ≤ 1048576) (hf0 : -9223372036854775808 ≤ field) (hf1 : field ≤ 9223372036854775807)
    (hc0 : -9223372036854775808 ≤ comp) (hc1 : comp ≤ 9223372036854775807) {lo : Nat} (hv : SegsAt lo w v xs) (hfl : ∀ i (h : i < xs.length), xs[i].fields.length ≤ 1048576) :
    Calls Try.prog 33 #[.agg #[v], .string name, .int .i64 field, .int .i64 comp] w fun e w' => e = .returned (.string (getFrom xs name field comp)) ∧ Below w.heap.size w w' := by
  have hb := (Below.refl w.heap.size w).alloc (Nat.le_refl _) (Obj.cells #[v] 55)
  obtain ⟨a, cap, rfl, hc⟩ := (At.kept kept_seg hv hb).form
  have HC := hide hc
  have HFL := hide hfl
  clear hc hv hfl
  have HB : Hid ((-9223372036854775808 ≤ field ∧ field ≤ 9223372036854775807) ∧ -9223372036854775808 ≤ comp ∧ comp ≤ 9223372036854775807) := ⟨⟨hf0, hf1⟩, hc0, hc1⟩
  clear hf0 hf1 hc0 hc1
  have HG : Hid (getFrom xs name field comp = match xs.find? fun s => s.name.toList == name.toList with
    | none => ⟨#[]⟩
    | some s => pick s.fields (field - if mshB name then 3 else 1) comp) := rfl
  go_enter Try.func33, Try.ntmps33
  go_wp2_with fail
  go_loop [9] (fun i => ∃ k : Nat, k ≤ xs.length ∧ i = .int .i64 k ∧ ∀ j (hj : j < xs.length), j < k → (xs[j].name.toList == name.toList) = false) (fun i => xs.length - (intOf i).toNat)
  case atStart => exact ⟨0, Nat.zero_le _, rfl, fun j _ h => absurd h (by omega)⟩
  case round =>
    obtain ⟨k, hk, rfl, hall⟩ := hrel
    have HA := hide hall
    clear hall
    by_cases hlt : k < xs.length
    · obtain ⟨b, off, rfl, _, hbl, hc0', hns, ve, hc1', hel⟩ := HC.out k hlt
      obtain ⟨a2, cap2, rfl, hcf⟩ := hel.form
      have HF := hide hcf
      have hfl := HFL.out k hlt
      clear hcf hel
      cases he : (xs[k].name.toList == name.toList)
      · have HGo : Hid (∀ j (hj : j < xs.length), j < k + 1 → (xs[j].name.toList == name.toList) = false) := fun j hj h => by
          by_cases e : j = k
          · subst e; exact he
          · exact HA.out j hj (by omega)
        go_wp2_with fail
        go_round
        case rel => exact ⟨k + 1, by omega, by go_num, HGo.out⟩
        case measure => simp [intOf]; omega
      · have HMd : Hid (mshB name = (name.toList == [77, 83, 72])) := rfl
        cases hm : (name.toList == [77, 83, 72])
        · have HM : Hid ((if mshB name = true then (3 : Int) else 1) = 1) := by rw [HMd.out, hm]; exact rfl
          obtain ⟨z, hz, hzc⟩ := wrap_at field 1 HB.out.1.1 HB.out.1.2 (by omega) (by omega)
          have HP : Hid (getFrom xs name field comp = pick xs[k].fields (field - 1) comp) := by
            rw [HG.out, find_take hlt HA.out he, HM.out]; exact rfl
          rcases hzc with ⟨hz0, hzd⟩ | ⟨hz0, hzd⟩
          · by_cases hq : z < (xs[k].fields.length : Int)
            · obtain ⟨q, rfl⟩ := Int.eq_ofNat_of_zero_le (show 0 ≤ z by omega)
              have hq' : q < xs[k].fields.length := by omega
              have hq0 : (0 : Int) ≤ (q : Int) := by omega
              obtain ⟨b2, off2, rfl, _, hbl2, vf, hcf, helf⟩ := HF.out q hq'
              have hcf' : (w.alloc (Obj.cells #[.slice (some ⟨b, off, none⟩) xs.length cap] 55)).cell? ⟨b2, off2 + q, none⟩ = some vf := by simpa using hcf
              obtain ⟨a3, cap3, rfl, hcr⟩ := helf.form
              have hl3 : xs[k].fields[q].length ≤ 9223372036854775807 := helf.1
              have HP2 : Hid (pick xs[k].fields (field - 1) comp = match xs[k].fields[q] with
                | [] => ⟨#[]⟩
                | r :: _ => if comp < 1 then ⟨#[]⟩ else r.getD (comp - 1).toNat ⟨#[]⟩) := by
                unfold pick
                rw [← hzd, if_neg (by omega), Int.toNat_natCast, List.getElem?_eq_getElem hq']; exact rfl
              have HZD := hide hzd
              clear hzd hcf helf
              cases hfq : xs[k].fields[q] with
              | nil =>
                have h30 : ((xs[k].fields[q].length : Int) == 0) = true := by rw [hfq]; rfl
                have HX : Hid (getFrom xs name field comp = ⟨#[]⟩) := by rw [HP.out, HP2.out, hfq]; exact rfl
                clear hfq hcr
                go_wp2_with fail
                go_ret
                exact ⟨ret_string HX.out.symm, hb⟩
              | cons r rs =>
                have h30 : ((xs[k].fields[q].length : Int) == 0) = false := by rw [hfq, beq_eq_false_iff_ne, List.length_cons]; omega
                have h3p : (0 : Int) < (xs[k].fields[q].length : Int) := by rw [hfq, List.length_cons]; omega
                have h3n : 0 < xs[k].fields[q].length := by omega
                obtain ⟨b3, off3, rfl, _, hbl3, vr, hcr0, helr⟩ := hcr 0 h3n
                have hr0 : xs[k].fields[q][0]'h3n = r := by simp [hfq]
                rw [hr0] at helr
                have hcr0' : (w.alloc (Obj.cells #[.slice (some ⟨b, off, none⟩) xs.length cap] 55)).cell? ⟨b3, off3, none⟩ = some vr := by simpa using hcr0
                obtain ⟨a4, cap4, rfl, hcc⟩ := helr.form
                have hl4 : r.length ≤ 9223372036854775807 := helr.1
                have HP3 : Hid (getFrom xs name field comp = if comp < 1 then ⟨#[]⟩ else r.getD (comp - 1).toNat ⟨#[]⟩) := by rw [HP.out, HP2.out, hfq]; exact rfl
                have HCC := hide hcc
                clear hfq hcr hcr0 helr hr0 hcc
                by_cases hc1 : comp < 1
                · have HX : Hid (getFrom xs name field comp = ⟨#[]⟩) := by rw [HP3.out, if_pos hc1]; exact rfl
                  go_wp2_with fail
                  go_ret
                  exact ⟨ret_string HX.out.symm, hb⟩
                · by_cases hc2 : (r.length : Int) < comp
                  · have HX : Hid (getFrom xs name field comp = ⟨#[]⟩) := by
                      rw [HP3.out, if_neg hc1, List.getD_eq_getElem?_getD, List.getElem?_eq_none (by omega)]; exact rfl
                    go_wp2_with fail
                    go_ret
                    exact ⟨ret_string HX.out.symm, hb⟩
                  · obtain ⟨y, rfl⟩ : ∃ y : Nat, comp = (y : Int) + 1 := ⟨(comp - 1).toNat, by omega⟩
                    have hy : y < r.length := by omega
                    obtain ⟨b4, off4, rfl, _, hbl4, hc4, _⟩ := HCC.out y hy
                    have hc4' : (w.alloc (Obj.cells #[.slice (some ⟨b, off, none⟩) xs.length cap] 55)).cell? ⟨b4, off4 + y, none⟩ = some (.string r[y]) := by simpa using hc4
                    have HX : Hid (getFrom xs name field (↑y + 1) = r[y]) := by
                      rw [HP3.out, if_neg hc1, List.getD_eq_getElem?_getD, show ((y : Int) + 1 - 1).toNat = y by omega, List.getElem?_eq_getElem hy]; exact rfl
                    clear hc4
                    go_wp2_with fail
                    go_ret
                    exact ⟨ret_string HX.out.symm, hb⟩
            · have HX : Hid (getFrom xs name field comp = ⟨#[]⟩) := by
                rw [HP.out]; unfold pick
                rw [if_neg (by omega), List.getElem?_eq_none (by omega)]; exact rfl
              have hzp : 0 ≤ z := by omega
              have HZD := hide hzd
              clear hzd
              go_wp2_with fail
              go_ret
              exact ⟨ret_string HX.out.symm, hb⟩
          · have HX : Hid (getFrom xs name field comp = ⟨#[]⟩) := by
              rw [HP.out]; unfold pick
              rw [if_pos (by omega)]; exact rfl
            rcases hzd with hzd | hzd
            · go_wp2_with fail
              go_ret
              exact ⟨ret_string HX.out.symm, hb⟩
            · have hzp : 0 ≤ z := by omega
              have hzl : (xs[k].fields.length : Int) ≤ z := by omega
              go_wp2_with fail
              go_ret
              exact ⟨ret_string HX.out.symm, hb⟩
        · have HM : Hid ((if mshB name = true then (3 : Int) else 1) = 3) := by rw [HMd.out, hm]; exact rfl
          obtain ⟨z, hz, hzc⟩ := wrap_at field 3 HB.out.1.1 HB.out.1.2 (by omega) (by omega)
          have HP : Hid (getFrom xs name field comp = pick xs[k].fields (field - 3) comp) := by
            rw [HG.out, find_take hlt HA.out he, HM.out]; exact rfl
          rcases hzc with ⟨hz0, hzd⟩ | ⟨hz0, hzd⟩
          · by_cases hq : z < (xs[k].fields.length : Int)
            · obtain ⟨q, rfl⟩ := Int.eq_ofNat_of_zero_le (show 0 ≤ z by omega)
              have hq' : q < xs[k].fields.length := by omega
              have hq0 : (0 : Int) ≤ (q : Int) := by omega
              obtain ⟨b2, off2, rfl, _, hbl2, vf, hcf, helf⟩ := HF.out q hq'
              have hcf' : (w.alloc (Obj.cells #[.slice (some ⟨b, off, none⟩) xs.length cap] 55)).cell? ⟨b2, off2 + q, none⟩ = some vf := by simpa using hcf
              obtain ⟨a3, cap3, rfl, hcr⟩ := helf.form
              have hl3 : xs[k].fields[q].length ≤ 9223372036854775807 := helf.1
              have HP2 : Hid (pick xs[k].fields (field - 3) comp = match xs[k].fields[q] with
                | [] => ⟨#[]⟩
                | r :: _ => if comp < 1 then ⟨#[]⟩ else r.getD (comp - 1).toNat ⟨#[]⟩) := by
                unfold pick
                rw [← hzd, if_neg (by omega), Int.toNat_natCast, List.getElem?_eq_getElem hq']; exact rfl
              have HZD := hide hzd
              clear hzd hcf helf
              cases hfq : xs[k].fields[q] with
              | nil =>
                have h30 : ((xs[k].fields[q].length : Int) == 0) = true := by rw [hfq]; rfl
                have HX : Hid (getFrom xs name field comp = ⟨#[]⟩) := by rw [HP.out, HP2.out, hfq]; exact rfl
                clear hfq hcr
                go_wp2_with fail
                go_ret
                exact ⟨ret_string HX.out.symm, hb⟩
              | cons r rs =>
                have h30 : ((xs[k].fields[q].length : Int) == 0) = false := by rw [hfq, beq_eq_false_iff_ne, List.length_cons]; omega
                have h3p : (0 : Int) < (xs[k].fields[q].length : Int) := by rw [hfq, List.length_cons]; omega
                have h3n : 0 < xs[k].fields[q].length := by omega
                obtain ⟨b3, off3, rfl, _, hbl3, vr, hcr0, helr⟩ := hcr 0 h3n
                have hr0 : xs[k].fields[q][0]'h3n = r := by simp [hfq]
                rw [hr0] at helr
                have hcr0' : (w.alloc (Obj.cells #[.slice (some ⟨b, off, none⟩) xs.length cap] 55)).cell? ⟨b3, off3, none⟩ = some vr := by simpa using hcr0
                obtain ⟨a4, cap4, rfl, hcc⟩ := helr.form
                have hl4 : r.length ≤ 9223372036854775807 := helr.1
                have HP3 : Hid (getFrom xs name field comp = if comp < 1 then ⟨#[]⟩ else r.getD (comp - 1).toNat ⟨#[]⟩) := by rw [HP.out, HP2.out, hfq]; exact rfl
                have HCC := hide hcc
                clear hfq hcr hcr0 helr hr0 hcc
                by_cases hc1 : comp < 1
                · have HX : Hid (getFrom xs name field comp = ⟨#[]⟩) := by rw [HP3.out, if_pos hc1]; exact rfl
                  go_wp2_with fail
                  go_ret
                  exact ⟨ret_string HX.out.symm, hb⟩
                · by_cases hc2 : (r.length : Int) < comp
                  · have HX : Hid (getFrom xs name field comp = ⟨#[]⟩) := by
                      rw [HP3.out, if_neg hc1, List.getD_eq_getElem?_getD, List.getElem?_eq_none (by omega)]; exact rfl
                    go_wp2_with fail
                    go_ret
                    exact ⟨ret_string HX.out.symm, hb⟩
                  · obtain ⟨y, rfl⟩ : ∃ y : Nat, comp = (y : Int) + 1 := ⟨(comp - 1).toNat, by omega⟩
                    have hy : y < r.length := by omega
                    obtain ⟨b4, off4, rfl, _, hbl4, hc4, _⟩ := HCC.out y hy
                    have hc4' : (w.alloc (Obj.cells #[.slice (some ⟨b, off, none⟩) xs.length cap] 55)).cell? ⟨b4, off4 + y, none⟩ = some (.string r[y]) := by simpa using hc4
                    have HX : Hid (getFrom xs name field (↑y + 1) = r[y]) := by
                      rw [HP3.out, if_neg hc1, List.getD_eq_getElem?_getD, show ((y : Int) + 1 - 1).toNat = y by omega, List.getElem?_eq_getElem hy]; exact rfl
                    clear hc4
                    go_wp2_with fail
                    go_ret
                    exact ⟨ret_string HX.out.symm, hb⟩
            · have HX : Hid (getFrom xs name field comp = ⟨#[]⟩) := by
                rw [HP.out]; unfold pick
                rw [if_neg (by omega), List.getElem?_eq_none (by omega)]; exact rfl
              have hzp : 0 ≤ z := by omega
              have HZD := hide hzd
              clear hzd
              go_wp2_with fail
              go_ret
              exact ⟨ret_string HX.out.symm, hb⟩
          · have HX : Hid (getFrom xs name field comp = ⟨#[]⟩) := by
              rw [HP.out]; unfold pick
              rw [if_pos (by omega)]; exact rfl
            rcases hzd with hzd | hzd
            · go_wp2_with fail
              go_ret
              exact ⟨ret_string HX.out.symm, hb⟩
            · have hzp : 0 ≤ z := by omega
              have hzl : (xs[k].fields.length : Int) ≤ z := by omega
              go_wp2_with fail
              go_ret
              exact ⟨ret_string HX.out.symm, hb⟩
    · have HX : Hid (getFrom xs name field comp = ⟨#[]⟩) := by
        rw [HG.out, find_none fun j hj => HA.out j hj (by omega)]; exact rfl
      go_wp2_with fail
      go_ret
      exact ⟨ret_string HX.out.symm, hb⟩
end Go.Proofs.Ytjpdgcodjnnljaa.Msg

namespace Go.Proofs.Ytjpdgcodjnnljaa.Msg
open Go.Lib
set_option linter.unusedVariables false

/-! texts of digits: the number that one spells, and the decimal of a number -/
def decV (acc : Nat) : List UInt8 → Nat
  | [] => acc
  | c :: r => decV (acc * 10 + (c.toNat - 48)) r
def digitB (c : UInt8) : Bool := decide (48 ≤ c.toNat) && decide (c.toNat ≤ 57)
/-- the number that a decimal from 0 to 999999999 spells; -1 for any other text -/
def numS (l : List UInt8) : Int :=
  if l.length < 1 then -1 else if 9 < l.length then -1 else if l.all digitB then (if decDigits (decV 0 l) == l then (decV 0 l : Int) else -1) else -1
/-- the number that a decimal of an int spells; 0 for any other text -/
def numI (l : List UInt8) : Int := match atoiAll l with
  | .ok v => if itoa v == l then v else 0
  | _ => 0

theorem decV_snoc : ∀ (l : List UInt8) (acc : Nat) (c : UInt8), decV acc (l ++ [c]) = decV acc l * 10 + (c.toNat - 48)
  | [], acc, c => rfl
  | b :: r, acc, c => by
    show decV _ (r ++ [c]) = _
    rw [decV_snoc r]
    rfl
theorem decV_ge : ∀ (l : List UInt8) (acc : Nat), acc ≤ decV acc l
  | [], acc => Nat.le_refl _
  | c :: r, acc => Nat.le_trans (by omega) (decV_ge r _)
theorem decV_take (l : List UInt8) (k : Nat) (h : k < l.length) : decV 0 (l.take (k + 1)) = decV 0 (l.take k) * 10 + (l[k].toNat - 48) := by
  rw [List.take_succ_eq_append_getElem h, decV_snoc]
theorem decV_lt (l : List UInt8) (ha : l.all digitB = true) (k : Nat) (hk : k ≤ l.length) : decV 0 (l.take k) < 10 ^ k := by
  induction k with
  | zero => rw [List.take_zero, Nat.pow_zero]; exact Nat.zero_lt_one
  | succ k ih =>
    have h1 := ih (by omega)
    rw [decV_take l k (by omega)]
    have h2 := List.all_eq_true.1 ha l[k] (List.getElem_mem _)
    simp only [digitB, Bool.and_eq_true, decide_eq_true_eq] at h2
    rw [Nat.pow_succ]
    omega
theorem parse_digits : ∀ (l : List UInt8) (acc : Nat), l.all digitB = true → decV acc l < 18446744073709551616 → parseUint10 acc l = .ok (decV acc l)
  | [], acc, _, _ => rfl
  | c :: r, acc, ha, h => by
    rw [List.all_cons, Bool.and_eq_true] at ha
    have h2 := ha.1
    simp only [digitB, Bool.and_eq_true, decide_eq_true_eq] at h2
    have h3 := decV_ge r (acc * 10 + (c.toNat - 48))
    have h4 : decV acc (c :: r) = decV (acc * 10 + (c.toNat - 48)) r := rfl
    rw [h4] at h ⊢
    show (if 48 ≤ c.toNat ∧ c.toNat ≤ 57 then _ else _) = _
    rw [if_pos h2, if_neg (by omega), if_neg (by omega)]
    exact parse_digits r _ ha.2 h
theorem digit_nat (d : Nat) (h : d < 10) : (UInt8.ofNat (48 + d)).toNat = 48 + d := by
  rw [UInt8.toNat_ofNat']
  omega
theorem dec_spells (u : Nat) : decV 0 (decDigits u) = u ∧ (decDigits u).all digitB = true ∧ 1 ≤ (decDigits u).length := by
  induction u using Nat.strongRecOn with
  | _ u ih =>
    rw [decDigits]
    split
    · rename_i h
      refine ⟨?_, ?_, by simp⟩
      · show 0 * 10 + ((UInt8.ofNat (48 + u)).toNat - 48) = u
        rw [digit_nat u h]; omega
      · simp only [List.all_cons, List.all_nil, digitB, digit_nat u h, Bool.and_true, Bool.and_eq_true, decide_eq_true_eq]; omega
    · rename_i h
      obtain ⟨h1, h2, h3⟩ := ih (u / 10) (by omega)
      refine ⟨?_, ?_, by simp⟩
      · rw [decV_snoc, h1, digit_nat _ (by omega)]; omega
      · rw [List.all_append, h2]
        simp only [List.all_cons, List.all_nil, digitB, digit_nat (u % 10) (by omega), Bool.and_true, Bool.true_and, Bool.and_eq_true, decide_eq_true_eq]
        omega
theorem dec_len (k : Nat) : ∀ u, u < 10 ^ (k + 1) → (decDigits u).length ≤ k + 1 := by
  induction k with
  | zero => intro u h; rw [decDigits, dif_pos (by omega)]; simp
  | succ k ih =>
    intro u h
    rw [decDigits]
    split
    · simp
    · have h2 : u / 10 < 10 ^ (k + 1) := by rw [Nat.pow_succ] at h; omega
      have := ih _ h2
      rw [List.length_append]
      simp
      omega
theorem numI_dec (u : Nat) (h : u < 9223372036854775808) : numI (decDigits u) = u := by
  obtain ⟨h1, h2, h3⟩ := dec_spells u
  have e : atoiAll (decDigits u) = .ok (u : Int) := by
    have hp := parse_digits (decDigits u) 0 h2 (by omega)
    rw [h1] at hp
    cases hl : decDigits u with
    | nil => rw [hl] at h3; simp at h3
    | cons c r =>
      rw [hl] at h2 hp
      rw [List.all_cons, Bool.and_eq_true] at h2
      have h4 := h2.1
      simp only [digitB, Bool.and_eq_true, decide_eq_true_eq] at h4
      rw [atoiAll_plain c r (by omega) (by omega)]
      unfold parseMag
      rw [if_neg (by simp), hp]
      show (if 9223372036854775808 ≤ u then _ else _) = _
      rw [if_neg (by omega)]
  unfold numI
  rw [e]
  show (if itoa (u : Int) == decDigits u then _ else _) = _
  rw [itoa_nonneg, if_pos (by simp)]
theorem numS_dec (u : Nat) (h : u < 1000000000) : numS (decDigits u) = u := by
  obtain ⟨h1, h2, h3⟩ := dec_spells u
  have h4 := dec_len 8 u (by omega)
  unfold numS
  rw [if_neg (by omega), if_neg (by omega), if_pos h2, h1]
  simp
theorem numS_is {l : List UInt8} (h : 0 ≤ numS l) : l = decDigits (numS l).toNat ∧ numS l < 1000000000 := by
  unfold numS at h ⊢
  split at h
  · omega
  · split at h
    · omega
    · split at h
      · rename_i h1 h2 h3
        split at h
        · rename_i h4
          rw [if_neg h1, if_neg h2, if_pos h3, if_pos h4]
          refine ⟨?_, ?_⟩
          · rw [Int.toNat_natCast]; exact (beq_iff_eq.1 h4).symm
          · have h5 := decV_lt l h3 l.length (Nat.le_refl _)
            rw [List.take_length] at h5
            have h6 : (10 : Nat) ^ l.length ≤ 10 ^ 9 := Nat.pow_le_pow_right (by omega) (by omega)
            omega
        · omega
      · omega
theorem numI_is {l : List UInt8} (h : 1 ≤ numI l) : l = decDigits (numI l).toNat ∧ numI l ≤ 9223372036854775807 := by
  unfold numI at h ⊢
  cases ha : atoiAll l with
  | «syntax» => rw [ha] at h; simp at h
  | range => rw [ha] at h; simp at h
  | ok v =>
    rw [ha] at h
    simp only at h ⊢
    split at h
    · rename_i h2
      have hb := atoiAll_bounds ha
      rw [if_pos h2]
      refine ⟨?_, hb.2⟩
      have h3 := beq_iff_eq.1 h2
      obtain ⟨u, rfl⟩ := Int.eq_ofNat_of_zero_le (show 0 ≤ v by omega)
      rw [itoa_nonneg] at h3
      rw [Int.toNat_natCast]
      exact h3.symm
    · omega
/-- where one of the two gives a number from 1 to 999999999, the other gives the same -/
theorem num_same (l : List UInt8) (h : (1 ≤ numS l) ∨ (1 ≤ numI l ∧ numI l ≤ 999999999)) : numS l = numI l := by
  rcases h with h | ⟨h, h'⟩
  · obtain ⟨h1, h2⟩ := numS_is (by omega : 0 ≤ numS l)
    obtain ⟨u, hu⟩ := Int.eq_ofNat_of_zero_le (show 0 ≤ numS l by omega)
    rw [hu, Int.toNat_natCast] at h1
    rw [hu]
    rw [h1, numI_dec u (by omega)]
  · obtain ⟨h1, h2⟩ := numI_is h
    obtain ⟨u, hu⟩ := Int.eq_ofNat_of_zero_le (show 0 ≤ numI l by omega)
    rw [hu, Int.toNat_natCast] at h1
    rw [hu]
    rw [h1, numS_dec u (by omega)]
/-- the same, said for a test of a range -/
theorem num_range (l : List UInt8) (b : Int) (hb : b ≤ 999999999) (hb1 : 1 ≤ b) : (decide (1 ≤ numS l) && decide (numS l ≤ b)) = (decide (1 ≤ numI l) && decide (numI l ≤ b)) := by
  by_cases h : (1 ≤ numS l) ∨ (1 ≤ numI l ∧ numI l ≤ 999999999)
  · rw [num_same l h]
  · have h1 : ¬ 1 ≤ numS l := fun x => h (.inl x)
    have h2 : ¬ (1 ≤ numI l ∧ numI l ≤ b) := fun x => h (.inr ⟨x.1, by omega⟩)
    rw [decide_eq_false h1, Bool.false_and]
    symm
    rw [Bool.and_eq_false_iff, decide_eq_false_iff_not, decide_eq_false_iff_not]
    omega
end Go.Proofs.Ytjpdgcodjnnljaa.Msg
