import Derived.Test.YtjpdgcodjnnljaaParseUnescwithSegBuf
import Derived.Test.YtjpdgcodjnnljaaTrimwithCutPure
import Derived.Test.YtjpdgcodjnnljaaParseFieldswithMsgOk
namespace Go.Proofs.Ytjpdgcodjnnljaa.Msg
open Go.ChangeShapes Go.WideShapes Go.ChangeAt Go.RowKit
set_option linter.unusedVariables false
set_option linter.unusedSimpArgs false

/-! Parse, said over lists -/
def fieldsT (d : ByteArray) (hd : d.size = 5) (l : List UInt8) : List Field := (fieldsL d[0] d[1] d[2] l).map fieldT
def restL (i : Nat) (p : List UInt8) : List UInt8 := if i = 0 then p.drop 8 else p.drop 3
/-- one piece: a segment, or the code -/
def segL (d : ByteArray) (hd : d.size = 5) (i : Nat) (p : List UInt8) : Except Nat Seg :=
  if p.length < 3 ∨ nameB (txt (p.take 3)) = false ∨ (0 < i ∧ p.take 3 = [77, 83, 72]) then .error 4
  else if (restL i p).head?.any (fun c => c != d[0]) = true then .error 4
  else if 250 ≤ i ∨ longB (fieldsT d hd (restL i p)) = true then .error 5
  else match allO (allO (allO (plainO d hd))) (fieldsT d hd (restL i p)) with
    | none => .error 6
    | some g => .ok ⟨txt (p.take 3), g⟩
def segsGo (d : ByteArray) (hd : d.size = 5) : Nat → List (List UInt8) → Except Nat (List Seg)
  | _, [] => .ok []
  | i, p :: ps => match segL d hd i p with
    | .error c => .error c
    | .ok x => (segsGo d hd (i + 1) ps).map (x :: ·)
theorem segs_step {d : ByteArray} {hd : d.size = 5} {ps : List (List UInt8)} {k : Nat} (hk : k < ps.length) {acc : List Seg} {x : Seg} (h : segsGo d hd 0 ps = (segsGo d hd k (ps.drop k)).map (acc ++ ·)) (hx : segL d hd k ps[k] = .ok x) :
    segsGo d hd 0 ps = (segsGo d hd (k + 1) (ps.drop (k + 1))).map ((acc ++ [x]) ++ ·) := by
  rw [h, List.drop_eq_getElem_cons hk]
  have e1 : segsGo d hd k (ps[k] :: ps.drop (k + 1)) = (segsGo d hd (k + 1) (ps.drop (k + 1))).map (x :: ·) := by
    conv => lhs; unfold segsGo
    rw [hx]
  rw [e1]
  cases segsGo d hd (k + 1) (ps.drop (k + 1)) with
  | error c => rfl
  | ok ys => simp [Except.map]
theorem segs_fail {d : ByteArray} {hd : d.size = 5} {ps : List (List UInt8)} {k c : Nat} (hk : k < ps.length) {acc : List Seg} (h : segsGo d hd 0 ps = (segsGo d hd k (ps.drop k)).map (acc ++ ·)) (hx : segL d hd k ps[k] = .error c) : segsGo d hd 0 ps = .error c := by
  rw [h, List.drop_eq_getElem_cons hk]
  have e1 : segsGo d hd k (ps[k] :: ps.drop (k + 1)) = .error c := by
    conv => lhs; unfold segsGo
    rw [hx]
  rw [e1]
  rfl
theorem segs_done {d : ByteArray} {hd : d.size = 5} {ps : List (List UInt8)} {k : Nat} (hk : ps.length ≤ k) {acc : List Seg} (h : segsGo d hd 0 ps = (segsGo d hd k (ps.drop k)).map (acc ++ ·)) : segsGo d hd 0 ps = .ok acc := by
  rw [h, List.drop_eq_nil_of_le hk]
  simp [segsGo, Except.map]
/-- the pieces without an empty one at the end -/
def piecesL (l : List UInt8) : List (List UInt8) := if (cutL 13 l).getLast? = some [] then (cutL 13 l).dropLast else cutL 13 l
def headB (s : ByteArray) : Bool := decide (8 ≤ s.size) && ((s.extract 0 3).toList == [77, 83, 72] && (delimsB (s.extract 3 8) && (decide (s.size ≤ 8) || (s.data.toList[8]? == some 13 || s.data.toList[8]? == s.data.toList[3]?))))
theorem head_size {s : ByteArray} (h : headB s = true) : (s.extract 3 8).size = 5 := by
  unfold headB at h
  rw [Bool.and_eq_true] at h
  have : 8 ≤ s.size := by simpa using h.1
  rw [ByteArray.size_extract]
  omega
def parseL (s : ByteArray) : Except Nat (List Seg) :=
  if s.size = 0 ∨ 40000 < s.size then .error 1
  else if bytesB s = false then .error 2
  else if h : headB s = true then segsGo (s.extract 3 8) (head_size h) 0 (piecesL s.data.toList)
  else .error 3

/-! sizes -/
theorem trimE_mem {α : Type} {p : α → Bool} {xs : List α} {x : α} (h : x ∈ trimE p xs) : x ∈ xs := List.mem_of_mem_take h
theorem compsL_sz (c1 : UInt8) (l : List UInt8) : ∀ c ∈ compsL c1 l, c.length ≤ l.length := fun c h => cutL_sz c1 l c (trimE_mem h)
theorem repsL_sz (c1 c2 : UInt8) (l : List UInt8) : ∀ r ∈ repsL c1 c2 l, ∀ c ∈ r, c.length ≤ l.length := fun r hr c hc => by
  have := trimE_mem hr
  rw [List.mem_map] at this
  obtain ⟨p, hp, rfl⟩ := this
  exact Nat.le_trans (compsL_sz c1 p c hc) (cutL_sz c2 l p hp)
theorem fieldsL_sz (c0 c1 c2 : UInt8) (l : List UInt8) : ∀ f ∈ fieldsL c0 c1 c2 l, ∀ r ∈ f, ∀ c ∈ r, c.length ≤ l.length := fun f hf r hr c hc => by
  cases l with
  | nil => cases hf
  | cons x l =>
    have := trimE_mem hf
    rw [List.mem_map] at this
    obtain ⟨p, hp, rfl⟩ := this
    have h1 := repsL_sz c1 c2 p r hr c hc
    have h2 := cutL_sz c0 l p hp
    simp only [List.length_cons]
    omega
theorem fieldsT_sz (d : ByteArray) (hd : d.size = 5) (l : List UInt8) (hl : l.length ≤ 1048576) : ∀ f ∈ fieldsT d hd l, ∀ r ∈ f, ∀ c ∈ r, c.size ≤ 1048576 := fun f hf r hr c hc => by
  unfold fieldsT at hf
  rw [List.mem_map] at hf
  obtain ⟨f', hf', rfl⟩ := hf
  unfold fieldT at hr
  rw [List.mem_map] at hr
  obtain ⟨r', hr', rfl⟩ := hr
  unfold repT at hc
  rw [List.mem_map] at hc
  obtain ⟨c', hc', rfl⟩ := hc
  rw [txt_size]
  have := fieldsL_sz _ _ _ l f' hf' r' hr' c' hc'
  omega
end Go.Proofs.Ytjpdgcodjnnljaa.Msg

namespace Go.Proofs.Ytjpdgcodjnnljaa.Msg
open Go.ChangeShapes Go.WideShapes Go.ChangeAt Go.RowKit
set_option linter.unusedVariables false
set_option linter.unusedSimpArgs false

set_option maxHeartbeats 400000 in
theorem isCapital_any (c : UInt8) (w : World) :
    Calls Try.prog 139 #[.int .u8 (c.toNat : Int)] w fun e w' => e = .returned (.bool (capB c)) ∧ w' = w := by
  have HC : Hid (capB c = (decide (65 ≤ c.toNat) && decide (c.toNat ≤ 90))) := rfl
  by_cases h1 : (65 : Int) ≤ (c.toNat : Int)
  · by_cases h2 : (c.toNat : Int) ≤ 90
    · go_enter Try.func139, Try.ntmps139
      go_wp2
      go_ret
      exact ⟨ret_bool (by rw [HC.out, decide_eq_true (by omega), decide_eq_true (by omega)]; rfl), rfl⟩
    · go_enter Try.func139, Try.ntmps139
      go_wp2
      go_ret
      exact ⟨ret_bool (by rw [HC.out, decide_eq_false (p := c.toNat ≤ 90) (by omega), Bool.and_false]), rfl⟩
  · go_enter Try.func139, Try.ntmps139
    go_wp2
    go_ret
    exact ⟨ret_bool (by rw [HC.out, decide_eq_false (p := 65 ≤ c.toNat) (by omega)]; rfl), rfl⟩

set_option maxHeartbeats 400000 in
theorem isDigit_any (c : UInt8) (w : World) :
    Calls Try.prog 140 #[.int .u8 (c.toNat : Int)] w fun e w' => e = .returned (.bool (digB c)) ∧ w' = w := by
  have HC : Hid (digB c = (decide (48 ≤ c.toNat) && decide (c.toNat ≤ 57))) := rfl
  by_cases h1 : (48 : Int) ≤ (c.toNat : Int)
  · by_cases h2 : (c.toNat : Int) ≤ 57
    · go_enter Try.func140, Try.ntmps140
      go_wp2
      go_ret
      exact ⟨ret_bool (by rw [HC.out, decide_eq_true (by omega), decide_eq_true (by omega)]; rfl), rfl⟩
    · go_enter Try.func140, Try.ntmps140
      go_wp2
      go_ret
      exact ⟨ret_bool (by rw [HC.out, decide_eq_false (p := c.toNat ≤ 57) (by omega), Bool.and_false]), rfl⟩
  · go_enter Try.func140, Try.ntmps140
    go_wp2
    go_ret
    exact ⟨ret_bool (by rw [HC.out, decide_eq_false (p := 48 ≤ c.toNat) (by omega)]; rfl), rfl⟩

set_option maxHeartbeats 400000 in
theorem isPlain_any (s : ByteArray) (w : World) (hs : s.size ≤ 9223372036854775807) :
    Calls Try.prog 153 #[.string s] w fun e w' => e = .returned (.bool (plainB s)) ∧ w' = w := by
  go_enter Try.func153, Try.ntmps153
  go_wp2
  go_loop [6] (fun i => ∃ k : Nat, k ≤ s.size ∧ i = .int .i64 k ∧ (s.data.toList.take k).all plainC = true) (fun i => s.size - (intOf i).toNat)
  case atStart => exact ⟨0, Nat.zero_le _, rfl, rfl⟩
  case round =>
    obtain ⟨k, hk, rfl, hall⟩ := hrel
    have HA := hide hall
    clear hall
    have hsz : s.data.toList.length = s.size := by simp
    by_cases hlt : k < s.size
    · have HK : Hid (∀ h, s.data.toList[k]'h = s[k]) := fun h => rfl
      have HP : Hid (plainC s[k] = (decide (32 ≤ s[k].toNat) && decide (s[k].toNat ≤ 126))) := rfl
      by_cases h1 : (s[k].toNat : Int) < 32
      · have HF : Hid (plainC s[k] = false) := by rw [HP.out, decide_eq_false (by omega)]; rfl
        have HZ := hide (all_fail (p := plainC) (xs := s.data.toList) (k := k) (by omega) (by rw [HK.out]; exact HF.out))
        clear hsz
        go_wp2
        go_ret
        exact ⟨ret_bool HZ.out.symm, rfl⟩
      · by_cases h2 : (126 : Int) < (s[k].toNat : Int)
        · have HF : Hid (plainC s[k] = false) := by rw [HP.out, decide_eq_false (p := s[k].toNat ≤ 126) (by omega), Bool.and_false]; trivial
          have HZ := hide (all_fail (p := plainC) (xs := s.data.toList) (k := k) (by omega) (by rw [HK.out]; exact HF.out))
          clear hsz
          go_wp2
          go_ret
          exact ⟨ret_bool HZ.out.symm, rfl⟩
        · have HF : Hid (plainC s[k] = true) := by rw [HP.out, decide_eq_true (by omega), decide_eq_true (by omega)]; rfl
          have HZ := hide (all_step (p := plainC) (xs := s.data.toList) (k := k) (by omega) HA.out (by rw [HK.out]; exact HF.out))
          clear hsz
          go_wp2
          go_round
          case rel => exact ⟨k + 1, by omega, by go_num, HZ.out⟩
          case measure => simp [intOf]; omega
    · have HZ := hide (all_done (by omega) HA.out)
      clear hsz
      go_wp2
      go_ret
      exact ⟨ret_bool HZ.out.symm, rfl⟩

set_option maxHeartbeats 1000000 in
theorem isSegmentName_any (s : ByteArray) (w : World) (hs : s.size ≤ 9223372036854775807) :
    Calls Try.prog 123 #[.string s] w fun e w' => e = .returned (.bool (nameB s)) ∧ w' = w := by
  by_cases h3 : s.size = 3
  · have HN := hide (name_yes s h3)
    have hne : ((s.size : Int) != 3) = false := by simp; omega
    have h30 : (0 : Int) < (s.size : Int) := by omega
    have hne2 : (s.size : Int) = 3 := by omega
    cases hc : capB (s[0]'(by omega))
    · have HC := hide hc
      clear hc
      go_enter Try.func123, Try.ntmps123
      go_wp2_with fail
      refine (isCapital_any (s[0]'(by omega)) _).mono ?_
      rintro e w' ⟨rfl, rfl⟩
      rw [HC.out]
      go_wp2_with fail
      go_ret
      exact ⟨ret_bool (by rw [HN.out, HC.out]; rfl), rfl⟩
    · have HC := hide hc
      clear hc
      go_enter Try.func123, Try.ntmps123
      go_wp2_with fail
      refine (isCapital_any (s[0]'(by omega)) _).mono ?_
      rintro e w' ⟨rfl, rfl⟩
      rw [HC.out]
      go_wp2_with fail
      go_loop [15] (fun i => ∃ k : Nat, k ≤ 3 ∧ i = .int .i64 k ∧ ∀ j (h : j < s.size), j < k → tailB s[j] = true) (fun i => 3 - (intOf i).toNat)
      case atStart => exact ⟨0, by omega, rfl, fun j _ h2 => absurd h2 (by omega)⟩
      case round =>
        obtain ⟨k, hk, rfl, hall⟩ := hrel
        have HA := hide hall
        clear hall
        by_cases hlt : k < 3
        · have hks : k < s.size := by omega
          have hks' : (k : Int) < (s.size : Int) := by omega
          have HT : Hid (tailB s[k] = (capB s[k] || digB s[k])) := rfl
          have HBad : Hid (tailB s[k] = false → nameB s = false) := fun hf => by
            rw [HN.out]
            rcases (by omega : k = 0 ∨ k = 1 ∨ k = 2) with rfl | rfl | rfl
            · rw [(Bool.or_eq_false_iff.1 hf).1]; rfl
            · change (_ && (tailB s[1] && tailB _)) = false
              rw [hf]; simp
            · change (_ && (tailB _ && tailB s[2])) = false
              rw [hf]; simp
          have HGood : Hid (tailB s[k] = true → ∀ j (h : j < s.size), j < k + 1 → tailB s[j] = true) := fun ht j h h2 => by
            by_cases e : j = k
            · subst e; exact ht
            · exact HA.out j h (by omega)
          cases hcap : capB s[k]
          · have HCap := hide hcap
            clear hcap
            cases hdig : digB s[k]
            · have HDig := hide hdig
              clear hdig
              go_wp2_with fail
              refine (isCapital_any s[k] _).mono ?_
              rintro e w' ⟨rfl, rfl⟩
              rw [HCap.out]
              go_wp2_with fail
              refine (isDigit_any s[k] _).mono ?_
              rintro e w' ⟨rfl, rfl⟩
              rw [HDig.out]
              go_wp2_with fail
              go_ret
              exact ⟨ret_bool (HBad.out (by rw [HT.out, HCap.out, HDig.out]; rfl)).symm, rfl⟩
            · have HDig := hide hdig
              clear hdig
              go_wp2_with fail
              refine (isCapital_any s[k] _).mono ?_
              rintro e w' ⟨rfl, rfl⟩
              rw [HCap.out]
              go_wp2_with fail
              refine (isDigit_any s[k] _).mono ?_
              rintro e w' ⟨rfl, rfl⟩
              rw [HDig.out]
              go_wp2_with fail
              go_round
              case rel => exact ⟨k + 1, by omega, by go_num, HGood.out (by rw [HT.out, HCap.out, HDig.out]; rfl)⟩
              case measure => simp [intOf]; omega
          · have HCap := hide hcap
            clear hcap
            go_wp2_with fail
            refine (isCapital_any s[k] _).mono ?_
            rintro e w' ⟨rfl, rfl⟩
            rw [HCap.out]
            go_wp2_with fail
            go_round
            case rel => exact ⟨k + 1, by omega, by go_num, HGood.out (by rw [HT.out, HCap.out]; rfl)⟩
            case measure => simp [intOf]; omega
        · obtain rfl : k = 3 := by omega
          have HFin : Hid (nameB s = true) := by
            rw [HN.out, HC.out]
            change (true && (tailB _ && tailB _)) = true
            rw [HA.out 1 (by omega) (by omega), HA.out 2 (by omega) (by omega)]
            rfl
          go_wp2_with fail
          go_ret
          exact ⟨ret_bool HFin.out.symm, rfl⟩
  · have HN := hide (name_no s h3)
    have hne : ((s.size : Int) != 3) = true := by simp; omega
    have hne2 : ¬ (s.size : Int) = 3 := by omega
    go_enter Try.func123, Try.ntmps123
    go_wp2_with fail
    go_ret
    exact ⟨ret_bool HN.out.symm, rfl⟩
end Go.Proofs.Ytjpdgcodjnnljaa.Msg
