import Derived.Test.YtfdefjdogmhinaaDoorExpPurewithFgtFn
import Derived.Test.YtfdefjdogmhinaaDoorDeskOfwithDeskPure
import Derived.Maps.OwnSet
namespace Go.Proofs.YtfdefjdogmhinaaDoor.Msg
open Go.ChangeShapes Go.WideShapes Go.ChangeAt Go.RowKit
set_option linter.unusedVariables false
set_option linter.unusedSimpArgs false

def fgB (cl : Int) (tg : ByteArray) (c : Cn) : Bool := c.busy && thB cl tg c.want
def fgC (cl : Int) (tg : ByteArray) (c : Cn) : Cn := if fgB cl tg c then cn0 else c
def fgGo (cl : Int) (tg : ByteArray) : Nat → List Cn → List Nat
  | _, [] => []
  | i, c :: cs => if fgB cl tg c then i :: fgGo cl tg (i + 1) cs else fgGo cl tg (i + 1) cs
theorem fgGo_snoc (cl : Int) (tg : ByteArray) : ∀ (i : Nat) (cs : List Cn) (c : Cn), fgGo cl tg i (cs ++ [c]) = fgGo cl tg i cs ++ (if fgB cl tg c then [i + cs.length] else [])
  | i, [], c => by simp [fgGo]
  | i, d :: cs, c => by
    simp only [List.cons_append, fgGo]
    rw [fgGo_snoc cl tg (i + 1) cs c]
    have e : i + 1 + cs.length = i + (d :: cs).length := by simp; omega
    rw [e]
    split <;> simp
theorem fgGo_lt (cl : Int) (tg : ByteArray) : ∀ (i : Nat) (cs : List Cn), ∀ k ∈ fgGo cl tg i cs, k < i + cs.length
  | i, [], k, h => by simp [fgGo] at h
  | i, c :: cs, k, h => by
    simp only [fgGo] at h
    split at h
    · rcases List.mem_cons.1 h with rfl | h
      · simp
      · have := fgGo_lt cl tg (i + 1) cs k h; simp; omega
    · have := fgGo_lt cl tg (i + 1) cs k h; simp; omega
theorem fgGo_len (cl : Int) (tg : ByteArray) : ∀ (i : Nat) (cs : List Cn), (fgGo cl tg i cs).length ≤ cs.length
  | _, [] => by simp [fgGo]
  | i, c :: cs => by
    simp only [fgGo]
    have := fgGo_len cl tg (i + 1) cs
    split <;> simp <;> omega
theorem freeGo_fg (cl : Int) (tg : ByteArray) : ∀ (i : Nat) (cs : List Cn), (∀ c ∈ cs, c.busy = true) → freeGo i (cs.map (fgC cl tg)) = fgGo cl tg i cs
  | _, [], _ => rfl
  | i, c :: cs, h => by
    have hc : c.busy = true := h c (by simp)
    have ih := freeGo_fg cl tg (i + 1) cs fun d hd => h d (List.mem_cons_of_mem _ hd)
    simp only [List.map_cons, freeGo, fgGo]
    rw [ih]
    unfold fgC
    cases hb : fgB cl tg c with
    | true => simp [cn0]
    | false => simp [hc]
/-- the desk when the first k lines have been looked at -/
def fgD (cl : Int) (tg : ByteArray) (s : Ds) (k : Nat) : Ds := { s with conns := (s.conns.take k).map (fgC cl tg) ++ s.conns.drop k, free := s.free ++ fgGo cl tg 0 (s.conns.take k) }
theorem fgD_zero (cl : Int) (tg : ByteArray) (s : Ds) : fgD cl tg s 0 = s := by simp [fgD, fgGo]
theorem fgD_at (cl : Int) (tg : ByteArray) (s : Ds) {k : Nat} (hk : k < s.conns.length) : ∃ h : k < (fgD cl tg s k).conns.length, (fgD cl tg s k).conns[k] = s.conns[k] := by
  have hl : ((s.conns.take k).map (fgC cl tg)).length = k := by simp; omega
  have h1 : (fgD cl tg s k).conns[k]? = s.conns[k]? := by
    simp only [fgD]
    rw [List.getElem?_append_right (by omega), hl, Nat.sub_self, List.getElem?_drop, Nat.add_zero]
  have h2 : k < (fgD cl tg s k).conns.length := by simp [fgD]; omega
  refine ⟨h2, ?_⟩
  rw [List.getElem?_eq_getElem h2, List.getElem?_eq_getElem hk] at h1
  exact Option.some.inj h1
theorem fgD_len (cl : Int) (tg : ByteArray) (s : Ds) (k : Nat) : (fgD cl tg s k).conns.length = s.conns.length := by simp [fgD]; omega
theorem fgD_skip (cl : Int) (tg : ByteArray) (s : Ds) {k : Nat} (hk : k < s.conns.length) (hb : fgB cl tg s.conns[k] = false) : fgD cl tg s (k + 1) = fgD cl tg s k := by
  have e1 : (s.conns.take (k + 1)).map (fgC cl tg) ++ s.conns.drop (k + 1) = (s.conns.take k).map (fgC cl tg) ++ s.conns.drop k := by
    rw [take_snoc' _ _ hk, List.map_append, List.append_assoc]
    congr 1
    rw [List.drop_eq_getElem_cons hk]
    simp [fgC, hb]
  have e2 : fgGo cl tg 0 (s.conns.take (k + 1)) = fgGo cl tg 0 (s.conns.take k) := by
    rw [take_snoc' _ _ hk, fgGo_snoc, hb]
    simp
  unfold fgD
  rw [e1, e2]
theorem fgD_hit (cl : Int) (tg : ByteArray) (s : Ds) {k : Nat} (hk : k < s.conns.length) (hb : fgB cl tg s.conns[k] = true) : fgD cl tg s (k + 1) = relD (fgD cl tg s k) k := by
  have hl : ((s.conns.take k).map (fgC cl tg)).length = k := by simp; omega
  have e1 : (s.conns.take (k + 1)).map (fgC cl tg) ++ s.conns.drop (k + 1) = ((s.conns.take k).map (fgC cl tg) ++ s.conns.drop k).set k cn0 := by
    rw [take_snoc' _ _ hk, List.map_append, List.append_assoc, List.set_append_right _ _ (by omega)]
    congr 1
    rw [List.drop_eq_getElem_cons hk, hl, Nat.sub_self]
    simp only [fgC, hb, if_true, List.cons_append, List.nil_append, List.map_cons, List.map_nil, List.set_cons_zero]
  have e2 : fgGo cl tg 0 (s.conns.take (k + 1)) = fgGo cl tg 0 (s.conns.take k) ++ [k] := by
    rw [take_snoc' _ _ hk, fgGo_snoc, hb]
    simp
    omega
  unfold fgD relD
  simp only
  rw [e1, e2, List.append_assoc]
theorem fgD_all (cl : Int) (tg : ByteArray) (s : Ds) : (fgD cl tg s s.conns.length).conns = s.conns.map (fgC cl tg) ∧ (fgD cl tg s s.conns.length).free = s.free ++ fgGo cl tg 0 s.conns := by simp [fgD]
theorem fgD_free_len (cl : Int) (tg : ByteArray) (s : Ds) (k : Nat) : (fgD cl tg s k).free.length ≤ s.free.length + s.conns.length := by
  have := fgGo_len cl tg 0 (s.conns.take k)
  simp only [fgD, List.length_append]
  simp only [List.length_take] at this
  omega
theorem fgC_Z (cl : Int) (tg : ByteArray) {c : Cn} (h : cnZ c) : cnZ (fgC cl tg c) := by unfold fgC; split; exact cn0Z; exact h
theorem fgD_Z (cl : Int) (tg : ByteArray) {s : Ds} (k : Nat) (h : DsZ s) : DsZ (fgD cl tg s k) := by
  refine ⟨fun c hc => ?_, h.2.1, h.2.2⟩
  simp only [fgD] at hc
  rcases List.mem_append.1 hc with h1 | h1
  · obtain ⟨d, hd, rfl⟩ := List.mem_map.1 h1
    exact fgC_Z cl tg (h.1 d (List.mem_of_mem_take hd))
  · exact h.1 c (List.mem_of_mem_drop h1)
/-- the queue that is left -/
def fgQ (cl : Int) (tg : ByteArray) (qs : List Wn) : List Wn := qs.filter fun q => !thB cl tg q
theorem fgQ_len (cl : Int) (tg : ByteArray) (qs : List Wn) : (fgQ cl tg qs).length ≤ qs.length := List.length_filter_le _ _
theorem fgQ_Z (cl : Int) (tg : ByteArray) {qs : List Wn} (h : ∀ q ∈ qs, wnZ q) : ∀ q ∈ fgQ cl tg qs, wnZ q := fun q hq => h q (List.mem_filter.1 hq).1
/-- the numbers of the lines that are freed -/
def fgN (cl : Int) (tg : ByteArray) (cs : List Cn) : List Int := (fgGo cl tg 0 cs).map fun (i : Nat) => (i : Int)
theorem fgN_len (cl : Int) (tg : ByteArray) (cs : List Cn) : (fgN cl tg cs).length ≤ cs.length := by unfold fgN; rw [List.length_map]; exact fgGo_len cl tg 0 cs
theorem fgN_skip (cl : Int) (tg : ByteArray) (cs : List Cn) {k : Nat} (hk : k < cs.length) (hb : fgB cl tg cs[k] = false) : fgN cl tg (cs.take (k + 1)) = fgN cl tg (cs.take k) := by
  unfold fgN
  rw [take_snoc' _ _ hk, fgGo_snoc, hb]
  simp
theorem fgN_hit (cl : Int) (tg : ByteArray) (cs : List Cn) {k : Nat} (hk : k < cs.length) (hb : fgB cl tg cs[k] = true) : fgN cl tg (cs.take (k + 1)) = fgN cl tg (cs.take k) ++ [(k : Int)] := by
  unfold fgN
  rw [take_snoc' _ _ hk, fgGo_snoc, hb]
  simp
  omega
def fgP (x : Pl) (cl : Int) (tg : ByteArray) (now : Int) : Pl × List St × List Int :=
  if (okPl x = true ∧ nowB now = true) ∧ clientB cl = true ∧ tagB tg = true then ((serveA now ⟨x.epoch, x.next, x.conns.map (fgC cl tg), fgQ cl tg x.queue⟩).1, (serveA now ⟨x.epoch, x.next, x.conns.map (fgC cl tg), fgQ cl tg x.queue⟩).2, fgN cl tg x.conns)
  else (pl0, [], [])
theorem fgD_serves {x : Pl} (cl : Int) (tg : ByteArray) (now : Int) (h : okPl x = true) : (fgD cl tg ⟨x.epoch, x.next, now, x.conns, freeIdx x.conns, fgQ cl tg x.queue, []⟩ x.conns.length).free = freeIdx (fgD cl tg ⟨x.epoch, x.next, now, x.conns, freeIdx x.conns, fgQ cl tg x.queue, []⟩ x.conns.length).conns ∨ (fgD cl tg ⟨x.epoch, x.next, now, x.conns, freeIdx x.conns, fgQ cl tg x.queue, []⟩ x.conns.length).queue = [] := by
  by_cases hq : fgQ cl tg x.queue = []
  · exact .inr hq
  · left
    have hq' : x.queue ≠ [] := fun e => hq (by rw [e]; rfl)
    obtain ⟨e1, e2⟩ := fgD_all cl tg ⟨x.epoch, x.next, now, x.conns, freeIdx x.conns, fgQ cl tg x.queue, []⟩
    simp only at e1 e2
    rw [e1, e2]
    unfold freeIdx
    rw [freeGo_busy 0 x.conns (okPl_busy h hq'), freeGo_fg cl tg 0 x.conns (okPl_busy h hq')]
    rfl
/-- a row of numbers -/
def inC (n : Int) : List Value := [.int .i64 n]
theorem inC_len (n : Int) : (inC n).length = 1 := rfl
end Go.Proofs.YtfdefjdogmhinaaDoor.Msg

namespace Go.Proofs.YtfdefjdogmhinaaDoor.Msg
open Go.ChangeShapes Go.WideShapes Go.ChangeAt Go.RowKit
open Go.Maps (Keyed)
set_option linter.unusedVariables false
set_option linter.unusedSimpArgs false

/-- how an element of the map is read: nil, or the block that it points at the head of -/
def ptrElem2 (v : Value) : Option (DataW Unit × List MemPlace) := match v with
  | .pointer none => some (.nil, [])
  | .pointer (some a) => if a = ⟨a.block, 0, none⟩ then some (.lit (.int .i64 a.block), []) else none
  | _ => none
theorem ptrElem2_nil {v : Value} {ps : List MemPlace} (h : ptrElem2 v = some (.nil, ps)) : v = .pointer none := by
  unfold ptrElem2 at h
  split at h
  · rfl
  · split at h
    · injection h with h; injection h with h1 _; cases h1
    · cases h
  · cases h
theorem ptrElem2_some {v : Value} {b : Nat} {ps : List MemPlace} (h : ptrElem2 v = some (.lit (.int .i64 (b : Int)), ps)) : v = .pointer (some ⟨b, 0, none⟩) := by
  unfold ptrElem2 at h
  split at h
  · injection h with h; injection h with h1 _; cases h1
  · rename_i a
    split at h
    · rename_i ha
      injection h with h
      injection h with h1 _
      injection h1 with h1
      injection h1 with _ h1
      have hb : a.block = b := by omega
      rw [ha, hb]
    · cases h
  · cases h
/-- what the map answers -/
def outD (o : Option Nat) (z : DataW Unit) : DataW Unit := match o with | some b => .lit (.int .i64 (b : Int)) | none => z
def outV (o : Option Nat) : Value := match o with | some b => .pointer (some ⟨b, 0, none⟩) | none => .pointer none
/-- what a map of lines holds -/
def MapF (w : World) (M n : Nat) (f : Int → ByteArray → Option Nat) : Prop :=
  ∃ D, w.ownsMap (H := Unit) Tryd.prog 66 ptrElem2 M n D ∧ ∀ i s kl, keyOf Tryd.prog 66 (.agg #[.int .i64 i, .string s]) = some kl → ∀ z, D.atKey kl z = outD (f i s) z
theorem MapF.new (w : World) : MapF (w.alloc (.map #[] 0)) w.heap.size 0 (fun _ _ => none) := ⟨_, World.ownsMap_made w _ _ _, fun _ _ _ _ _ => rfl⟩
theorem MapF.keep {w w' : World} {M n : Nat} {f : Int → ByteArray → Option Nat} (h : MapF w M n f) (hb : w'.heap[M]? = w.heap[M]?) : MapF w' M n f := by
  obtain ⟨D, ⟨es, c, h1, h2⟩, h3⟩ := h
  exact ⟨D, ⟨es, c, by rw [hb]; exact h1, h2⟩, h3⟩
theorem MapF.put {w w' : World} {M n : Nat} {f : Int → ByteArray → Option Nat} (h : MapF w M n f) (hn : n ≤ 1000000) (i : Int) (s : ByteArray) (b : Nat) (hi : (Lit.int .i64 i).wf = true) (hs : s.size ≤ 9223372036854775807)
    (hr : (Instr.mapUpdate 56 (.map (some M)) (.agg #[.int .i64 i, .string s]) (.pointer (some ⟨b, 0, none⟩))).run Tryd.prog w = .ok () w') : MapF w' M (n + 1) (fun j t => if j = i ∧ t = s then some b else f j t) := by
  obtain ⟨D, h, hD⟩ := h
  obtain ⟨kl, hk⟩ := key_some i s hi hs
  obtain ⟨w2, hr2, ho, _⟩ := h.update outKeyed Tryd.underlying56 (by unfold maxLen; omega) hk (show ptrElem2 (.pointer (some ⟨b, 0, none⟩)) = some (.lit (.int .i64 (b : Int)), []) from by simp [ptrElem2])
  rw [hr] at hr2
  injection hr2 with _ e
  rw [e]
  refine ⟨_, ho, fun j t kl2 hk2 z => ?_⟩
  by_cases hjt : j = i ∧ t = s
  · obtain ⟨rfl, rfl⟩ := hjt
    have e2 : kl = kl2 := Option.some.inj (hk.symm.trans hk2)
    subst e2
    rw [Maps.atKey_put_same h.isMap (outKeyed.key hk)]
    show _ = outD (if j = j ∧ t = t then some b else f j t) z
    rw [if_pos ⟨rfl, rfl⟩]
    rfl
  · have hne : kl2 ≠ kl := fun e => hjt (by
      have := outKeyed.inj (by rw [← e]; exact hk2) hk
      injection this with this
      simp at this
      exact this)
    rw [Maps.atKey_put_other hne, hD j t kl2 hk2 z]
    show _ = outD (if j = i ∧ t = s then some b else f j t) z
    rw [if_neg hjt]
theorem zeroPtr (w : World) : (zeroValue 64).run Tryd.prog w = .ok (.pointer none) w := by
  have hz : Tryd.t64.zero = some (.pointer none) := by kernel_rfl
  simp [zeroValue, go_sem, Tryd.underlying64, hz]
theorem MapF.look {w : World} {M n : Nat} {f : Int → ByteArray → Option Nat} (h : MapF w M n f) (i : Int) (s : ByteArray) (hi : (Lit.int .i64 i).wf = true) (hs : s.size ≤ 9223372036854775807) :
    (Instr.lookup 56 (.map (some M)) (.agg #[.int .i64 i, .string s]) false).run Tryd.prog w = .ok (outV (f i s)) w := by
  obtain ⟨D, h, hD⟩ := h
  obtain ⟨kl, hk⟩ := key_some i s hi hs
  obtain ⟨v, ps, hr, hv⟩ := h.lookup outKeyed Tryd.underlying56 (zeroPtr w) (show ptrElem2 (.pointer none) = some (.nil, []) from rfl) hk
  rw [hD i s kl hk] at hv
  rw [hr]
  cases hf : f i s with
  | none => rw [hf] at hv; rw [ptrElem2_nil hv]; rfl
  | some b => rw [hf] at hv; rw [ptrElem2_some hv]; rfl
/-- which line has a request out under a number and a control -/
def outF (cs : List Cn) (Ls : List Nat) (i : Int) (s : ByteArray) : Option Nat := match cs[i.toNat]? with
  | some c => if 0 ≤ i ∧ c.busy = true ∧ s = c.control then Ls[i.toNat]? else none
  | none => none
theorem outF_nil (Ls : List Nat) : outF [] Ls = fun _ _ => none := by funext i s; simp [outF]
theorem outF_free {cs : List Cn} {Ls : List Nat} {c : Cn} {L : Nat} (hl : Ls.length = cs.length) (hb : c.busy = false) : outF (cs ++ [c]) (Ls ++ [L]) = outF cs Ls := by
  funext i s
  unfold outF
  by_cases h : i.toNat < cs.length
  · rw [List.getElem?_append_left h, List.getElem?_append_left (by omega)]
  · by_cases h2 : i.toNat = cs.length
    · rw [List.getElem?_eq_none (by omega : cs.length ≤ i.toNat), h2]
      simp [hb]
    · rw [List.getElem?_eq_none (by omega : cs.length ≤ i.toNat), List.getElem?_eq_none (by simp; omega)]
theorem outF_busy {cs : List Cn} {Ls : List Nat} {c : Cn} {L : Nat} (hl : Ls.length = cs.length) (hb : c.busy = true) : outF (cs ++ [c]) (Ls ++ [L]) = fun i s => if i = (cs.length : Int) ∧ s = c.control then some L else outF cs Ls i s := by
  funext i s
  unfold outF
  by_cases h : i.toNat < cs.length
  · rw [List.getElem?_append_left h, List.getElem?_append_left (by omega), if_neg (by omega)]
  · rw [List.getElem?_eq_none (by omega : cs.length ≤ i.toNat)]
    by_cases h2 : i.toNat = cs.length
    · have e1 : (cs ++ [c])[i.toNat]? = some c := by rw [h2]; simp
      have e2 : (Ls ++ [L])[i.toNat]? = some L := by rw [h2, ← hl]; simp
      rw [e1, e2]
      simp only [hb]
      by_cases h3 : s = c.control
      · by_cases h4 : 0 ≤ i
        · rw [if_pos ⟨h4, trivial, h3⟩, if_pos ⟨by omega, h3⟩]
        · rw [if_neg (fun h => h4 h.1), if_neg (fun h => h4 (by omega))]
      · rw [if_neg (fun h => h3 h.2.2), if_neg (fun h => h3 h.2)]
    · rw [List.getElem?_eq_none (by simp; omega), if_neg (by omega)]
end Go.Proofs.YtfdefjdogmhinaaDoor.Msg
