import Derived.Test.YtfdefjdogmhinaaDoorExpPurewithFgtFn
import Derived.Test.YtfdefjdogmhinaaDoorFgtPurewithDeskMap
namespace Go.Proofs.YtfdefjdogmhinaaDoor.Msg
open Go.ChangeShapes Go.WideShapes Go.ChangeAt Go.RowKit
set_option linter.unusedVariables false
set_option linter.unusedSimpArgs false

/-- the line that a reply fits -/
def hitN (cs : List Cn) (conn : Int) (control tag : ByteArray) : Option Nat := match cs[conn.toNat]? with
  | some c => if 0 ≤ conn ∧ c.busy = true ∧ control = c.control ∧ c.want.tag = tag then some conn.toNat else none
  | none => none
def ansP (x : Pl) (conn : Int) (control tag : ByteArray) (now : Int) : Pl × List St × Wn × Bool :=
  if okPl x = true ∧ nowB now = true then
    match hitN x.conns conn control tag with
    | some k => ((serveA now ⟨x.epoch, x.next, x.conns.set k cn0, x.queue⟩).1, (serveA now ⟨x.epoch, x.next, x.conns.set k cn0, x.queue⟩).2, (x.conns.getD k cn0).want, true)
    | none => (x, [], wn0, false)
  else (pl0, [], wn0, false)
theorem ansP_bad {x : Pl} {conn : Int} {control tag : ByteArray} {now : Int} (h : ¬ (okPl x = true ∧ nowB now = true)) : ansP x conn control tag now = (pl0, [], wn0, false) := if_neg h
theorem ansP_none {x : Pl} {conn : Int} {control tag : ByteArray} {now : Int} (h : okPl x = true ∧ nowB now = true) (hn : hitN x.conns conn control tag = none) : ansP x conn control tag now = (x, [], wn0, false) := by
  unfold ansP; rw [if_pos h, hn]
theorem ansP_some {x : Pl} {conn : Int} {control tag : ByteArray} {now : Int} (h : okPl x = true ∧ nowB now = true) {k : Nat} (hn : hitN x.conns conn control tag = some k) : ansP x conn control tag now = ((serveA now ⟨x.epoch, x.next, x.conns.set k cn0, x.queue⟩).1, (serveA now ⟨x.epoch, x.next, x.conns.set k cn0, x.queue⟩).2, (x.conns.getD k cn0).want, true) := by
  unfold ansP; rw [if_pos h, hn]
theorem hitN_yes {cs : List Cn} {k : Nat} (hk : k < cs.length) {conn : Int} {control tag : ByteArray} (h0 : conn = (k : Int)) (hb : cs[k].busy = true) (hc : control = cs[k].control) (ht : cs[k].want.tag = tag) : hitN cs conn control tag = some k := by
  subst h0
  unfold hitN
  rw [show ((k : Int)).toNat = k by omega, List.getElem?_eq_getElem hk]
  simp only
  rw [if_pos ⟨by omega, hb, hc, ht⟩]
/-- what the map answers, and what fits -/
theorem outF_cases (cs : List Cn) (Ls : List Nat) (hl : Ls.length = cs.length) (conn : Int) (control tag : ByteArray) :
    (outF cs Ls conn control = none ∧ hitN cs conn control tag = none) ∨ ∃ k, ∃ (hk : k < cs.length) (hk2 : k < Ls.length), conn = (k : Int) ∧ cs[k].busy = true ∧ control = cs[k].control ∧ outF cs Ls conn control = some Ls[k] ∧ (cs[k].want.tag ≠ tag → hitN cs conn control tag = none) := by
  by_cases h : ∃ k, ∃ (hk : k < cs.length), conn = (k : Int) ∧ cs[k].busy = true ∧ control = cs[k].control
  · obtain ⟨k, hk, h0, hb, hc⟩ := h
    right
    refine ⟨k, hk, by omega, h0, hb, hc, ?_, fun ht => ?_⟩
    · unfold outF
      rw [show conn.toNat = k by omega, List.getElem?_eq_getElem hk]
      simp only
      rw [if_pos ⟨by omega, hb, hc⟩, List.getElem?_eq_getElem (by omega)]
    · unfold hitN
      rw [show conn.toNat = k by omega, List.getElem?_eq_getElem hk]
      simp only
      rw [if_neg (fun h => ht h.2.2.2)]
  · left
    have key : ∀ c, cs[conn.toNat]? = some c → ¬ (0 ≤ conn ∧ c.busy = true ∧ control = c.control) := fun c hc h2 => by
      obtain ⟨hlt, e⟩ := List.getElem?_eq_some_iff.1 hc
      exact h ⟨conn.toNat, hlt, by omega, by rw [e]; exact h2.2.1, by rw [e]; exact h2.2.2⟩
    unfold outF hitN
    cases hc : cs[conn.toNat]? with
    | none => exact ⟨rfl, rfl⟩
    | some c =>
      simp only
      exact ⟨if_neg (key c hc), if_neg fun h2 => key c hc ⟨h2.1, h2.2.1, h2.2.2.1⟩⟩
/-- a desk of which one line was freed serves as the pool does -/
theorem relD_serves {x : Pl} (now : Int) (h : okPl x = true) {k : Nat} (hk : k < x.conns.length) : (relD ⟨x.epoch, x.next, now, x.conns, freeIdx x.conns, x.queue, []⟩ k).free = freeIdx (relD ⟨x.epoch, x.next, now, x.conns, freeIdx x.conns, x.queue, []⟩ k).conns ∨ (relD ⟨x.epoch, x.next, now, x.conns, freeIdx x.conns, x.queue, []⟩ k).queue = [] := by
  by_cases hq : x.queue = []
  · exact .inr hq
  · left
    have hb := okPl_busy h hq
    simp only [relD]
    unfold freeIdx
    rw [freeGo_busy 0 x.conns hb, List.nil_append]
    have key : ∀ (i : Nat) (cs : List Cn) (j : Nat), (∀ c ∈ cs, c.busy = true) → j < cs.length → freeGo i (cs.set j cn0) = [i + j] := by
      intro i cs
      induction cs generalizing i with
      | nil => intro j _ hj; simp at hj
      | cons c cs ih =>
        intro j hall hj
        cases j with
        | zero =>
          simp only [List.set_cons_zero, freeGo]
          rw [freeGo_busy (i + 1) cs fun d hd => hall d (List.mem_cons_of_mem _ hd)]
          simp [cn0]
        | succ j =>
          simp only [List.set_cons_succ, freeGo]
          rw [hall c (by simp), if_pos rfl, ih (i + 1) j (fun d hd => hall d (List.mem_cons_of_mem _ hd)) (by simp at hj; omega)]
          congr 1
          omega
    rw [key 0 x.conns k hb hk]
    simp
theorem relD_Z {s : Ds} (k : Nat) (h : DsZ s) : DsZ (relD s k) := by
  refine ⟨fun c hc => ?_, h.2.1, h.2.2⟩
  rcases List.mem_or_eq_of_mem_set hc with h1 | h1
  · exact h.1 c h1
  · rw [h1]; exact cn0Z
end Go.Proofs.YtfdefjdogmhinaaDoor.Msg

namespace Go.Proofs.YtfdefjdogmhinaaDoor.Msg
open Go.ChangeShapes Go.WideShapes Go.ChangeAt Go.RowKit
set_option linter.unusedVariables false
set_option linter.unusedSimpArgs false

/-! the run of a pool, over lists -/
def busyN (cs : List Cn) : Nat := cs.countP (·.busy)
theorem busyN_set {cs : List Cn} {k : Nat} (h : k < cs.length) (c : Cn) : busyN (cs.set k c) + (if cs[k].busy then 1 else 0) = busyN cs + (if c.busy then 1 else 0) := by
  unfold busyN
  induction cs generalizing k with
  | nil => simp at h
  | cons d cs ih =>
    cases k with
    | zero =>
      simp only [List.set_cons_zero, List.countP_cons, List.getElem_cons_zero]
      split <;> split <;> omega
    | succ k =>
      have := ih (k := k) (by simpa using h)
      simp only [List.set_cons_succ, List.countP_cons, List.getElem_cons_succ]
      omega
theorem busyN_le (cs : List Cn) : busyN cs ≤ cs.length := List.countP_le_length
theorem freeN_busy {cs : List Cn} (h : freeN cs < cs.length) : cs[freeN cs].busy = false := by
  have := List.findIdx_getElem (xs := cs) (p := fun c : Cn => !c.busy) (w := h)
  cases hb : cs[freeN cs].busy with
  | false => rfl
  | true =>
    have e : (!(cs[freeN cs].busy)) = true := this
    rw [hb] at e
    cases e
theorem freeN_full {cs : List Cn} (h : ¬ freeN cs < cs.length) : ∀ c ∈ cs, c.busy = true := by
  intro c hc
  cases hb : c.busy with
  | true => rfl
  | false =>
    exact absurd (List.findIdx_lt_length_of_exists (p := fun c : Cn => !c.busy) ⟨c, hc, by simp [hb]⟩) h
theorem plain_dec (u : Nat) : plainB (decT u) = true := by
  have h := (dec_spells u).2.1
  unfold plainB decT
  simp only
  refine List.all_eq_true.2 fun c hc => ?_
  have := List.all_eq_true.1 h c (by simpa using hc)
  simp only [digitB, Bool.and_eq_true, decide_eq_true_eq] at this
  simp only [plainC, Bool.and_eq_true, decide_eq_true_eq]
  omega
theorem plain_app (a b : ByteArray) (ha : plainB a = true) (hb : plainB b = true) : plainB (a ++ b) = true := by
  unfold plainB at *
  rw [show (a ++ b).data = a.data ++ b.data by simp, Array.toList_append, List.all_append, ha, hb]
  rfl
theorem ctl_ok (e n : Int) (he : e ≤ 9999999) (hn : n ≤ 9999999) : controlB (ctlOf e n) = true := by
  unfold controlB
  rw [bound_in]
  · unfold ctlOf
    exact plain_app _ _ (plain_app _ _ (plain_app _ _ (by decide) (plain_dec _)) (by decide)) (plain_dec _)
  · unfold ctlOf
    simp only [ByteArray.size_append]
    have h3 : (⟨#[85]⟩ : ByteArray).size = 1 := rfl
    omega
  · have := ctl_size e n he hn; omega
theorem decT_inj {a b : Nat} (h : decT a = decT b) : a = b := by
  have h1 : (decT a).data.toList = (decT b).data.toList := by rw [h]
  unfold decT at h1
  simp only at h1
  rw [← (dec_spells a).1, ← (dec_spells b).1, h1]
theorem app_inj {a b c : ByteArray} (h : a ++ b = a ++ c) : b = c := by
  have h1 : (a ++ b).data.toList = (a ++ c).data.toList := by rw [h]
  rw [show (a ++ b).data = a.data ++ b.data by simp, show (a ++ c).data = a.data ++ c.data by simp, Array.toList_append, Array.toList_append] at h1
  have h2 := List.append_cancel_left h1
  exact ByteArray.ext (Array.toList_inj.1 h2)
theorem ctl_inj {e n m : Int} (hn : 0 ≤ n) (hm : 0 ≤ m) (h : ctlOf e n = ctlOf e m) : n = m := by
  unfold ctlOf at h
  have := decT_inj (app_inj h)
  omega

structure Served (x x' : Pl) (ss : List St) : Prop where
  epoch : x'.epoch = x.epoch
  next : x'.next = x.next + ss.length
  len : x'.conns.length = x.conns.length
  queue : ss.map (·.want) ++ x'.queue = x.queue
  busy : busyN x'.conns = busyN x.conns + ss.length
  ctl : ∀ i (h : i < ss.length), ss[i].control = ctlOf x.epoch (x.next + i)
  conns : ∀ c ∈ x'.conns, okCn c = true
  full : x'.queue = [] ∨ ∀ c ∈ x'.conns, c.busy = true
theorem Served.none (x : Pl) (hc : ∀ c ∈ x.conns, okCn c = true) (hf : x.queue = [] ∨ ∀ c ∈ x.conns, c.busy = true) : Served x x [] :=
  ⟨rfl, by simp, rfl, by simp, by simp, by simp, hc, hf⟩
theorem serve_served : ∀ (f : Nat) (now : Int) (x : Pl), x.queue.length ≤ f → x.epoch ≤ 9999999 → x.next + f ≤ 9999999 → 0 ≤ now → now ≤ 900000000 → (∀ q ∈ x.queue, okWn q = true) → (∀ c ∈ x.conns, okCn c = true) → Served x (serve f now x).1 (serve f now x).2
  | 0, now, x, hq, _, _, _, _, _, hc => Served.none x hc (.inl (List.length_eq_zero_iff.1 (by omega)))
  | f + 1, now, x, hq, he, hn, h0, h1, hw, hc => by
    cases hx : x.queue with
    | nil => rw [serve_nil _ _ _ hx]; exact Served.none x hc (.inl hx)
    | cons q qs =>
      by_cases hf : freeN x.conns < x.conns.length
      · rw [serve_step f now x q qs hx hf]
        have hwq : okWn q = true := hw q (by rw [hx]; simp)
        have hset : ∀ c ∈ (putP now x q qs).conns, okCn c = true := fun c hc' => by
          rcases List.mem_or_eq_of_mem_set hc' with h2 | h2
          · exact hc c h2
          · rw [h2]
            unfold okCn
            simp only [if_true]
            rw [ctl_ok _ _ he (by omega), hwq, decide_eq_true (by omega)]
            rfl
        have ih := serve_served f now (putP now x q qs) (by rw [hx] at hq; simp at hq; exact hq) he (by simp only [putP]; omega) h0 h1 (fun z hz => hw z (by rw [hx]; exact List.mem_cons_of_mem _ hz)) hset
        have hb := busyN_set hf ⟨true, ctlOf x.epoch x.next, q, now + 30⟩
        rw [freeN_busy hf] at hb
        simp only [Bool.false_eq_true, if_false, if_true] at hb
        refine ⟨ih.epoch, ?_, ?_, ?_, ?_, ?_, ih.conns, ih.full⟩
        · have := ih.next
          simp only [putP, List.length_cons] at this ⊢
          omega
        · have := ih.len
          simp only [putP, List.length_set] at this ⊢
          exact this
        · have := ih.queue
          have e2 : (putP now x q qs).queue = qs := rfl
          rw [e2] at this
          simp only [List.map_cons, List.cons_append, putS]
          rw [hx, this]
        · have := ih.busy
          simp only [putP] at this
          simp only [List.length_cons]
          simp only [putP] at this ⊢
          omega
        · intro i hi
          cases i with
          | zero => simp [putS]
          | succ i =>
            have := ih.ctl i (by simpa using hi)
            simp only [List.getElem_cons_succ]
            rw [this]
            simp only [putP]
            congr 1
            omega
      · rw [serve_full _ _ _ hf]
        exact Served.none x hc (.inr (freeN_full hf))

/-- numbers that wait: growing, behind the last that was sent, ahead of the next -/
def Grow (last : Int) (asked : Nat) (ts : List ByteArray) : Prop := ∃ ks : List Nat, ts = ks.map decT ∧ ks.Pairwise (· < ·) ∧ ∀ k ∈ ks, last < (k : Int) ∧ k < asked
/-- the controls that were used -/
def Used (e : Int) (n : Int) (cts : List ByteArray) : Prop := (cts.length : Int) = n ∧ ∀ c ∈ cts, ∃ m : Nat, (m : Int) < n ∧ c = ctlOf e m
/-- a pool ahead of serving -/
structure Pre (N : Nat) (asked : Nat) (x : Pl) : Prop where
  epoch : 0 ≤ x.epoch ∧ x.epoch ≤ 1000000
  next : 0 ≤ x.next ∧ x.next + x.queue.length ≤ asked
  len : x.conns.length = N
  qlen : x.queue.length ≤ 16
  q : ∀ q ∈ x.queue, okWn q = true
  c : ∀ c ∈ x.conns, okCn c = true
/-- what holds at a round's beginning -/
structure PJ (N : Nat) (asked : Nat) (refused ended last : Int) (x : Pl) (cts : List ByteArray) : Prop where
  pre : Pre N asked x
  full : x.queue = [] ∨ ∀ c ∈ x.conns, c.busy = true
  cnt : (asked : Int) = refused + ended + x.queue.length + busyN x.conns
  pos : 0 ≤ refused ∧ 0 ≤ ended
  grow : Grow last asked (x.queue.map (·.query))
  used : Used x.epoch x.next cts
/-- behind an operation: what was sent is still to be looked at; j of it have been -/
structure MJ (N : Nat) (asked : Nat) (refused ended last : Int) (x : Pl) (ss : List St) (j : Nat) (cts : List ByteArray) : Prop where
  pre : Pre N asked x
  full : x.queue = [] ∨ ∀ c ∈ x.conns, c.busy = true
  cnt : (asked : Int) = refused + ended + x.queue.length + busyN x.conns
  pos : 0 ≤ refused ∧ 0 ≤ ended
  n : j ≤ ss.length
  sl : (ss.length : Int) ≤ x.next
  grow : Grow last asked ((ss.drop j).map (·.want.query) ++ x.queue.map (·.query))
  used : Used x.epoch (x.next - (ss.length - j)) cts
  ctl : ∀ i (h : i < ss.length), ss[i].control = ctlOf x.epoch (x.next - ss.length + i)
theorem PJ.ok {N asked : Nat} {r e l : Int} {x : Pl} {cts : List ByteArray} (h : PJ N asked r e l x cts) (hN : 1 ≤ N ∧ N ≤ 4) (ha : asked ≤ 90) : okPl x = true := by
  have h1 := h.pre
  refine okPl_yes (headB_yes ⟨h1.epoch.1, h1.epoch.2, h1.next.1, by have := h1.next.2; omega, by rw [h1.len]; exact hN.1, by rw [h1.len]; exact hN.2, h1.qlen⟩) (mem_all h1.q) (mem_all h1.c) ?_
  rcases h.full with h2 | h2
  · exact .inl (by rw [h2]; rfl)
  · exact .inr (mem_all h2)
theorem MJ.done {N asked : Nat} {r e l : Int} {x : Pl} {ss : List St} {cts : List ByteArray} (h : MJ N asked r e l x ss ss.length cts) : PJ N asked r e l x cts := by
  refine ⟨h.pre, h.full, h.cnt, h.pos, ?_, ?_⟩
  · have := h.grow
    rw [List.drop_length] at this
    simpa using this
  · have := h.used
    rw [Int.sub_self, Int.sub_zero] at this
    exact this
/-- one of what was sent is looked at -/
theorem MJ.step {N asked : Nat} {r e l : Int} {x : Pl} {ss : List St} {j : Nat} {cts : List ByteArray} (h : MJ N asked r e l x ss j cts) (hj : j < ss.length) :
    ∃ k : Nat, ss[j].want.query = decT k ∧ l < (k : Int) ∧ k < asked ∧ (∀ c ∈ cts, c ≠ ss[j].control) ∧ MJ N asked r e (k : Int) x ss (j + 1) (cts ++ [ss[j].control]) := by
  obtain ⟨ks, e1, hp, hk⟩ := h.grow
  have hc := h.ctl j hj
  rw [List.drop_eq_getElem_cons hj] at e1
  cases ks with
  | nil => simp only [List.map_cons, List.cons_append, List.map_nil] at e1; cases e1
  | cons k ks =>
    simp only [List.map_cons, List.cons_append, List.cons.injEq] at e1
    obtain ⟨u1, u2⟩ := h.used
    rw [List.pairwise_cons] at hp
    have hsl := h.sl
    refine ⟨k, e1.1, (hk k (by simp)).1, (hk k (by simp)).2, fun c hc' he => ?_, ⟨h.pre, h.full, h.cnt, h.pos, hj, hsl, ⟨ks, e1.2, hp.2, fun m hm => ⟨by have := hp.1 m hm; omega, (hk m (List.mem_cons_of_mem _ hm)).2⟩⟩, ⟨by simp; omega, fun c hc' => ?_⟩, h.ctl⟩⟩
    · obtain ⟨m, hm, e2⟩ := u2 c hc'
      rw [e2, hc] at he
      have := ctl_inj (by omega) (by omega) he
      omega
    · rcases List.mem_append.1 hc' with h2 | h2
      · obtain ⟨m, hm, e2⟩ := u2 c h2
        exact ⟨m, by omega, e2⟩
      · simp at h2
        refine ⟨(x.next - ss.length + j).toNat, by omega, ?_⟩
        rw [h2, hc]
        congr 1
        omega
/-- a pool that is served -/
theorem Pre.served {N asked : Nat} {r e l now : Int} {x : Pl} {cts : List ByteArray} (h : Pre N asked x) (ha : asked ≤ 90) (hnow : 0 ≤ now ∧ now ≤ 900000000) (hcnt : (asked : Int) = r + e + x.queue.length + busyN x.conns) (hpos : 0 ≤ r ∧ 0 ≤ e) (hg : Grow l asked (x.queue.map (·.query))) (hu : Used x.epoch x.next cts) :
    MJ N asked r e l (serveA now x).1 (serveA now x).2 0 cts := by
  have hs : Served x (serveA now x).1 (serveA now x).2 := serve_served x.queue.length now x (Nat.le_refl _) (by have := h.epoch; omega) (by have := h.next; omega) hnow.1 hnow.2 h.q h.c
  revert hs
  generalize (serveA now x).1 = x'
  generalize (serveA now x).2 = ss
  intro hs
  have hql : ss.length + x'.queue.length = x.queue.length := by rw [← hs.queue]; simp
  have hn := hs.next
  have hb := hs.busy
  have hnx := h.next
  refine ⟨⟨by rw [hs.epoch]; exact h.epoch, by omega, by rw [hs.len]; exact h.len, by have := h.qlen; omega, fun q hq => h.q q (by rw [← hs.queue]; exact List.mem_append_right _ hq), hs.conns⟩, hs.full, by omega, hpos, Nat.zero_le _, by omega, ?_, ?_, fun i hi => ?_⟩
  · have e1 : (ss.drop 0).map (·.want.query) ++ x'.queue.map (·.query) = x.queue.map (·.query) := by
      rw [← hs.queue, List.map_append, List.map_map]
      rfl
    rw [e1]
    exact hg
  · rw [hs.epoch, show x'.next - (ss.length - (0 : Nat)) = x.next by omega]
    exact hu
  · rw [hs.ctl i hi, hs.epoch]
    congr 1
    omega
theorem Grow.mono {l : Int} {a b : Nat} {ts : List ByteArray} (h : Grow l a ts) (hb : a ≤ b) : Grow l b ts := by
  obtain ⟨ks, e, p, k⟩ := h
  exact ⟨ks, e, p, fun m hm => ⟨(k m hm).1, by have := (k m hm).2; omega⟩⟩
theorem Grow.snoc {l : Int} {a : Nat} {ts : List ByteArray} (h : Grow l a ts) (hl : l < (a : Int)) : Grow l (a + 1) (ts ++ [decT a]) := by
  obtain ⟨ks, e, p, k⟩ := h
  refine ⟨ks ++ [a], by rw [e]; simp, List.pairwise_append.2 ⟨p, by simp, fun m hm n hn => ?_⟩, fun m hm => ?_⟩
  · simp at hn; rw [hn]; exact (k m hm).2
  · rcases List.mem_append.1 hm with h1 | h1
    · exact ⟨(k m h1).1, by have := (k m h1).2; omega⟩
    · simp at h1; rw [h1]; exact ⟨hl, by omega⟩
theorem Grow.sub {l : Int} {a : Nat} {qs : List Wn} (p : Wn → Bool) (h : Grow l a (qs.map (·.query))) : Grow l a ((qs.filter p).map (·.query)) := by
  obtain ⟨ks, e, hp, k⟩ := h
  have key : ∀ (qs : List Wn) (ks : List Nat), qs.map (·.query) = ks.map decT → ∃ ks' : List Nat, (qs.filter p).map (·.query) = ks'.map decT ∧ ks'.Sublist ks := by
    intro qs
    induction qs with
    | nil => intro ks _; exact ⟨[], rfl, List.nil_sublist _⟩
    | cons q qs ih =>
      intro ks hks
      cases ks with
      | nil => simp at hks
      | cons m ks =>
        simp only [List.map_cons, List.cons.injEq] at hks
        obtain ⟨ks', h1, h2⟩ := ih ks hks.2
        cases hpq : p q with
        | true => exact ⟨m :: ks', by rw [List.filter_cons_of_pos hpq]; simp [h1, hks.1], h2.cons_cons m⟩
        | false => exact ⟨ks', by rw [List.filter_cons_of_neg (by simp [hpq])]; exact h1, h2.cons m⟩
  obtain ⟨ks', h1, h2⟩ := key qs ks e
  exact ⟨ks', h1, hp.sublist h2, fun m hm => k m (h2.subset hm)⟩
/-- an operation that does nothing -/
theorem PJ.still {N asked : Nat} {r e l : Int} {x : Pl} {cts : List ByteArray} (h : PJ N asked r e l x cts) : MJ N asked r e l x [] 0 cts := by
  refine ⟨h.pre, h.full, h.cnt, h.pos, Nat.le_refl _, h.pre.next.1, by simpa using h.grow, ?_, by simp⟩
  have := h.used
  rw [show x.next - (([] : List St).length - (0 : Nat)) = x.next by simp]
  exact this
/-- Ask -/
theorem PJ.ask {N asked : Nat} {r e l now : Int} {x : Pl} {cts : List ByteArray} (h : PJ N asked r e l x cts) (hN : 1 ≤ N ∧ N ≤ 4) (ha : asked < 90) (hl : l < (asked : Int)) (hnow : 0 ≤ now ∧ now ≤ 900000000) {q : Wn} (hq : okWn q = true) (hqq : q.query = decT asked) :
    ((askP x q now).2.2 = 0 ∧ MJ N (asked + 1) r e l (askP x q now).1 (askP x q now).2.1 0 cts) ∨ ((askP x q now).2.2 = 1 ∧ MJ N (asked + 1) (r + 1) e l (askP x q now).1 (askP x q now).2.1 0 cts) := by
  have hok := h.ok hN (by omega)
  have hp := h.pre
  have hcnt := h.cnt
  have hnx := hp.next
  unfold askP
  rw [if_pos ⟨hok, hq, decide_eq_true hnow⟩]
  by_cases hf : freeI x.conns < 0 ∧ 16 ≤ x.queue.length
  · rw [if_pos hf]
    have hpj : PJ N (asked + 1) (r + 1) e l x cts := ⟨⟨hp.epoch, by omega, hp.len, hp.qlen, hp.q, hp.c⟩, h.full, by omega, by have := h.pos; omega, h.grow.mono (by omega), h.used⟩
    exact .inr ⟨rfl, hpj.still⟩
  · rw [if_neg hf]
    refine .inl ⟨rfl, Pre.served ⟨hp.epoch, ⟨hnx.1, by simp [addQ]; omega⟩, hp.len, ?_, fun z hz => ?_, hp.c⟩ (by omega) hnow ?_ h.pos ?_ h.used⟩
    · simp only [addQ, List.length_append, List.length_cons, List.length_nil]
      have := hp.qlen
      by_cases h16 : x.queue.length = 16
      · exact absurd (full_free hok h16) hf
      · omega
    · rcases List.mem_append.1 hz with h1 | h1
      · exact hp.q z h1
      · simp at h1; rw [h1]; exact hq
    · simp [addQ]; omega
    · simp only [addQ, List.map_append, List.map_cons, List.map_nil]
      rw [hqq]
      exact h.grow.snoc hl
theorem okCn0 : okCn cn0 = true := by decide
/-- Answer -/
theorem PJ.answer {N asked : Nat} {r e l now : Int} {x : Pl} {cts : List ByteArray} (h : PJ N asked r e l x cts) (hN : 1 ≤ N ∧ N ≤ 4) (ha : asked ≤ 90) (hnow : 0 ≤ now ∧ now ≤ 900000000) (conn : Int) (control tag : ByteArray) :
    ((ansP x conn control tag now).2.2.2 = true ∧ MJ N asked r (e + 1) l (ansP x conn control tag now).1 (ansP x conn control tag now).2.1 0 cts) ∨ ((ansP x conn control tag now).2.2.2 = false ∧ MJ N asked r e l (ansP x conn control tag now).1 (ansP x conn control tag now).2.1 0 cts) := by
  have hok := h.ok hN ha
  have hp := h.pre
  have hcnt := h.cnt
  have hnow' : nowB now = true := decide_eq_true hnow
  cases hh : hitN x.conns conn control tag with
  | none => rw [ansP_none ⟨hok, hnow'⟩ hh]; exact .inr ⟨rfl, h.still⟩
  | some k =>
    rw [ansP_some ⟨hok, hnow'⟩ hh]
    have hk : ∃ hk : k < x.conns.length, x.conns[k].busy = true := by
      unfold hitN at hh
      split at hh
      · rename_i c hc
        obtain ⟨hlt, he⟩ := List.getElem?_eq_some_iff.1 hc
        split at hh
        · rename_i hx
          injection hh with hh
          subst hh
          exact ⟨hlt, by rw [he]; exact hx.2.1⟩
        · cases hh
      · cases hh
    obtain ⟨hk, hb⟩ := hk
    have hbs := busyN_set hk cn0
    rw [hb] at hbs
    simp only [if_true, cn0, Bool.false_eq_true, if_false] at hbs
    refine .inl ⟨rfl, Pre.served ⟨hp.epoch, hp.next, by simp only [List.length_set]; exact hp.len, hp.qlen, hp.q, fun c hc => ?_⟩ ha hnow ?_ (by have := h.pos; omega) h.grow h.used⟩
    · rcases List.mem_or_eq_of_mem_set hc with h1 | h1
      · exact hp.c c h1
      · rw [h1]; exact okCn0
    · simp only [cn0]
      omega
theorem busyN_exp (now : Int) : ∀ cs : List Cn, busyN (cs.map (expC now)) + (expW now cs).length = busyN cs
  | [] => rfl
  | c :: cs => by
    have ih := busyN_exp now cs
    unfold busyN expW at *
    simp only [List.map_cons, List.countP_cons, List.filter_cons, List.length_map] at ih ⊢
    cases hb : expB now c with
    | true =>
      have hc : c.busy = true := by unfold expB at hb; simp at hb; exact hb.1
      simp only [expC, hb, if_true, List.map_cons, List.length_cons, List.length_map, cn0, hc, Bool.false_eq_true, if_false]
      omega
    | false =>
      simp only [expC, hb, Bool.false_eq_true, if_false, List.length_map]
      omega
/-- Expire -/
theorem PJ.expire {N asked : Nat} {r e l now : Int} {x : Pl} {cts : List ByteArray} (h : PJ N asked r e l x cts) (hN : 1 ≤ N ∧ N ≤ 4) (ha : asked ≤ 90) (hnow : 0 ≤ now ∧ now ≤ 900000000) :
    MJ N asked r (e + (expP x now).2.2.length) l (expP x now).1 (expP x now).2.1 0 cts := by
  have hok := h.ok hN ha
  have hp := h.pre
  have hcnt := h.cnt
  unfold expP
  rw [if_pos ⟨hok, decide_eq_true hnow⟩]
  have hb := busyN_exp now x.conns
  refine Pre.served ⟨hp.epoch, hp.next, by simp only [List.length_map]; exact hp.len, hp.qlen, hp.q, fun c hc => ?_⟩ ha hnow ?_ (by have := h.pos; omega) h.grow h.used
  · obtain ⟨d, hd, rfl⟩ := List.mem_map.1 hc
    unfold expC
    split
    · exact okCn0
    · exact hp.c d hd
  · simp only
    omega
theorem busyN_fg (cl : Int) (tg : ByteArray) : ∀ cs : List Cn, busyN (cs.map (fgC cl tg)) ≤ busyN cs
  | [] => Nat.le_refl _
  | c :: cs => by
    have ih := busyN_fg cl tg cs
    unfold busyN at *
    simp only [List.map_cons, List.countP_cons]
    have hc : (if (fgC cl tg c).busy = true then 1 else 0) ≤ (if c.busy = true then 1 else 0) := by
      unfold fgC
      split
      · simp [cn0]
      · exact Nat.le_refl _
    omega
/-- Forget -/
theorem PJ.forget {N asked : Nat} {r e l now : Int} {x : Pl} {cts : List ByteArray} (h : PJ N asked r e l x cts) (hN : 1 ≤ N ∧ N ≤ 4) (ha : asked ≤ 90) (hnow : 0 ≤ now ∧ now ≤ 900000000) {cl : Int} {tg : ByteArray} (hcl : clientB cl = true) (htg : tagB tg = true) :
    MJ N asked r (e + ((x.queue.length : Int) + busyN x.conns) - ((fgP x cl tg now).1.queue.length : Int) - busyN (fgP x cl tg now).1.conns) l (fgP x cl tg now).1 (fgP x cl tg now).2.1 0 cts := by
  have hok := h.ok hN ha
  have hp := h.pre
  have hcnt := h.cnt
  have hpos := h.pos
  have hl := fgQ_len cl tg x.queue
  have hb := busyN_fg cl tg x.conns
  have hnx := hp.next
  have key := Pre.served (N := N) (asked := asked) (r := r) (e := e + ((x.queue.length : Int) + busyN x.conns) - ((fgQ cl tg x.queue).length : Int) - busyN (x.conns.map (fgC cl tg))) (l := l) (now := now) (x := ⟨x.epoch, x.next, x.conns.map (fgC cl tg), fgQ cl tg x.queue⟩) (cts := cts) ⟨hp.epoch, ⟨hnx.1, by simp only; omega⟩, by simp only [List.length_map]; exact hp.len, by simp only; have := hp.qlen; omega, fun q hq => hp.q q (List.mem_filter.1 hq).1, fun c hc => by
    obtain ⟨d, hd, rfl⟩ := List.mem_map.1 hc
    unfold fgC
    split
    · exact okCn0
    · exact hp.c d hd⟩ ha hnow (by simp only; omega) (by omega) (h.grow.sub _) h.used
  have hs : Served ⟨x.epoch, x.next, x.conns.map (fgC cl tg), fgQ cl tg x.queue⟩ (serveA now ⟨x.epoch, x.next, x.conns.map (fgC cl tg), fgQ cl tg x.queue⟩).1 (serveA now ⟨x.epoch, x.next, x.conns.map (fgC cl tg), fgQ cl tg x.queue⟩).2 := serve_served _ now _ (Nat.le_refl _) (by have := hp.epoch; simp only; omega) (by simp only; omega) hnow.1 hnow.2 (fun q hq => hp.q q (List.mem_filter.1 hq).1) (fun c hc => by
    obtain ⟨d, hd, rfl⟩ := List.mem_map.1 hc
    unfold fgC
    split
    · exact okCn0
    · exact hp.c d hd)
  unfold fgP
  rw [if_pos ⟨⟨hok, decide_eq_true hnow⟩, hcl, htg⟩]
  have e1 : ((fgQ cl tg x.queue).length : Int) + busyN (x.conns.map (fgC cl tg)) = ((serveA now ⟨x.epoch, x.next, x.conns.map (fgC cl tg), fgQ cl tg x.queue⟩).1.queue.length : Int) + busyN (serveA now ⟨x.epoch, x.next, x.conns.map (fgC cl tg), fgQ cl tg x.queue⟩).1.conns := by
    have h1 := hs.busy
    have h2 : (fgQ cl tg x.queue).length = _ := congrArg List.length hs.queue.symm
    simp only [List.length_append, List.length_map] at h1 h2
    omega
  simp only
  rw [show e + ((x.queue.length : Int) + busyN x.conns) - ((serveA now ⟨x.epoch, x.next, x.conns.map (fgC cl tg), fgQ cl tg x.queue⟩).1.queue.length : Int) - busyN (serveA now ⟨x.epoch, x.next, x.conns.map (fgC cl tg), fgQ cl tg x.queue⟩).1.conns = e + ((x.queue.length : Int) + busyN x.conns) - ((fgQ cl tg x.queue).length : Int) - busyN (x.conns.map (fgC cl tg)) by omega]
  exact key
end Go.Proofs.YtfdefjdogmhinaaDoor.Msg
