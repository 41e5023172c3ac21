import Derived.Test.YtcphfhfockjljaaGreatDoorMarkMsgwithListBuf
namespace Go.Proofs.YtcphfhfockjljaaGreatDoor.Msg
open Go.ChangeShapes Go.WideShapes Go.ChangeAt Go.RowKit
set_option linter.unusedVariables false
set_option linter.unusedSimpArgs false

theorem own_below {base : Nat} {e : TypeId} {w w' : World} {v : Value} {n : Nat} {vs : List Value} (h : w.ownsRow base e 1 v n vs) (hb : Below w.heap.size w w') : w'.ownsRow base e 1 v n vs := by
  obtain ⟨hl, ⟨rfl, h0⟩ | ⟨g, cap, cur, rfl, hg, hs, rest⟩⟩ := h
  · exact ⟨hl, .inl ⟨rfl, h0⟩⟩
  · refine ⟨hl, .inr ⟨g, cap, cur, rfl, hg, ?_, rest⟩⟩
    rw [hb.block g (by rw [Array.getElem?_eq_some_iff] at hs; exact hs.1)]
    exact hs
theorem keepN_snoc {α : Type} (p : α → Bool) (xs : List α) (k : Nat) (hk : k < xs.length) : keepN p (xs.take (k + 1)) = if p xs[k] = true then keepN p (xs.take k) else k + 1 := by
  have hle := keepN_le p (xs.take k)
  rw [List.length_take] at hle
  have hlen : (xs.take (k + 1)).length = k + 1 := by rw [List.length_take]; omega
  have key : ∀ (ys : List α) (j : Nat) (h : j < ys.length), keepN p ys ≤ j → p ys[j] = true := by
    intro ys
    induction ys with
    | nil => intro j h; simp at h
    | cons y ys ih =>
      intro j h hj
      cases hkn : keepN p ys with
      | zero =>
        cases j with
        | zero =>
          by_cases hy : p y = true
          · simpa using hy
          · have e : keepN p (y :: ys) = 1 := by simp [keepN, hkn, hy]
            omega
        | succ j => exact ih j (by simp at h; omega) (by omega)
      | succ q =>
        have e : keepN p (y :: ys) = q + 2 := by simp [keepN, hkn]
        cases j with
        | zero => omega
        | succ j => exact ih j (by simp at h; omega) (by omega)
  have last : ∀ (ys : List α) (h : keepN p ys - 1 < ys.length), 0 < keepN p ys → p ys[keepN p ys - 1] = false := by
    intro ys
    induction ys with
    | nil => intro h h0; simp [keepN] at h0
    | cons y ys ih =>
      intro h h0
      cases hkn : keepN p ys with
      | zero =>
        by_cases hy : p y = true
        · simp [keepN, hkn, hy] at h0
        · have e : keepN p (y :: ys) = 1 := by simp [keepN, hkn, hy]
          simp only [e]
          simpa using hy
      | succ q =>
        have e : keepN p (y :: ys) = q + 2 := by simp [keepN, hkn]
        have hq : q < ys.length := by have := keepN_le p ys; omega
        have := ih (by rw [hkn]; simpa using hq) (by omega)
        simp only [hkn] at this
        simp only [e]
        simpa using this
  by_cases hp : p xs[k] = true
  · rw [if_pos hp]
    apply keepN_is
    · omega
    · intro j hj hge
      rw [hlen] at hj
      rw [List.getElem_take]
      by_cases e : j = k
      · subst e; exact hp
      · have := key (xs.take k) j (by rw [List.length_take]; omega) hge
        rwa [List.getElem_take] at this
    · intro h h0
      have h' : keepN p (xs.take k) - 1 < (xs.take k).length := by rw [List.length_take]; omega
      have := last (xs.take k) h' h0
      rw [List.getElem_take] at this ⊢
      exact this
  · rw [if_neg hp]
    apply keepN_is
    · omega
    · intro j hj hge; omega
    · intro h h0
      rw [List.getElem_take]
      simpa using hp

def repsL (c1 c2 : UInt8) (l : List UInt8) : List (List (List UInt8)) := trimE List.isEmpty ((cutL c2 l).map (compsL c1))
def repT (r : List (List UInt8)) : Rep := r.map txt
theorem info_facts {P : Program} {e : TypeId} {z : Value} {sz bytes : Nat} (h : (P.info? e).map (fun i => (i.zero, i.size, i.bytes)) = some (some z, sz, bytes)) : ∃ i, P.info? e = some i ∧ i.zero = some z ∧ i.size = sz ∧ i.bytes = bytes := by
  cases hi : P.info? e with
  | none => rw [hi] at h; cases h
  | some i =>
    rw [hi] at h
    simp only [Option.map_some, Option.some.injEq, Prod.mk.injEq] at h
    exact ⟨i, rfl, h.1, h.2.1, h.2.2⟩
theorem one_slice (a : Option Addr) (n c : Nat) : ∀ u ∈ [Value.slice a n c], u.oneCell' = true := by
  intro u hu
  simp at hu
  subst hu
  rfl

set_option maxRecDepth 100000 in
set_option maxHeartbeats 2000000 in
theorem reps_any (s d : ByteArray) (w : World) (hs : s.size ≤ 1048576) (hd : 2 < d.size) :
    Calls Tryz.prog 54 #[.string s, .string d] w fun e w' => ∃ u, e = .returned (.agg #[u]) ∧ ∃ bs, OReps w' u ((repsL d[1] d[2] s.data.toList).map repT) bs ∧ bs.Nodup ∧ (∀ b ∈ bs, w.heap.size ≤ b) ∧ Below w.heap.size w w' := by
  obtain ⟨i0, hi, hz0, hz1, hz2⟩ := info_facts info_Rep
  have hd' : (2 : Int) < (d.size : Int) := by omega
  have hb0 := (Below.refl w.heap.size w).alloc (Nat.le_refl _) (Obj.cells #[.slice none 0 0] 49)
  have hsl : s.data.toList.length = s.size := by simp
  have HL : Hid ((cutL d[2] s.data.toList).length ≤ 1048577) := by have := cutL_len d[2] s.data.toList; show _ ≤ _; omega
  have HZ : Hid (∀ p ∈ cutL d[2] s.data.toList, p.length ≤ 1048576) := fun p hp => by have := cutL_sz d[2] s.data.toList p hp; omega
  have HP : Hid (repsL d[1] d[2] s.data.toList = trimE List.isEmpty ((cutL d[2] s.data.toList).map (compsL d[1]))) := rfl
  have hpos := cutL_pos d[2] s.data.toList
  clear hsl
  go_enter Tryz.func54, Tryz.ntmps54
  go_wp2_with fail
  refine (cut_any s d[2] _ hs).mono ?_
  rintro e W1 ⟨u, rfl, hu, hb1⟩
  generalize cutL d[2] s.data.toList = ps at *
  obtain ⟨g, cap, rfl, hg, hgl, hcap, hcm, hcell⟩ := pieces_form hu hpos
  have HC := hide hcell
  have hlen := HL.out
  have hbw := bjoin' hb1 hb0
  have hres : W1.cell? ⟨w.heap.size, 0, none⟩ = some (.slice none 0 0) := by rw [hb1.cell (p := ⟨w.heap.size, 0, none⟩) (by simp)]; simp
  have hrfz : W1.frozen? ⟨w.heap.size, 0, none⟩ = false := by rw [hb1.frozen (p := ⟨w.heap.size, 0, none⟩) (by simp)]; simp
  have hsz1 : w.heap.size < W1.heap.size := by have := hb1.size; simp at this; omega
  have HRES := hide (And.intro hres hrfz)
  clear hu hcell hres hrfz
  go_wp2_with fail
  go_loopw [6, 7, 8] (fun v6 n i wr => ∃ k : Nat, k ≤ ps.length ∧ i = .int .i64 (k : Int) ∧ n = .int .i64 ((keepN List.isEmpty ((ps.map (compsL d[1])).take k) : Nat) : Int) ∧ LBuf OStrs 51 W1.heap.size wr v6 (((ps.map (compsL d[1])).take k).map repT) ∧ Below W1.heap.size W1 wr) (fun _ _ i _ => ps.length - (intOf i).toNat)
  case atStart => exact ⟨0, Nat.zero_le _, rfl, by simp [keepN], by simpa using LBuf.empty OStrs 51 W1.heap.size W1 (Nat.le_refl _), (Below.refl _ _).alloc (Nat.le_refl _) _⟩
  case round =>
    obtain ⟨k, hk, rfl, rfl, hL, hb⟩ := hrel
    by_cases hlt : k < ps.length
    · have hkm : k < (ps.map (compsL d[1])).length := by rw [List.length_map]; exact hlt
      have hpc : wr.cell? ⟨g, k, none⟩ = some (.string (txt ps[k])) := by rw [hb.cell (p := ⟨g, k, none⟩) hgl]; exact (HC.out k hlt).1
      have hpsz : (txt ps[k]).size ≤ 1048576 := by rw [txt_size]; exact HZ.out ps[k] (List.getElem_mem hlt)
      have hki : (k : Int) < (ps.length : Int) := by omega
      have hzr : W1.heap.size ≤ wr.heap.size := hb.size
      have HLL := hide hL
      have HB := hide hb
      clear hL hb
      go_wp2_with fail
      refine (comps_any (txt ps[k]) d _ hpsz (by omega)).mono ?_
      rintro e w2 ⟨ur, rfl, bs, hO, hnd, hfr, hb2⟩
      rw [txt_data] at hO
      obtain ⟨a3, cap3, hur, hfm⟩ := (OAt.toAt toAt_str hO (lo := 0) (fun _ _ => Nat.zero_le _)).form
      subst hur
      clear hfm
      have hb2' := HB.out
      obtain ⟨vs, bss, hv1, hv2, hv3, hv4, hv5⟩ := HLL.out
      have HOWN : Hid (wr.ownsRow W1.heap.size 51 1 u6 ((((ps.map (compsL d[1])).take k).map repT)).length vs) := hv3
      have hlk : (((ps.map (compsL d[1])).take k).map repT).length = k := by rw [List.length_map, List.length_take]; omega
      have hown : wr.ownsRow W1.heap.size 51 1 u6 k vs := by rw [← hlk]; exact hv3
      have hob : ∀ b, u6.ownBlock = some b → b < wr.heap.size := fun b hb' => (own_lt hown hb').2
      have HOB := hide hob
      have hbA : Below wr.heap.size wr ((w2.alloc (Obj.cells #[.slice a3 (List.map txt (compsL d[1] ps[k])).length cap3] 51)).alloc (Obj.cells #[.slice a3 (List.map txt (compsL d[1] ps[k])).length cap3] 51)) :=
        (hb2.alloc hb2.size _).alloc (by rw [Deep.nblk_alloc]; exact Nat.le_succ_of_le hb2.size) _
      have hOA := OAt.kept keptO_str hO (w' := ((w2.alloc (Obj.cells #[.slice a3 (List.map txt (compsL d[1] ps[k])).length cap3] 51)).alloc (Obj.cells #[.slice a3 (List.map txt (compsL d[1] ps[k])).length cap3] 51))) (by simp; omega) (fun c hc => by
        have hcl := OAt.lt ltO_str hO c hc
        rw [Deep.blk_alloc_lt _ _ _ (by simp; omega), Deep.blk_alloc_lt _ _ _ hcl])
      have hownA := own_below hown hbA
      have HBA := hide hbA
      have HOA := hide hOA
      have HND := hide hnd
      have HFR := hide hfr
      have HB2 := hide hb2
      have hz2' : wr.heap.size ≤ w2.heap.size := hb2.size
      clear hv1 hv2 hv3 hv4 hv5 hown hob hbA hOA hnd hfr hO hb2 hb2' hlk
      generalize hM : (List.map txt (compsL d[1] ps[k])).length = M at *
      have HM := hide hM
      clear hM
      go_wp2_with (first
        | (at_builtin; refine wpList_append_own_at _ rfl _ _ 47 rfl W1.heap.size 51 i0 (.agg #[.slice none 0 0]) 1 24 Tryz.underlying47 hi hz0 hz1 hz2 rfl (by decide) _ _ _ rfl hownA ⟨w2.heap.size + 1, 0, none⟩ 1 1 [.slice a3 M cap3] rfl rfl ?c1 ?c2 ?c3 ?c4 ?c5 ?_)
        | fail)
      case c1 => exact fun j u hj => by have := new_cell (w2.alloc (Obj.cells #[.slice a3 M cap3] 51)) _ 51 j u hj; rwa [Deep.nblk_alloc] at this
      case c2 => exact one_slice _ _ _
      case c3 => unfold maxLen; omega
      case c4 => omega
      case c5 => simp; omega
      intro v' w5 hown' hgrow hnil hat
      have hlk : k = (((ps.map (compsL d[1])).take k).map repT).length := by rw [List.length_map, List.length_take]; omega
      have HPU := LBuf.push (O := OStrs) (fun _ _ _ _ _ h s d => OAt.kept keptO_str h s d) (fun _ _ _ _ h => OAt.lt ltO_str h) HLL.out hzr HBA.out HOA.out HFR.out HND.out HOWN.out hlk hown' hgrow (by simpa using hat)
      have HPU2 : Hid (LBuf OStrs 51 W1.heap.size w5 v' (((ps.map (compsL d[1])).take (k + 1)).map repT)) := by
        rw [List.take_succ_eq_append_getElem hkm, List.map_append, List.map_cons, List.map_nil, List.getElem_map]; exact HPU
      have hr5 : w5.cell? ⟨w2.heap.size, 0, none⟩ = some (.slice a3 M cap3) := by
        rw [World.cell?_of_block (hgrow.block w2.heap.size (by simp; omega) (fun e => by have := HOB.out _ e.symm; omega))]; simp
      have HBW5 : Hid (Below W1.heap.size W1 w5) := (HB.out.trans (HBA.out.mono hzr)).grown hgrow (by simp; omega) (fun b hb' => (own_lt hownA hb').1)
      have hw5 : w2.heap.size < w5.heap.size := by have := hgrow.size; simp at this; omega
      have HKS := hide (keepN_snoc List.isEmpty (ps.map (compsL d[1])) k hkm)
      have hge : (ps.map (compsL d[1]))[k] = compsL d[1] ps[k] := by rw [List.getElem_map]
      have HGE := hide hge
      have hMl : M = (compsL d[1] ps[k]).length := by rw [← HM.out, List.length_map]
      clear hown' hgrow hnil hat HPU hownA hge hlk
      by_cases hM0 : M = 0
      · have HEM : Hid ((compsL d[1] ps[k]).isEmpty = true) := by rw [List.length_eq_zero_iff.1 (by omega : (compsL d[1] ps[k]).length = 0)]; rfl
        have hMz : ¬ (0 : Int) < (M : Int) := by omega
        have HNN : Hid (keepN List.isEmpty ((ps.map (compsL d[1])).take (k + 1)) = keepN List.isEmpty ((ps.map (compsL d[1])).take k)) := by rw [HKS.out, HGE.out, if_pos HEM.out]; exact rfl
        clear hM0 hMl
        go_wp2_with fail
        go_roundw
        case rel => exact ⟨k + 1, by omega, by go_num, by rw [HNN.out], HPU2.out, HBW5.out⟩
        case measure => simp [intOf]; omega
      · have HEM : Hid (¬ (compsL d[1] ps[k]).isEmpty = true) := by
          intro h
          rw [List.isEmpty_iff] at h
          rw [h] at hMl
          exact hM0 hMl
        have hMz : (0 : Int) < (M : Int) := by omega
        have HNN : Hid (keepN List.isEmpty ((ps.map (compsL d[1])).take (k + 1)) = k + 1) := by rw [HKS.out, HGE.out, if_neg HEM.out]; exact rfl
        clear hM0 hMl
        go_wp2_with fail
        go_roundw
        case rel => exact ⟨k + 1, by omega, by go_num, by rw [HNN.out]; go_num, HPU2.out, HBW5.out⟩
        case measure => simp [intOf]; omega
    · obtain rfl : k = ps.length := by omega
      have hall : (ps.map (compsL d[1])).take ps.length = ps.map (compsL d[1]) := by rw [← List.length_map (f := compsL d[1]), List.take_length]
      rw [hall] at hL ⊢
      have hkn := keepN_le List.isEmpty (ps.map (compsL d[1]))
      rw [List.length_map] at hkn
      have hkl : ((ps.map (compsL d[1])).map repT).length = ps.length := by simp
      obtain ⟨a6, cap6, rfl, hc6, hc6m, bs, hO, hnd, hbs⟩ := LBuf.take (R := RepO) (fun w b off x bs v h1 h2 => ⟨v, h1, h2⟩) hL (by rw [hkl]; omega) (n := keepN List.isEmpty (ps.map (compsL d[1]))) (by rw [hkl]; exact hkn)
      rw [hkl] at hc6
      have HO : Hid (OReps wr (.slice a6 (keepN List.isEmpty (ps.map (compsL d[1]))) cap6) ((repsL d[1] d[2] s.data.toList).map repT) bs) := by rw [HP.out]; unfold trimE; rw [List.map_take]; exact hO
      have hres : wr.cell? ⟨w.heap.size, 0, none⟩ = some (.slice none 0 0) := by rw [hb.cell (p := ⟨w.heap.size, 0, none⟩) hsz1]; exact HRES.out.1
      have hrfz : wr.frozen? ⟨w.heap.size, 0, none⟩ = false := by rw [hb.frozen (p := ⟨w.heap.size, 0, none⟩) hsz1]; exact HRES.out.2
      have hbwr : Below w.heap.size w wr := hbw.trans (hb.mono (by omega))
      have hszr : w.heap.size < wr.heap.size := by have := hb.size; omega
      generalize keepN List.isEmpty (ps.map (compsL d[1])) = N at *
      clear hL hO hall
      rw [hkl]
      go_wp2_with fail
      refine bodyPost_ret (v := .agg #[.slice a6 N cap6]) (by simp [results, Tryz.results54, go_sem, hres, hszr]) rfl ⟨_, rfl, bs, ?_, hnd, fun b hb' => by have := hbs b hb'; omega, ?_⟩
      · exact OAt.kept keptO_rep HO.out (by rw [Deep.nblk_setCell]; exact Nat.le_refl _) fun c hc => Deep.blk_setCell_other _ _ _ _ (by have := hbs c hc; simp; omega)
      · exact hbwr.setCell (by simp) _
end Go.Proofs.YtcphfhfockjljaaGreatDoor.Msg
