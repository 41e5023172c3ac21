import Derived.Test.YtfdefjdogmhinaaDoorArmA
import Derived.Test.YtfdefjdogmhinaaDoorArmB
import Derived.Test.YtfdefjdogmhinaaDoorArmC
import Derived.Test.YtfdefjdogmhinaaDoorArmD
import Derived.Deep.CutRange
namespace Go.Proofs.YtfdefjdogmhinaaDoor.Msg
open Go.ChangeShapes Go.WideShapes Go.ChangeAt Go.RowKit
set_option linter.unusedVariables false
set_option linter.unusedSimpArgs false

set_option maxRecDepth 100000 in
set_option maxHeartbeats 40000000 in
theorem lawPool (bs : List UInt8) (v : Value) (w : World) {lo : Nat} (hv : BytesAt lo w v bs) (hI : Ito w.heap.size w) :
    Calls Tryd.prog 3 #[v] w fun en w' => en = .returned (.bool true) ∧ Below w.heap.size w w' := by
  have hvl := hv.1
  have HBY : Hid (∀ X, Below w.heap.size w X → BytesAt lo X v bs) := fun X hX => At.kept kept_byte hv hX
  have HIT : Hid (∀ X, Below w.heap.size w X → Ito X.heap.size X) := fun X hX => hI.up hX
  obtain ⟨va, vc, hvf, _⟩ := bytes_form hv
  subst hvf
  clear hv hI
  by_cases hbig : ¬ (bs.length : Int) ≤ 1048576
  · have hbig2 : 1048576 < (bs.length : Int) := by omega
    clear hbig HBY HIT
    go_enter Tryd.func3, Tryd.ntmps3
    go_wp2_with fail
    go_ret
    exact ⟨rfl, Below.refl _ _⟩
  have hbig := Decidable.not_not.1 hbig
  have hbig2 : ¬ 1048576 < (bs.length : Int) := by omega
  -- how many connections, which epoch, how many rounds
  obtain ⟨y0, hy0⟩ : ∃ y0, pickN bs 0 = y0 := ⟨_, rfl⟩
  obtain ⟨y1, hy1⟩ : ∃ y1, pickN bs 1 = y1 := ⟨_, rfl⟩
  have hy0l : y0 ≤ 1000 := by rw [← hy0]; exact pickN_le bs 0 (by omega)
  have hy1l : y1 ≤ 1000 := by rw [← hy1]; exact pickN_le bs 1 (by omega)
  obtain ⟨E, hE⟩ : ∃ E : Nat, y1 % 3 = E := ⟨_, rfl⟩
  have hEl : E ≤ 2 := by omega
  obtain ⟨r0, hr0⟩ : ∃ r0 : Nat, y0 % 4 = r0 := ⟨_, rfl⟩
  obtain ⟨N, hN⟩ : ∃ N : Nat, 1 + r0 = N := ⟨_, rfl⟩
  have hNl : 1 ≤ N ∧ N ≤ 4 := by omega
  have hm0 : (y0 : Int).tmod 4 = (r0 : Int) := by rw [← hr0]; exact tmod_nat y0 4
  have hm1 : (y1 : Int).tmod 3 = (E : Int) := by rw [← hE]; exact tmod_nat y1 3
  have hm0' : (y0 : Int) % 4 = (r0 : Int) := by omega
  have hm1' : (y1 : Int) % 3 = (E : Int) := by omega
  have hwN : (1 : Int) + (r0 : Int) = (N : Int) := by omega
  have hwN2 : IntKind.i64.wrap (N : Int) = (N : Int) := by rw [IntKind.wrap_i64]; omega
  have HNI := hide (fun W => newI_any (E : Int) (N : Int) W)
  have HNS := hide (fun W => newS_any (E : Int) (N : Int) W)
  have hnew : newP (E : Int) (N : Int) = ⟨(E : Int), 0, List.replicate N cn0, []⟩ := by
    unfold newP
    rw [if_pos (by unfold newOk; omega)]
    rfl
  rw [hnew] at HNI HNS
  have hrl : (List.replicate N cn0).length = N := List.length_replicate
  have HPK := hide (fun i (hi : i ≤ 1000) X (hX : Below w.heap.size w X) => pick_any bs (.slice va bs.length vc) i X (HBY.out X hX) hi)
  have HPK0 : Hid (∀ X, Below w.heap.size w X → Calls Tryd.prog 4 #[.slice va bs.length vc, .int .i64 0] X fun e w' => e = .returned (.int .i64 (y0 : Int)) ∧ w' = X) := fun X hX => by have := HPK.out 0 (by omega) X hX; rw [hy0] at this; exact this
  have HPK1 : Hid (∀ X, Below w.heap.size w X → Calls Tryd.prog 4 #[.slice va bs.length vc, .int .i64 1] X fun e w' => e = .returned (.int .i64 (y1 : Int)) ∧ w' = X) := fun X hX => by have := HPK.out 1 (by omega) X hX; rw [hy1] at this; exact this
  have HST := hide (PJ.start (N := N) (E := E) hNl hEl)
  obtain ⟨n, hn⟩ : ∃ n : Nat, (if bs.length ≤ 90 then bs.length else 90) = n := ⟨_, rfl⟩
  have hn90 : n ≤ 90 := by rw [← hn]; split <;> omega
  have HNN := hide hn
  clear hy0 hy1 hr0 hE hnew hN hn
  go_enter Tryd.func3, Tryd.ntmps3
  go_wp2_with fail
  refine (HPK0.out _ (Below.refl _ _)).mono ?_
  rintro en W1 ⟨rfl, hW1⟩
  rw [hW1]
  clear hW1 W1
  go_wp2_with fail
  refine (HPK1.out _ (Below.refl _ _)).mono ?_
  rintro en W1 ⟨rfl, hW1⟩
  rw [hW1]
  clear hW1 W1
  go_wp2_with fail
  refine (HNI.out _).mono ?_
  rintro en W1 ⟨cv, qv, b1, b2, rfl, hpo, hb1⟩
  obtain ⟨⟨a1, c1, e1⟩, a2, c2, e2⟩ := hpo.at.form
  simp only [hrl, List.length_nil] at e1 e2
  subst e1 e2
  have hpl1 := hpo.at.lo0
  clear hpo
  simp only [plV]
  obtain ⟨X1, hX1⟩ : ∃ X1, W1.alloc (Obj.cells #[.int .i64 (E : Int), .int .i64 0, .slice a1 N c1, .slice a2 0 c2] 27) = X1 := ⟨_, rfl⟩
  have hbx1 : Below W1.heap.size W1 X1 := by rw [← hX1]; exact (Below.refl _ _).alloc (Nat.le_refl _) _
  have HX1B : Hid (Box X1 W1.heap.size 27 #[.int .i64 (E : Int), .int .i64 0, .slice a1 N c1, .slice a2 0 c2]) := by rw [← hX1]; exact Box.new _ _ _
  have HX1 := hide (bjoin hbx1 hb1)
  have HP1 := hide (hpl1.below hbx1)
  have HPlo := hide hb1.size
  clear hb1 hbx1 hpl1
  go_wp2_with fail
  refine (HPK1.out _ HX1.out).mono ?_
  rintro en W2 ⟨rfl, hW2⟩
  rw [hW2]
  clear hW2 W2
  go_wp2_with fail
  refine (HNS.out _).mono ?_
  rintro en W2 ⟨cv2, qv2, rfl, hpl2, hb2⟩
  obtain ⟨⟨a3, c3, e3⟩, a4, c4, e4⟩ := hpl2.form
  simp only [hrl, List.length_nil] at e3 e4
  subst e3 e4
  simp only [plV]
  obtain ⟨X2, hX2⟩ : ∃ X2, W2.alloc (Obj.cells #[.int .i64 (E : Int), .int .i64 0, .slice a3 N c3, .slice a4 0 c4] 27) = X2 := ⟨_, rfl⟩
  have hbx2 : Below W2.heap.size W2 X2 := by rw [← hX2]; exact (Below.refl _ _).alloc (Nat.le_refl _) _
  have hbx2B : Box X2 W2.heap.size 27 #[.int .i64 (E : Int), .int .i64 0, .slice a3 N c3, .slice a4 0 c4] := by rw [← hX2]; exact Box.new _ _ _
  have hb12 := bjoin hbx2 hb2
  obtain ⟨X3, hX3⟩ : ∃ X3, X2.alloc (Obj.cells #[] 9) = X3 := ⟨_, rfl⟩
  have hbx3 : Below X2.heap.size X2 X3 := by rw [← hX3]; exact (Below.refl _ _).alloc (Nat.le_refl _) _
  have HX3 : Hid (Below w.heap.size w X3) := bjoin hbx3 (bjoin hb12 HX1.out)
  have HCB : Hid (CB X2.heap.size X3 (.slice (some ⟨X2.heap.size, 0, none⟩) 0 0) []) := by rw [← hX3]; exact CB.lit X2
  have HPQ : Hid (PQ W1.heap.size W2.heap.size ⟨(E : Int), 0, List.replicate N cn0, []⟩ (.slice a1 N c1) (.slice a2 0 c2) (.slice a3 N c3) (.slice a4 0 c4) X3) :=
    ⟨HX1B.out.below (bjoin hbx3 hb12), hbx2B.below hbx3, HP1.out.below (bjoin hbx3 hb12), At.lo0 (hpl2.1.kept kept_flat (bjoin hbx3 hbx2)), At.lo0 (hpl2.2.kept kept_flat (bjoin hbx3 hbx2))⟩
  have HX2S : Hid (X2.heap.size = W2.heap.size + 1) := by show _ = _; rw [← hX2, Deep.nblk_alloc]
  have HNE : Hid (W1.heap.size ≠ W2.heap.size) := fun e => by have h1 := HX1B.out.lt; have h2 := hb2.size; omega
  have HLO : Hid (w.heap.size ≤ W1.heap.size ∧ w.heap.size ≤ W2.heap.size ∧ w.heap.size ≤ X2.heap.size) := ⟨HPlo.out, Nat.le_trans HX1.out.size hb2.size, Nat.le_trans HX1.out.size hb12.size⟩
  clear hpl2 hb2 hbx2 hbx2B hb12 hbx3
  clear HX1B HP1 HPlo HX1
  go_upto_if 74 with fail
  go_cut [12] from 73 to 74 (fun v12 wx => v12 = .int .i64 (n : Int) ∧ wx = X3)
  case first =>
    by_cases h90 : bs.length ≤ 90
    · have h91 : ¬ 90 < (bs.length : Int) := by omega
      have h92 : decide (90 < (bs.length : Int)) = false := decide_eq_false h91
      have HN2 : Hid (bs.length = n) := by have := HNN.out; rw [if_pos h90] at this; exact this
      clear h90
      go_wp2_with fail
      go_meet
      case rel => exact ⟨by rw [HN2.out], rfl⟩
    · have h91 : 90 < (bs.length : Int) := by omega
      have h92 : decide (90 < (bs.length : Int)) = true := decide_eq_true h91
      have HN2 : Hid (90 = n) := by have := HNN.out; rw [if_neg h90] at this; exact this
      clear h90
      go_wp2_with fail
      go_meet
      case rel => exact ⟨by rw [← HN2.out]; rfl, rfl⟩
  case rest =>
    obtain ⟨rfl, hX⟩ := hcut
    rw [hX]
    clear hX HNN hX1 hX2 hX3
    go_wp2_with fail
    go_loopg [6, 7, 8, 9, 10, 11, 13] n (fun q v6 v7 v8 v9 v10 v11 v13 wx => ∃ k : Nat, k ≤ n ∧ q = n - k ∧ v13 = .int .i64 (k : Int) ∧ RJ N W1.heap.size W2.heap.size X2.heap.size k v6 v7 v8 v9 v10 v11 wx ∧ Below w.heap.size w wx)
    case atStart => exact ⟨0, Nat.zero_le _, rfl, rfl, ⟨0, 0, 0, 0, -1, _, [], _, _, _, _, rfl, rfl, rfl, rfl, rfl, by omega, by omega, by omega, by omega, HST.out, HPQ.out, HCB.out⟩, HX3.out⟩
    case round =>
      clear HST HPQ HCB HX3
      obtain ⟨k, hk, rfl, rfl, ⟨nw, ak, rf, en, ls, x, cts, cv, qv, cv2, qv2, rfl, rfl, rfl, rfl, rfl, hnw, hak, hls, hls1, hpj, hpq, hcb⟩, hbw⟩ := hrel
      obtain ⟨W, rfl⟩ : ∃ x, x = wr := ⟨_, rfl⟩
      by_cases hkn : k < n
      · have hkn2 : (k : Int) < (n : Int) := by omega
        have hk90 : (k : Int) ≤ 90 := by omega
        obtain ⟨ux, hux⟩ : ∃ ux, pickN bs k = ux := ⟨_, rfl⟩
        obtain ⟨uy, huy⟩ : ∃ uy, pickN bs (k * 3 + 1) = uy := ⟨_, rfl⟩
        have huxl : ux ≤ 1000 := by rw [← hux]; exact pickN_le bs k (by omega)
        have huyl : uy ≤ 1000 := by rw [← huy]; exact pickN_le bs (k * 3 + 1) (by omega)
        have HPX : Hid (∀ X, Below w.heap.size w X → Calls Tryd.prog 4 #[.slice va bs.length vc, .int .i64 (k : Int)] X fun e w' => e = .returned (.int .i64 (ux : Int)) ∧ w' = X) := fun X hX => by have := HPK.out k (by omega) X hX; rw [hux] at this; exact this
        have HPY : Hid (∀ X, Below w.heap.size w X → Calls Tryd.prog 4 #[.slice va bs.length vc, .int .i64 ((k : Int) * 3 + 1)] X fun e w' => e = .returned (.int .i64 (uy : Int)) ∧ w' = X) := fun X hX => by have := HPK.out (k * 3 + 1) (by omega) X hX; rw [huy, show ((k * 3 + 1 : Nat) : Int) = (k : Int) * 3 + 1 by omega] at this; exact this
        obtain ⟨r8, hr8⟩ : ∃ r8 : Nat, ux % 8 = r8 := ⟨_, rfl⟩
        obtain ⟨pl, hpl⟩ : ∃ pl : Nat, uy % N = pl := ⟨_, rfl⟩
        have hplN : pl < N := by rw [← hpl]; exact Nat.mod_lt _ (by omega)
        have hr8l : r8 < 8 := by omega
        have hm8 : (ux : Int).tmod 8 = (r8 : Int) := by rw [← hr8]; exact tmod_nat ux 8
        have hm8' : (ux : Int) % 8 = (r8 : Int) := by omega
        have hmN : (uy : Int).tmod (N : Int) = (pl : Int) := by rw [← hpl]; exact tmod_nat uy N
        have hmN' : (uy : Int) % (N : Int) = (pl : Int) := by rw [← hpl]; exact emod_nat uy N
        have hN0 : ¬ (N : Int) = 0 := by omega
        have hN0b : ((N : Int) == 0) = false := by simpa using hN0
        obtain ⟨Wa, hWa⟩ : ∃ Wa, W.alloc (Obj.cells #[] 48) = Wa := ⟨_, rfl⟩
        obtain ⟨Wb, hWb⟩ : ∃ Wb, Wa.alloc (Obj.cells #[] 48) = Wb := ⟨_, rfl⟩
        have hbwa : Below W.heap.size W Wa := by rw [← hWa]; exact (Below.refl _ _).alloc (Nat.le_refl _) _
        have hbwb : Below Wa.heap.size Wa Wb := by rw [← hWb]; exact (Below.refl _ _).alloc (Nat.le_refl _) _
        have hbab : Below W.heap.size W Wb := bjoin hbwb hbwa
        have HBW : Hid (Below w.heap.size w Wb) := bjoin hbab hbw
        obtain ⟨⟨a1, c1, e1⟩, a2, c2, e2⟩ := hpq.2.2.1.form
        obtain ⟨⟨a3, c3, e3⟩, a4, c4, e4⟩ := hpq.2.2.2.form
        obtain ⟨ac, cc, e11, _⟩ := FB.form hcb.1
        have HLEN := hide hpj.pre.len
        rw [HLEN.out] at e1 e3
        subst e1 e2 e3 e4 e11
        have HPQ := hide (hpq.below hbab)
        have HCB := hide (hcb.below hbab)
        have HPJ := hide hpj
        have HBW0 := hide hbw
        have hrf : 0 ≤ rf ∧ rf ≤ 100 := by have h1 := hpj.cnt; have h2 := hpj.pos; omega
        have hen : 0 ≤ en ∧ en ≤ 100 := by have h1 := hpj.cnt; have h2 := hpj.pos; omega
        have HLS := hide (And.intro hls hls1)
        have HCT : Hid (cts.length ≤ 100) := by have h1 := hpj.used.1; have h2 := hpj.pre.next.2; show _ ≤ _; omega
        clear hpq hcb hpj hbw hbab hbwa hbwb hux huy hr8 hls hls1
        go_wp2_with fail
        refine (HPX.out _ HBW0.out).mono ?_
        rintro en2 WW ⟨rfl, hWW⟩
        rw [hWW]
        clear hWW WW
        go_wp2_with fail
        refine (HPY.out _ HBW0.out).mono ?_
        rintro en2 WW ⟨rfl, hWW⟩
        rw [hWW]
        clear hWW WW
        go_upto_if 95 with fail
        clear hWa hWb HPX HPY HBW0
        go_cut [2, 6, 7, 8, 9, 17, 18, 19, 20, 21, 22, 23, 24, 25, 26, 27, 28, 29, 30, 31, 32, 33, 34, 35, 36, 37, 38, 39, 40, 41, 42, 43, 44, 45, 46, 47, 48, 49] from 75 to 370 (fun v2 v6 v7 v8 v9 v17 v18 v19 v20 v21 v22 v23 v24 v25 v26 v27 v28 v29 v30 v31 v32 v33 v34 v35 v36 v37 v38 v39 v40 v41 v42 v43 v44 v45 v46 v47 v48 v49 wx => ∃ (nw2 ak2 : Nat) (rf2 en2 : Int) (R : Pl) (ss : List St) (cvA qvA cvB qvB : Value), v6 = .int .i64 (nw2 : Int) ∧ v7 = .int .i64 (ak2 : Int) ∧ v8 = .int .i64 rf2 ∧ v9 = .int .i64 en2 ∧ nw2 ≤ 20 * (k + 1) ∧ ak2 ≤ k + 1 ∧ RM N W1.heap.size W2.heap.size X2.heap.size k 0 nw2 ak2 rf2 en2 R ss cvA qvA cvB qvB v17 v18 (.int .i64 ls) (.slice ac cts.length cc) wx ∧ Below w.heap.size w wx)
        case first =>
          rename_i JJ KK hJJ hKK
          by_cases h4 : r8 < 4
          · as_aux_lemma =>
              refine armA_wp hNl hplN huyl hk90 hkn hn90 hnw hak hm8 hm8' hrf hen HIT HNE HLO HBW HPQ HCB HPJ HLS HLEN h4 ?_
              intro zv2 zv6 zv7 zv8 zv9 zv17 zv18 zv19 zv20 zv21 zv22 zv23 zv24 zv25 zv26 zv27 zv28 zv29 zv30 zv31 zv32 zv33 zv34 zv35 zv36 zv37 zv38 zv39 zv40 zv41 zv42 zv43 zv44 zv45 zv46 zv47 zv48 zv49 zv75 zv76 zv77 zv78 zv79 zv80 zv81 zv82 zv83 zv84 zv85 zv86 zv87 zv88 zv89 zv90 zv91 zv92 zv93 zv94 zv95 zv96 zv97 zv98 zv99 zv100 zv101 zv102 zv103 zv104 zv105 zv106 zv107 zv108 zv109 zv110 zv111 zv112 zv113 zv114 zv115 zv116 zv117 zv118 zv119 zv120 zv121 zv122 zv123 zv124 zv125 zv126 zv127 zv128 zv129 zv130 zv131 zv132 zv133 zv134 zv135 zv136 zv137 zv138 zv139 zv140 zv141 zv142 zv143 zv144 zv145 zv146 zv147 zv148 zv149 zv150 zv151 zv152 zv153 zv154 zv155 zv156 zv157 zv158 zv159 zv160 zv161 zv162 zv163 zv164 zv165 zv166 zv167 zv168 zv169 zv170 zv171 zv172 zv173 zv174 zv175 zv176 zv177 zv178 zv179 zv180 zv181 zv182 zv183 zv184 zv185 zv186 zv187 zv188 zv189 zv190 zv191 zv192 zv193 zv194 zv195 zv196 zv197 zv198 zv199 zv200 zv201 zv202 zv203 zv204 zv205 zv206 zv207 zv208 zv209 zv210 zv211 zv212 zv213 zv214 zv215 zv216 zv217 zv218 zv219 zv220 zv221 zv222 zv223 zv224 zv225 zv226 zv227 zv228 zv229 zv230 zv231 zv232 zv233 zv234 zv235 zv236 zv237 zv238 zv239 zv240 zv241 zv242 zv243 zv244 zv245 zv246 zv247 zv248 zv249 zv250 zv251 zv252 zv253 zv254 zv255 zv256 zv257 zv258 zv259 zv260 zv261 zv262 zv263 zv264 zv265 zv266 zv267 zv268 zv269 zv270 zv271 zv272 zv273 zv274 zv275 zv276 zv277 zv278 zv279 zv280 zv281 zv282 zv283 zv284 zv285 zv286 zv287 zv288 zv289 zv290 zv291 zv292 zv293 zv294 zv295 zv296 zv297 zv298 zv299 zv300 zv301 zv302 zv303 zv304 zv305 zv306 zv307 zv308 zv309 zv310 zv311 zv312 zv313 zv314 zv315 zv316 zv317 zv318 zv319 zv320 zv321 zv322 zv323 zv324 zv325 zv326 zv327 zv328 zv329 zv330 zv331 zv332 zv333 zv334 zv335 zv336 zv337 zv338 zv339 zv340 zv341 zv342 zv343 zv344 zv345 zv346 zv347 zv348 zv349 zv350 zv351 zv352 zv353 zv354 zv355 zv356 zv357 zv358 zv359 zv360 zv361 zv362 zv363 zv364 zv365 zv366 zv367 zv368 zv369 zv370 wx hrel
              refine hKK _ _ (Met.intro (hJJ _ _ ?_))
              repeat apply Exists.intro
              exact ⟨hrel, rfl⟩
          · by_cases h6 : r8 < 6
            · as_aux_lemma =>
                refine armB_wp hNl hplN huyl hk90 hkn hn90 hnw hak hm8 hm8' hrf hen HIT HNE HLO HBW HPQ HCB HPJ HLS HLEN h4 h6 ?_
                intro zv2 zv6 zv7 zv8 zv9 zv17 zv18 zv19 zv20 zv21 zv22 zv23 zv24 zv25 zv26 zv27 zv28 zv29 zv30 zv31 zv32 zv33 zv34 zv35 zv36 zv37 zv38 zv39 zv40 zv41 zv42 zv43 zv44 zv45 zv46 zv47 zv48 zv49 zv75 zv76 zv77 zv78 zv79 zv80 zv81 zv82 zv83 zv84 zv85 zv86 zv87 zv88 zv89 zv90 zv91 zv92 zv93 zv94 zv95 zv96 zv97 zv98 zv99 zv100 zv101 zv102 zv103 zv104 zv105 zv106 zv107 zv108 zv109 zv110 zv111 zv112 zv113 zv114 zv115 zv116 zv117 zv118 zv119 zv120 zv121 zv122 zv123 zv124 zv125 zv126 zv127 zv128 zv129 zv130 zv131 zv132 zv133 zv134 zv135 zv136 zv137 zv138 zv139 zv140 zv141 zv142 zv143 zv144 zv145 zv146 zv147 zv148 zv149 zv150 zv151 zv152 zv153 zv154 zv155 zv156 zv157 zv158 zv159 zv160 zv161 zv162 zv163 zv164 zv165 zv166 zv167 zv168 zv169 zv170 zv171 zv172 zv173 zv174 zv175 zv176 zv177 zv178 zv179 zv180 zv181 zv182 zv183 zv184 zv185 zv186 zv187 zv188 zv189 zv190 zv191 zv192 zv193 zv194 zv195 zv196 zv197 zv198 zv199 zv200 zv201 zv202 zv203 zv204 zv205 zv206 zv207 zv208 zv209 zv210 zv211 zv212 zv213 zv214 zv215 zv216 zv217 zv218 zv219 zv220 zv221 zv222 zv223 zv224 zv225 zv226 zv227 zv228 zv229 zv230 zv231 zv232 zv233 zv234 zv235 zv236 zv237 zv238 zv239 zv240 zv241 zv242 zv243 zv244 zv245 zv246 zv247 zv248 zv249 zv250 zv251 zv252 zv253 zv254 zv255 zv256 zv257 zv258 zv259 zv260 zv261 zv262 zv263 zv264 zv265 zv266 zv267 zv268 zv269 zv270 zv271 zv272 zv273 zv274 zv275 zv276 zv277 zv278 zv279 zv280 zv281 zv282 zv283 zv284 zv285 zv286 zv287 zv288 zv289 zv290 zv291 zv292 zv293 zv294 zv295 zv296 zv297 zv298 zv299 zv300 zv301 zv302 zv303 zv304 zv305 zv306 zv307 zv308 zv309 zv310 zv311 zv312 zv313 zv314 zv315 zv316 zv317 zv318 zv319 zv320 zv321 zv322 zv323 zv324 zv325 zv326 zv327 zv328 zv329 zv330 zv331 zv332 zv333 zv334 zv335 zv336 zv337 zv338 zv339 zv340 zv341 zv342 zv343 zv344 zv345 zv346 zv347 zv348 zv349 zv350 zv351 zv352 zv353 zv354 zv355 zv356 zv357 zv358 zv359 zv360 zv361 zv362 zv363 zv364 zv365 zv366 zv367 zv368 zv369 zv370 wx hrel
                refine hKK _ _ (Met.intro (hJJ _ _ ?_))
                repeat apply Exists.intro
                exact ⟨hrel, rfl⟩
            · by_cases h66 : r8 = 6
              · as_aux_lemma =>
                  refine armC_wp hNl hplN huyl hk90 hkn hn90 hnw hak hm8 hm8' hrf hen HIT HNE HLO HBW HPQ HCB HPJ HLS HLEN h4 h6 h66 ?_
                  intro zv2 zv6 zv7 zv8 zv9 zv17 zv18 zv19 zv20 zv21 zv22 zv23 zv24 zv25 zv26 zv27 zv28 zv29 zv30 zv31 zv32 zv33 zv34 zv35 zv36 zv37 zv38 zv39 zv40 zv41 zv42 zv43 zv44 zv45 zv46 zv47 zv48 zv49 zv75 zv76 zv77 zv78 zv79 zv80 zv81 zv82 zv83 zv84 zv85 zv86 zv87 zv88 zv89 zv90 zv91 zv92 zv93 zv94 zv95 zv96 zv97 zv98 zv99 zv100 zv101 zv102 zv103 zv104 zv105 zv106 zv107 zv108 zv109 zv110 zv111 zv112 zv113 zv114 zv115 zv116 zv117 zv118 zv119 zv120 zv121 zv122 zv123 zv124 zv125 zv126 zv127 zv128 zv129 zv130 zv131 zv132 zv133 zv134 zv135 zv136 zv137 zv138 zv139 zv140 zv141 zv142 zv143 zv144 zv145 zv146 zv147 zv148 zv149 zv150 zv151 zv152 zv153 zv154 zv155 zv156 zv157 zv158 zv159 zv160 zv161 zv162 zv163 zv164 zv165 zv166 zv167 zv168 zv169 zv170 zv171 zv172 zv173 zv174 zv175 zv176 zv177 zv178 zv179 zv180 zv181 zv182 zv183 zv184 zv185 zv186 zv187 zv188 zv189 zv190 zv191 zv192 zv193 zv194 zv195 zv196 zv197 zv198 zv199 zv200 zv201 zv202 zv203 zv204 zv205 zv206 zv207 zv208 zv209 zv210 zv211 zv212 zv213 zv214 zv215 zv216 zv217 zv218 zv219 zv220 zv221 zv222 zv223 zv224 zv225 zv226 zv227 zv228 zv229 zv230 zv231 zv232 zv233 zv234 zv235 zv236 zv237 zv238 zv239 zv240 zv241 zv242 zv243 zv244 zv245 zv246 zv247 zv248 zv249 zv250 zv251 zv252 zv253 zv254 zv255 zv256 zv257 zv258 zv259 zv260 zv261 zv262 zv263 zv264 zv265 zv266 zv267 zv268 zv269 zv270 zv271 zv272 zv273 zv274 zv275 zv276 zv277 zv278 zv279 zv280 zv281 zv282 zv283 zv284 zv285 zv286 zv287 zv288 zv289 zv290 zv291 zv292 zv293 zv294 zv295 zv296 zv297 zv298 zv299 zv300 zv301 zv302 zv303 zv304 zv305 zv306 zv307 zv308 zv309 zv310 zv311 zv312 zv313 zv314 zv315 zv316 zv317 zv318 zv319 zv320 zv321 zv322 zv323 zv324 zv325 zv326 zv327 zv328 zv329 zv330 zv331 zv332 zv333 zv334 zv335 zv336 zv337 zv338 zv339 zv340 zv341 zv342 zv343 zv344 zv345 zv346 zv347 zv348 zv349 zv350 zv351 zv352 zv353 zv354 zv355 zv356 zv357 zv358 zv359 zv360 zv361 zv362 zv363 zv364 zv365 zv366 zv367 zv368 zv369 zv370 wx hrel
                  refine hKK _ _ (Met.intro (hJJ _ _ ?_))
                  repeat apply Exists.intro
                  exact ⟨hrel, rfl⟩
              · as_aux_lemma =>
                  refine armD_wp hNl hplN huyl hk90 hkn hn90 hnw hak hm8 hm8' hrf hen HIT HNE HLO HBW HPQ HCB HPJ HLS HLEN h4 h6 h66 hr8l ?_
                  intro zv2 zv6 zv7 zv8 zv9 zv17 zv18 zv19 zv20 zv21 zv22 zv23 zv24 zv25 zv26 zv27 zv28 zv29 zv30 zv31 zv32 zv33 zv34 zv35 zv36 zv37 zv38 zv39 zv40 zv41 zv42 zv43 zv44 zv45 zv46 zv47 zv48 zv49 zv75 zv76 zv77 zv78 zv79 zv80 zv81 zv82 zv83 zv84 zv85 zv86 zv87 zv88 zv89 zv90 zv91 zv92 zv93 zv94 zv95 zv96 zv97 zv98 zv99 zv100 zv101 zv102 zv103 zv104 zv105 zv106 zv107 zv108 zv109 zv110 zv111 zv112 zv113 zv114 zv115 zv116 zv117 zv118 zv119 zv120 zv121 zv122 zv123 zv124 zv125 zv126 zv127 zv128 zv129 zv130 zv131 zv132 zv133 zv134 zv135 zv136 zv137 zv138 zv139 zv140 zv141 zv142 zv143 zv144 zv145 zv146 zv147 zv148 zv149 zv150 zv151 zv152 zv153 zv154 zv155 zv156 zv157 zv158 zv159 zv160 zv161 zv162 zv163 zv164 zv165 zv166 zv167 zv168 zv169 zv170 zv171 zv172 zv173 zv174 zv175 zv176 zv177 zv178 zv179 zv180 zv181 zv182 zv183 zv184 zv185 zv186 zv187 zv188 zv189 zv190 zv191 zv192 zv193 zv194 zv195 zv196 zv197 zv198 zv199 zv200 zv201 zv202 zv203 zv204 zv205 zv206 zv207 zv208 zv209 zv210 zv211 zv212 zv213 zv214 zv215 zv216 zv217 zv218 zv219 zv220 zv221 zv222 zv223 zv224 zv225 zv226 zv227 zv228 zv229 zv230 zv231 zv232 zv233 zv234 zv235 zv236 zv237 zv238 zv239 zv240 zv241 zv242 zv243 zv244 zv245 zv246 zv247 zv248 zv249 zv250 zv251 zv252 zv253 zv254 zv255 zv256 zv257 zv258 zv259 zv260 zv261 zv262 zv263 zv264 zv265 zv266 zv267 zv268 zv269 zv270 zv271 zv272 zv273 zv274 zv275 zv276 zv277 zv278 zv279 zv280 zv281 zv282 zv283 zv284 zv285 zv286 zv287 zv288 zv289 zv290 zv291 zv292 zv293 zv294 zv295 zv296 zv297 zv298 zv299 zv300 zv301 zv302 zv303 zv304 zv305 zv306 zv307 zv308 zv309 zv310 zv311 zv312 zv313 zv314 zv315 zv316 zv317 zv318 zv319 zv320 zv321 zv322 zv323 zv324 zv325 zv326 zv327 zv328 zv329 zv330 zv331 zv332 zv333 zv334 zv335 zv336 zv337 zv338 zv339 zv340 zv341 zv342 zv343 zv344 zv345 zv346 zv347 zv348 zv349 zv350 zv351 zv352 zv353 zv354 zv355 zv356 zv357 zv358 zv359 zv360 zv361 zv362 zv363 zv364 zv365 zv366 zv367 zv368 zv369 zv370 wx hrel
                  refine hKK _ _ (Met.intro (hJJ _ _ ?_))
                  repeat apply Exists.intro
                  exact ⟨hrel, rfl⟩
        case rest =>
          as_aux_lemma =>
            obtain ⟨nw2, ak2, rf2, en2, R, ss, cvA, qvA, cvB, qvB, rfl, rfl, rfl, rfl, hnw2, hak2, ⟨ls0, cts0, els, hls0, hls1, hmj, hpq, hst, hst2, hcb⟩, hbw⟩ := hcut
            obtain ⟨Wc, rfl⟩ : ∃ x, x = wc := ⟨_, rfl⟩
            obtain rfl : ls = ls0 := by injection els
            clear els HPQ HCB HPJ HLS HLEN HCT hrf hen HBW hm8 hm8' hmN hmN' hN0 hN0b
            obtain ⟨⟨b1, d1, e1⟩, b2, d2, e2⟩ := hpq.2.2.1.form
            obtain ⟨⟨b3, d3, e3⟩, b4, d4, e4⟩ := hpq.2.2.2.form
            obtain ⟨b5, d5, e5, _⟩ := hst.form
            obtain ⟨b6, d6, e6, _⟩ := hst2.form
            subst e1 e2 e3 e4 e5 e6
            obtain ⟨⟨p0, p1, p2, p3⟩, _⟩ := hpq.1.pool
            obtain ⟨⟨q0, q1, q2, q3⟩, _⟩ := hpq.2.1.pool
            have HSM := hide (samePool_any R _ _ _ _ Wc hpq.2.2.1 hpq.2.2.2)
            unfold plV at HSM
            have HPQ := hide hpq
            have HS1 := hide hst
            have HS2 := hide hst2
            have HCB := hide hcb
            have HMJ := hide hmj
            have HBW := hide hbw
            have HL0 := hide (And.intro hls0 hls1)
            clear hpq hst hst2 hcb hmj hbw hls0 hls1
            go_wp2_with fail
            refine HSM.out.mono ?_
            rintro en3 Wd ⟨rfl, hbd⟩
            have HPQ := hide (HPQ.out.below hbd)
            have HS1 : Hid (StsAt 0 Wd (.slice b5 ss.length d5) ss) := At.kept kept_flat HS1.out hbd
            have HS2 : Hid (StsAt 0 Wd (.slice b6 ss.length d6) ss) := At.kept kept_flat HS2.out hbd
            have HCB := hide (HCB.out.below hbd)
            have HBW := hide (bjoin hbd HBW.out)
            clear hbd HSM p0 p1 p2 p3 q0 q1 q2 q3
            go_wp2_with fail
            go_loopg [10, 11, 50] ss.length (fun q v10 v11 v50 wx => ∃ j : Nat, j ≤ ss.length ∧ q = ss.length - j ∧ v50 = .int .i64 (j : Int) ∧ RM N W1.heap.size W2.heap.size X2.heap.size k j nw2 ak2 rf2 en2 R ss (.slice b1 R.conns.length d1) (.slice b2 R.queue.length d2) (.slice b3 R.conns.length d3) (.slice b4 R.queue.length d4) (.slice b5 ss.length d5) (.slice b6 ss.length d6) v10 v11 wx ∧ Below w.heap.size w wx)
            case atStart => exact ⟨0, Nat.zero_le _, rfl, rfl, ⟨ls, cts0, rfl, HL0.out.1, HL0.out.2, HMJ.out, HPQ.out, HS1.out, HS2.out, HCB.out⟩, HBW.out⟩
            case round =>
              clear HPQ HS1 HS2 HCB HBW HMJ HL0
              obtain ⟨j, hj, rfl, rfl, ⟨l1, cts1, rfl, hl1, hl2, hmj, hpq, hst, hst2, hcb⟩, hbw⟩ := hrel
              obtain ⟨We, rfl⟩ : ∃ x, x = wr := ⟨_, rfl⟩
              obtain ⟨ad, cd, ed, _⟩ := FB.form hcb.1
              subst ed
              by_cases hjs : j < ss.length
              · as_aux_lemma =>
                  have hjs2 : (j : Int) < (ss.length : Int) := by omega
                  obtain ⟨kq, hq1, hq2, hq3, hq4, hmj2⟩ := hmj.step hjs
                  obtain ⟨g, off, eg, hgl, hel, _⟩ := at_place hst hjs
                  obtain ⟨g2, off2, eg2, hgl2, hel2, _⟩ := at_place hst2 hjs
                  subst eg eg2
                  obtain ⟨s, hs⟩ : ∃ s, ss[j] = s := ⟨_, rfl⟩
                  have HSJ := hide hs
                  rw [hs] at hel hel2 hq1 hq4 hmj2
                  obtain ⟨o1, ho1⟩ : ∃ o1, off + j * 6 = o1 := ⟨_, rfl⟩
                  obtain ⟨o2, ho2⟩ : ∃ o2, off2 + j * 6 = o2 := ⟨_, rfl⟩
                  have g0 : We.cell? ⟨g, off + j * 6, none⟩ = some (.int .i64 s.conn) := hel 0 (by simp [stC])
                  have g1 : We.cell? ⟨g, off + j * 6 + 1, none⟩ = some (.string s.control) := hel 1 (by simp [stC])
                  have g2' : We.cell? ⟨g, off + j * 6 + 2, none⟩ = some (.int .i64 s.want.client) := hel 2 (by simp [stC])
                  have g3 : We.cell? ⟨g, off + j * 6 + 3, none⟩ = some (.string s.want.tag) := hel 3 (by simp [stC])
                  have g4 : We.cell? ⟨g, off + j * 6 + 4, none⟩ = some (.string s.want.query) := hel 4 (by simp [stC])
                  have g5 : We.cell? ⟨g, off + j * 6 + 5, none⟩ = some (.string s.want.pointer) := hel 5 (by simp [stC])
                  have f0 : We.cell? ⟨g2, off2 + j * 6, none⟩ = some (.int .i64 s.conn) := hel2 0 (by simp [stC])
                  have f1 : We.cell? ⟨g2, off2 + j * 6 + 1, none⟩ = some (.string s.control) := hel2 1 (by simp [stC])
                  have f2 : We.cell? ⟨g2, off2 + j * 6 + 2, none⟩ = some (.int .i64 s.want.client) := hel2 2 (by simp [stC])
                  have f3 : We.cell? ⟨g2, off2 + j * 6 + 3, none⟩ = some (.string s.want.tag) := hel2 3 (by simp [stC])
                  have f4 : We.cell? ⟨g2, off2 + j * 6 + 4, none⟩ = some (.string s.want.query) := hel2 4 (by simp [stC])
                  have f5 : We.cell? ⟨g2, off2 + j * 6 + 5, none⟩ = some (.string s.want.pointer) := hel2 5 (by simp [stC])
                  clear ho1 ho2 o1 o2 hel hel2 hs
                  have HQ1 := hide hq1
                  have HQ4 := hide hq4
                  have HMJ := hide hmj2
                  have HPQ := hide hpq
                  have HS1 := hide hst
                  have HS2 := hide hst2
                  have HCB := hide hcb
                  have HBW := hide hbw
                  have HC1 : Hid (cts1.length ≤ 200) := by have h1 := hmj.used.1; have h2 := hmj.pre.next.2; have h3 := hmj.n; show _ ≤ _; omega
                  have HL1 := hide (And.intro hq2 (And.intro hq3 hl2))
                  have hjI : (j : Int) ≤ 200 := by have h1 := hmj.sl; have h2 := hmj.pre.next.2; omega
                  clear hq1 hq4 hmj2 hmj hpq hst hst2 hcb hbw hq2 hq3 hl1 hl2
                  go_wp2_with fail
                  go_quiet (fail)
                  go_wp2_with fail
                  have HCELL : Hid (∀ X, StsAt 0 X (.slice (some ⟨g, off, none⟩) ss.length d5) ss → X.cell? ⟨g, off + j * 6 + 1, none⟩ = some (.string s.control) ∧ X.cell? ⟨g, off + j * 6 + 4, none⟩ = some (.string s.want.query)) := fun X hX => by
                    obtain ⟨g', o', e', hl', hel', _⟩ := at_place hX hjs
                    injection e' with e'
                    injection e' with e1 e2
                    subst e1 e2
                    rw [HSJ.out] at hel'
                    exact ⟨hel' 1 (by simp [stC]), hel' 4 (by simp [stC])⟩
                  have HROW : Hid (∀ X, Below We.heap.size We X → At 1 (FR strC (fun _ => True)) X2.heap.size X (.slice ad cts1.length cd) cts1) := fun X hX => At.kept kept_flat (FB.at strC_len HCB.out.1 (by have := HC1.out; omega) (fun _ _ => trivial)) hX
                  clear g0 g1 g2' g3 g4 g5 f0 f1 f2 f3 f4 f5
                  go_loopw [51] (fun i wx => ∃ m : Nat, m ≤ cts1.length ∧ i = .int .i64 (m : Int) ∧ Below We.heap.size We wx) (fun i _ => cts1.length - (intOf i).toNat)
                  case atStart => exact ⟨0, Nat.zero_le _, rfl, below_drewN (Below.refl _ _) _⟩
                  case round =>
                    obtain ⟨m, hm, rfl, hbf⟩ := hrel
                    obtain ⟨Wf, rfl⟩ : ∃ x, x = wr := ⟨_, rfl⟩
                    have hst5 : StsAt 0 Wf (.slice (some ⟨g, off, none⟩) ss.length d5) ss := At.kept kept_flat HS1.out hbf
                    by_cases hml : m < cts1.length
                    · have hmi : (m : Int) < (cts1.length : Int) := by omega
                      obtain ⟨g1, _⟩ := HCELL.out Wf hst5
                      obtain ⟨gc, oc, ec, hcl, hec, _⟩ := at_place (HROW.out Wf hbf) hml
                      subst ec
                      obtain ⟨t, ht⟩ : ∃ t, cts1[m] = t := ⟨_, rfl⟩
                      rw [ht] at hec
                      have hne := HQ4.out t (by rw [← ht]; exact List.getElem_mem hml)
                      have c0 : Wf.cell? ⟨gc, oc + m, none⟩ = some (.string t) := by have := hec 0 (by simp [strC]); simpa [strC] using this
                      obtain ⟨hne2, hne3⟩ := str_ne hne
                      clear hec ht hst5
                      go_wp2_with fail
                      go_quiet (fail)
                      go_wp2_with fail
                      go_roundw
                      case rel => exact ⟨m + 1, by omega, by go_num, below_drewN hbf _⟩
                      case measure => simp [intOf]; omega
                    · have hmi : ¬ (m : Int) < (cts1.length : Int) := by omega
                      have hcbf := HCB.out.below hbf
                      have hpqf := HPQ.out.below hbf
                      have hst6 : StsAt 0 Wf (.slice (some ⟨g2, off2, none⟩) ss.length d6) ss := At.kept kept_flat HS2.out hbf
                      have hbwf := bjoin hbf HBW.out
                      obtain ⟨v', Wg, hr, hcbg, hOg⟩ := hcbf.app 29 s.control (by have h1 := HX2S.out; have h2 := hpqf.2.1.lt; omega) (by have := HC1.out; omega)
                      obtain ⟨ae, ce, ee, _⟩ := FB.form hcbg.1
                      have hee : (cts1 ++ [s.control]).length = cts1.length + 1 := by simp
                      rw [hee] at ee
                      subst ee
                      obtain ⟨g1, _⟩ := HCELL.out Wf hst5
                      have hpqg : PQ W1.heap.size W2.heap.size R (.slice b1 R.conns.length d1) (.slice b2 R.queue.length d2) (.slice b3 R.conns.length d3) (.slice b4 R.queue.length d4) Wg := hpqf.texts hcbf hOg
                      have hsg5 := At.texts hst5 no_st hcbf hOg
                      have hsg6 := At.texts hst6 no_st hcbf hOg
                      obtain ⟨_, g4⟩ := HCELL.out Wg hsg5
                      have hbwg : Below w.heap.size w Wg := hbwf.trans (hOg.below hbwf.size fun d hd => by have h1 := (FB.own hcbf.1 d hd).1; have h2 := HLO.out.2.2; omega)
                      have HV := hide (value_any s.want.query Wg (by rw [HQ1.out]; have := decT_size kq (by have := HL1.out.2.1; omega); omega) (by rw [HQ1.out]; exact dec_digits kq))
                      have hval : decV 0 s.want.query.data.toList = kq := by rw [HQ1.out]; exact dec_value kq
                      rw [hval] at HV
                      have hkl : ¬ (kq : Int) ≤ l1 := by have := HL1.out.1; omega
                      have HEND := hide (And.intro hpqg (And.intro hsg5 (And.intro hsg6 (And.intro hcbg hbwg))))
                      clear hpqg hsg5 hsg6 hcbg hbwg hval hee hst5 hst6 hcbf hpqf hbwf hOg hbf
                      go_wp2_with (first | (at_builtin; refine wpList_app rfl _ _ 29 rfl hr (by first | rfl | simp [Act.eval, Act.put]) (by first | rfl | simp [Act.eval, Act.put]) ?_))
                      refine HV.out.mono ?_
                      rintro en3 WW ⟨rfl, hWW⟩
                      rw [hWW]
                      clear hWW WW
                      go_wp2_with fail
                      go_roundg (ss.length - (j + 1))
                      case measure => omega
                      case rel => exact ⟨j + 1, by omega, rfl, by go_num, ⟨(kq : Int), cts1 ++ [s.control], rfl, by have := HL1.out.2.1; omega, by omega, HMJ.out, HEND.out.1, HEND.out.2.1, HEND.out.2.2.1, HEND.out.2.2.2.1⟩, HEND.out.2.2.2.2⟩
              · have hjs2 : ¬ (j : Int) < (ss.length : Int) := by omega
                have ej : j = ss.length := by omega
                subst ej
                go_wp2_with fail
                go_roundg (n - (k + 1))
                case measure => omega
                case rel => exact ⟨k + 1, by omega, rfl, by go_num, ⟨nw2, ak2, rf2, en2, l1, R, cts1, _, _, _, _, rfl, rfl, rfl, rfl, rfl, hnw2, hak2, hl1, hl2, hmj.done, hpq, hcb⟩, hbw⟩
      · have hkn2 : ¬ (k : Int) < (n : Int) := by omega
        as_aux_lemma =>
          have hke : k = n := by omega
          obtain ⟨⟨a1, c1, e1⟩, a2, c2, e2⟩ := hpq.2.2.1.form
          obtain ⟨ac, cc, e11, _⟩ := FB.form hcb.1
          have hlen := hpj.pre.len
          rw [hlen] at e1
          subst e1 e2 e11
          have hcnt := hpj.cnt
          have hpos := hpj.pos
          obtain ⟨bz, hbz⟩ : ∃ bz : Nat, busyN x.conns = bz := ⟨_, rfl⟩
          obtain ⟨ql, hql⟩ : ∃ ql : Nat, x.queue.length = ql := ⟨_, rfl⟩
          have HBZ := hide (fun X (hX : Below W.heap.size W X) => busy_any x _ _ X (hpq.2.2.1.below hX) (by rw [hlen]; exact hNl.2))
          rw [hbz] at HBZ hcnt
          rw [hql] at hcnt
          unfold plV at HBZ
          have hrf : 0 ≤ rf ∧ rf ≤ 100 := by omega
          have hen : 0 ≤ en ∧ en ≤ 100 := by omega
          have hbz4 : (bz : Int) ≤ 100 := by omega
          have hql4 : (ql : Int) ≤ 100 := by omega
          have hs1 : IntKind.i64.wrap (rf + en) = rf + en := by rw [IntKind.wrap_i64]; omega
          have hs2 : IntKind.i64.wrap (rf + en + (ql : Int)) = rf + en + (ql : Int) := by rw [IntKind.wrap_i64]; omega
          have hs3 : IntKind.i64.wrap (rf + en + (ql : Int) + (bz : Int)) = (ak : Int) := by rw [IntKind.wrap_i64]; omega
          have hs5 : IntKind.i64.wrap (ak : Int) = (ak : Int) := by rw [IntKind.wrap_i64]; omega
          have hs6 : ((ak : Int) == (ak : Int)) = true := by simp
          have hs4 : rf + en + (ql : Int) + (bz : Int) = (ak : Int) := by omega
          obtain ⟨D, hD⟩ : ∃ D, W.drew = D := ⟨_, rfl⟩
          have hbd0 : Below W.heap.size W W.drew := (Below.refl _ _).drew
          have hbd : Below W.heap.size W D := by rw [← hD]; exact hbd0
          have KP : Hid (∀ X, Below W.heap.size W X → (X.cell? ⟨W1.heap.size, 0, none⟩ = some (.int .i64 x.epoch) ∧ X.cell? ⟨W1.heap.size, 1, none⟩ = some (.int .i64 x.next) ∧ X.cell? ⟨W1.heap.size, 2, none⟩ = some (.slice a1 N c1) ∧ X.cell? ⟨W1.heap.size, 3, none⟩ = some (.slice a2 x.queue.length c2)) ∧ Below W.heap.size W X) := fun X hX => ⟨(hpq.1.below hX).pool.1, hX⟩
          rw [hql] at KP HBZ
          have HBW := hide hbw
          clear hpq hcb hpj hbw hlen hbz hql hke hcnt hpos
          go_wp2_with fail
          go_region_held3 (fun X : World => (X.cell? ⟨W1.heap.size, 0, none⟩ = some (.int .i64 x.epoch) ∧ X.cell? ⟨W1.heap.size, 1, none⟩ = some (.int .i64 x.next) ∧ X.cell? ⟨W1.heap.size, 2, none⟩ = some (.slice a1 N c1) ∧ X.cell? ⟨W1.heap.size, 3, none⟩ = some (.slice a2 ql c2)) ∧ Below W.heap.size W X)
            (first | with_reducible exact KP.out _ hbd0 | with_reducible exact KP.out _ hbd | with_reducible exact KP.out _ hb9)
            (first | (go_at_call 14; refine (HBZ.out _ hbd).mono ?_; rintro e2 w9 ⟨rfl, hb8⟩; have hb9 : Below W.heap.size W w9 := bjoin hb8 hbd))
          go_wp2_with fail
          go_ret
          exact ⟨rfl, bjoin hb9 HBW.out⟩
end Go.Proofs.YtfdefjdogmhinaaDoor.Msg
