import Derived.Test.YtglcdcekkglmiaaGreatDoorG47
import Derived.Test.YtglcdcekkglmiaaGreatDoorG48
import Derived.Deep.LoopGhost
import Derived.Deep.DeepCutAuto
import Derived.Deep.RegionHeld3
namespace Go.Proofs.YtglcdcekkglmiaaGreatDoor.Msg
open Go.ChangeShapes Go.WideShapes Go.ChangeAt Go.RowKit
set_option linter.unusedVariables false
set_option linter.unusedSimpArgs false
set_option maxRecDepth 100000 in
set_option maxHeartbeats 16000000 in
theorem lawTable (cs:List UInt8) (v:Value) (w:World) {lo:Nat} (hv:CodeAt lo w v cs) (hE:Env w) (hM:Mx w) :
  Calls Tryz.prog 3 #[v] w fun en w'=>en=.returned (.bool true)∧Below w.heap.size w w':=by
 by_cases hl:¬cs.length≤1048576
 ·obtain⟨aa,cap,rfl,_⟩:=code_form hv
  have hl0:(1048576:Int)<(cs.length:Int):=by omega
  clear hv
  go_enter Tryz.func3,Tryz.ntmps3
  go_wp2_with fail
  go_ret
  exact⟨rfl,Below.refl _ _⟩
 have hl:=Decidable.not_not.1 hl
 have hl0:¬(1048576:Int)<(cs.length:Int):=by omega
 have HDA:=hide (fun W (hb:Below w.heap.size w W)=>drawAp_any cs v W (At.kept kept_code hv hb) hl)
 have hcz:=apC_sm cs
 obtain⟨xs,hxs⟩:∃q,apT cs=q:=⟨_,rfl⟩
 obtain⟨c,hc⟩:∃q,apC cs=q:=⟨_,rfl⟩
 rw[hxs,hc] at HDA
 rw[hc] at hcz
 obtain⟨aa,cap,rfl,_⟩:=code_form hv
 clear hxs hc hv hl
 have HAS:=hide (fun(tv:Value) (au:Option Addr) (nu cu:Nat) (W:World) (h1:SesssAt 0 W tv xs) (h2:StrsAt 0 W (.slice au nu cu) c.rows)=>apS xs tv c au nu cu W hcz.1 hcz.2 h1 h2)
 have HAI:=hide (fun(tv:Value) (au:Option Addr) (nu cu:Nat) (W:World) (h1:SesssAt 0 W tv xs) (h2:StrsAt 0 W (.slice au nu cu) c.rows)=>apI xs tv c au nu cu W hcz.1 hcz.2 h1 h2)
 have HWT:=hide (fun(ys:List Sess) (u1 u2:Value) (W:World) (h1:SesssAt 0 W u1 ys) (h2:SesssAt 0 W u2 ys)=>wTbl_yes ys u1 u2 W h1 h2)
 have HES:=hide (fun(u:Value) (W:World) (h:StrsAt 0 W u c.rows)=>encS_any c u W hcz.1 hcz.2 h)
 have HEI:=hide (fun(u:Value) (W:World) (h:StrsAt 0 W u c.rows) (hT:Env W)=>encI_any c u W hcz.1 hcz.2 h hT.tabW)
 have HDI:=hide (fun(h:(encB c).size≠0) (W:World) (hE:Env W) (hM:Mx W)=>decI_enc c W h hE hM)
 have HWC:=hide (fun(u1 u2:Value) (W:World) (h1:StrsAt 0 W u1 c.rows) (h2:StrsAt 0 W u2 c.rows)=>wChg_yes c u1 u2 W h1 h2)
 have HSI:=hide (fun(u:Value) (W:World) (h:SesssAt 0 W u xs) (hT:Env W)=>snapI_any xs u W h hT.tabW)
 have HSS:=hide (fun(u:Value) (W:World) (h:SesssAt 0 W u xs)=>snapS_any xs u W h)
 have HRI:=hide (fun(h:tblB xs=true) (W:World) (hE:Env W) (hM:Mx W)=>rcSnap xs W h hE hM)
 have HSI2:=hide (fun(u:Value) (W:World) (h:SesssAt 0 W u (failT xs)) (hT:Env W)=>snapI_any (failT xs) u W h hT.tabW)
 have HRI2:=hide (fun(h:tblB xs=true) (W:World) (hE:Env W) (hM:Mx W)=>rcTwice xs W h hE hM)
 have HENV:Hid (∀X,Below w.heap.size w X→Env X∧Mx X):=fun X hX=>⟨hE.kept hX,hM.kept hX⟩
 have HTB:Hid ((snapB xs).size≠0→tblB xs=true):=snap_tbl
 obtain⟨ES,hES⟩:∃q,encB c=q:=⟨_,rfl⟩
 rw[hES] at HES HEI HDI
 obtain⟨SB,hSB⟩:∃q,snapB xs=q:=⟨_,rfl⟩
 have hSBz:SB.size≤1048576:=by rw[←hSB];exact snap_le xs
 rw[hSB] at HSI HSS HRI HTB
 obtain⟨ys,hys⟩:∃q,(applyP xs c).1=q:=⟨_,rfl⟩
 obtain⟨ac,hac⟩:∃q,(applyP xs c).2=q:=⟨_,rfl⟩
 rw[hys,hac] at HAS HAI
 obtain⟨ny,hny⟩:∃q,ys.length=q:=⟨_,rfl⟩
 obtain⟨n1,hn1⟩:∃q,xs.length=q:=⟨_,rfl⟩
 have hESz:ES.size≤60000:=by rw[←hES];exact encB_size c
 unfold ApR at HAS HAI
 unfold TblR at HRI HRI2
 rw[failT_len,hn1] at HRI HRI2
 rw[hny] at HAS HAI
 obtain⟨SB2,hSB2⟩:∃q,snapB (failT xs)=q:=⟨_,rfl⟩
 rw[hSB2] at HSI2 HRI2
 have HN1:=hide hn1
 clear hE hM hES hSB hys hac hny hn1 hcz hSB2
 obtain⟨kind,client,tag,query,page,rows,n0⟩:=c
 unfold chgV at HDA HAS HAI HES HEI HDI HWC
 dsimp only at HDA HAS HAI HES HEI HDI HWC
 obtain⟨m,hm⟩:∃q,rows.length=q:=⟨_,rfl⟩
 rw[hm] at HDI
 have HMR:=hide hm
 clear hm
 go_enter Tryz.func3,Tryz.ntmps3
 go_wp2_with fail
 refine(HDA.out w (Below.refl _ _)).mono ?_
 rintro e W1 ⟨tv,u,rfl,hs1,hr1,hb1⟩
 obtain⟨a1,c1,et,_⟩:=At.form hs1
 rw[HN1.out] at et
 subst et
 obtain⟨au,cu,eu,_⟩:=At.form hr1
 rw[HMR.out] at eu
 subst eu
 obtain⟨X1,hX1⟩:∃q,(W1.alloc (Obj.cells #[.slice a1 n1 c1] 25)).alloc (Obj.cells #[.int .i64 kind,.int .i64 client,.string tag,.string query,.int .i64 page,.slice au m cu,.int .i64 n0] 28)=q:=⟨_,rfl⟩
 have hs1:=At.mono mono_sess hs1 (zrL _)
 have hr1:=At.mono mono_str hr1 (zrL _)
 have hbX:Below W1.heap.size W1 X1:=by
  rw[←hX1]
  have h1:=(Below.refl W1.heap.size W1).alloc (leR _) (Obj.cells #[.slice a1 n1 c1] 25)
  exact h1.alloc h1.size _
 have hB1:Box X1 W1.heap.size 25 #[.slice a1 n1 c1]:=by rw[←hX1];exact(Box.new _ _ _).alloc _
 have hB2:Box X1 (W1.heap.size+1) 28 (cgC ⟨kind,client,tag,query,page,rows,n0⟩ (.slice au m cu)):=by
  rw[←hX1]
  have:=Box.new (W1.alloc (Obj.cells #[.slice a1 n1 c1] 25)) 28 (cgC ⟨kind,client,tag,query,page,rows,n0⟩ (.slice au m cu))
  rw[Deep.nblk_alloc] at this
  exact this
 have H1:=hide (And.intro hB1 (And.intro hB2 (And.intro (At.kept kept_sess hs1 hbX) (And.intro (At.kept kept_str hr1 hbX) (bjoin hbX hb1)))))
 have HX1:=hide hX1
 clear hs1 hr1 hb1 hbX hB1 hB2 hX1
 go_wp2_with fail
 (try rw[HX1.out])
 refine(HDA.out X1 H1.out.2.2.2.2).mono ?_
 rintro e W2 ⟨tv2,u2,rfl,hs1,hr1,hb1⟩
 obtain⟨a2,c2,et,_⟩:=At.form hs1
 rw[HN1.out] at et
 subst et
 obtain⟨av,cv,eu,_⟩:=At.form hr1
 rw[HMR.out] at eu
 subst eu
 obtain⟨X2,hX2⟩:∃q,(W2.alloc (Obj.cells #[.slice a2 n1 c2] 25)).alloc (Obj.cells #[.int .i64 kind,.int .i64 client,.string tag,.string query,.int .i64 page,.slice av m cv,.int .i64 n0] 28)=q:=⟨_,rfl⟩
 have hs1:=At.mono mono_sess hs1 (zrL _)
 have hr1:=At.mono mono_str hr1 (zrL _)
 have hbX:Below W2.heap.size W2 X2:=by
  rw[←hX2]
  have h1:=(Below.refl W2.heap.size W2).alloc (leR _) (Obj.cells #[.slice a2 n1 c2] 25)
  exact h1.alloc h1.size _
 have hB1:Box X2 W2.heap.size 25 #[.slice a2 n1 c2]:=by rw[←hX2];exact(Box.new _ _ _).alloc _
 have hB2:Box X2 (W2.heap.size+1) 28 (cgC ⟨kind,client,tag,query,page,rows,n0⟩ (.slice av m cv)):=by
  rw[←hX2]
  have:=Box.new (W2.alloc (Obj.cells #[.slice a2 n1 c2] 25)) 28 (cgC ⟨kind,client,tag,query,page,rows,n0⟩ (.slice av m cv))
  rw[Deep.nblk_alloc] at this
  exact this
 have HL:Hid (LT w xs ⟨kind,client,tag,query,page,rows,n0⟩ W1.heap.size (W1.heap.size+1) W2.heap.size (W2.heap.size+1) (.slice a1 n1 c1) (.slice au m cu) (.slice a2 n1 c2) (.slice av m cv) X2):=by
  obtain⟨g1,g2,g3,g4,g5⟩:=H1.out
  have hb:=bjoin hbX hb1
  exact⟨g1.below hb,g2.below hb,hB1,hB2,At.kept kept_sess g3 hb,At.kept kept_str g4 hb,At.kept kept_sess hs1 hbX,At.kept kept_str hr1 hbX,bjoin hb g5⟩
 have HX2:=hide hX2
 clear hs1 hr1 hb1 hbX hB1 hB2 hX2 H1 HX1
 obtain⟨B1,hB1⟩:∃q,W1.heap.size=q:=⟨_,rfl⟩
 obtain⟨B2,hB2⟩:∃q,B1+1=q:=⟨_,rfl⟩
 obtain⟨B3,hB3⟩:∃q,W2.heap.size=q:=⟨_,rfl⟩
 obtain⟨B4,hB4⟩:∃q,B3+1=q:=⟨_,rfl⟩
 rw[hB1,hB2,hB3,hB4] at HL
 have HB1:=hide hB1
 have HB2:=hide hB2
 have HB3:=hide hB3
 have HB4:=hide hB4
 clear hB1 hB2 hB3 hB4
 have t0:X2.cell? ⟨B3,0,none⟩=some (.slice a2 n1 c2):=HL.out.b3.cell 0 (by simp)
 have d0:X2.cell? ⟨B4,0,none⟩=some (.int .i64 kind):=HL.out.b4.cell 0 (by simp[cgC])
 have d1:X2.cell? ⟨B4,1,none⟩=some (.int .i64 client):=HL.out.b4.cell 1 (by simp[cgC])
 have d2:X2.cell? ⟨B4,2,none⟩=some (.string tag):=HL.out.b4.cell 2 (by simp[cgC])
 have d3:X2.cell? ⟨B4,3,none⟩=some (.string query):=HL.out.b4.cell 3 (by simp[cgC])
 have d4:X2.cell? ⟨B4,4,none⟩=some (.int .i64 page):=HL.out.b4.cell 4 (by simp[cgC])
 have d5:X2.cell? ⟨B4,5,none⟩=some (.slice av m cv):=HL.out.b4.cell 5 (by simp[cgC])
 have d6:X2.cell? ⟨B4,6,none⟩=some (.int .i64 n0):=HL.out.b4.cell 6 (by simp[cgC])
 go_upto_region 5 with fail
 (try rw[HX2.out])
 (try rw[HB1.out])
 (try rw[HB2.out])
 (try rw[HB3.out])
 (try rw[HB4.out])
 clear HB1 HB2 HB3 HB4 HX2
 go_wp2_with fail
 refine(HAS.out _ _ _ _ _ HL.out.s2 HL.out.r2).mono ?_
 rintro e W3 ⟨aw,cw,rfl,hs1,hb1⟩
 clear d0 d1 d2 d3 d4 d5 d6
 clear t0
 obtain⟨X3,hX3⟩:∃q,W3.alloc (Obj.cells #[.slice aw ny cw] 25)=q:=⟨_,rfl⟩
 have hbX:Below W3.heap.size W3 X3:=by rw[←hX3];exact alcB _ _
 have HW:Hid (Box X3 W3.heap.size 25 #[.slice aw ny cw]∧SesssAt 0 X3 (.slice aw ny cw) ys):=⟨by rw[←hX3];exact Box.new _ _ _,At.kept kept_sess hs1 hbX⟩
 have HL3:=hide (HL.out.below (bjoin hbX hb1))
 have HX3:=hide hX3
 clear hs1 hb1 hbX hX3 HL
 obtain⟨B7,hB7⟩:∃q,W3.heap.size=q:=⟨_,rfl⟩
 rw[hB7] at HW
 have HB7:=hide hB7
 clear hB7
 have t0:X3.cell? ⟨B1,0,none⟩=some (.slice a1 n1 c1):=HL3.out.b1.cell 0 (by simp)
 have d0:X3.cell? ⟨B2,0,none⟩=some (.int .i64 kind):=HL3.out.b2.cell 0 (by simp[cgC])
 have d1:X3.cell? ⟨B2,1,none⟩=some (.int .i64 client):=HL3.out.b2.cell 1 (by simp[cgC])
 have d2:X3.cell? ⟨B2,2,none⟩=some (.string tag):=HL3.out.b2.cell 2 (by simp[cgC])
 have d3:X3.cell? ⟨B2,3,none⟩=some (.string query):=HL3.out.b2.cell 3 (by simp[cgC])
 have d4:X3.cell? ⟨B2,4,none⟩=some (.int .i64 page):=HL3.out.b2.cell 4 (by simp[cgC])
 have d5:X3.cell? ⟨B2,5,none⟩=some (.slice au m cu):=HL3.out.b2.cell 5 (by simp[cgC])
 have d6:X3.cell? ⟨B2,6,none⟩=some (.int .i64 n0):=HL3.out.b2.cell 6 (by simp[cgC])
 go_upto_region 6 with(rw[HX3.out])
 (try rw[HX3.out])
 (try rw[HB7.out])
 clear HX3 HB7
 go_wp2_with fail
 refine(HAI.out _ _ _ _ _ HL3.out.s1 HL3.out.r1).mono ?_
 rintro e W4 ⟨ag,cg,rfl,hs1,hb1⟩
 clear d0 d1 d2 d3 d4 d5 d6
 clear t0
 obtain⟨X4,hX4⟩:∃q,W4.alloc (Obj.cells #[.slice ag ny cg] 25)=q:=⟨_,rfl⟩
 have hbX:Below W4.heap.size W4 X4:=by rw[←hX4];exact alcB _ _
 have HG:Hid (Box X4 W4.heap.size 25 #[.slice ag ny cg]∧SesssAt 0 X4 (.slice ag ny cg) ys):=⟨by rw[←hX4];exact Box.new _ _ _,At.kept kept_sess hs1 hbX⟩
 have HW4:Hid (Box X4 B7 25 #[.slice aw ny cw]∧SesssAt 0 X4 (.slice aw ny cw) ys):=⟨HW.out.1.below (bjoin hbX hb1),At.kept kept_sess HW.out.2 (bjoin hbX hb1)⟩
 have HL4:=hide (HL3.out.below (bjoin hbX hb1))
 have HX4:=hide hX4
 clear hs1 hb1 hbX hX4 HL3 HW
 obtain⟨B9,hB9⟩:∃q,W4.heap.size=q:=⟨_,rfl⟩
 rw[hB9] at HG
 have HB9:=hide hB9
 clear hB9
 have t0:X4.cell? ⟨B9,0,none⟩=some (.slice ag ny cg):=HG.out.1.cell 0 (by simp)
 have t1:X4.cell? ⟨B7,0,none⟩=some (.slice aw ny cw):=HW4.out.1.cell 0 (by simp)
 go_upto_region 7 with(rw[HX4.out])
 (try rw[HX4.out])
 (try rw[HB9.out])
 clear HX4 HB9
 go_wp2_with fail
 refine(HWT.out ys _ _ _ HG.out.2 HW4.out.2).mono ?_
 rintro e W5 ⟨rfl,hb1⟩
 have HL5:=hide (HL4.out.below hb1)
 clear hb1 t0 t1 HL4 HG HW4
 have d0:W5.cell? ⟨B4,0,none⟩=some (.int .i64 kind):=HL5.out.b4.cell 0 (by simp[cgC])
 have d1:W5.cell? ⟨B4,1,none⟩=some (.int .i64 client):=HL5.out.b4.cell 1 (by simp[cgC])
 have d2:W5.cell? ⟨B4,2,none⟩=some (.string tag):=HL5.out.b4.cell 2 (by simp[cgC])
 have d3:W5.cell? ⟨B4,3,none⟩=some (.string query):=HL5.out.b4.cell 3 (by simp[cgC])
 have d4:W5.cell? ⟨B4,4,none⟩=some (.int .i64 page):=HL5.out.b4.cell 4 (by simp[cgC])
 have d5:W5.cell? ⟨B4,5,none⟩=some (.slice av m cv):=HL5.out.b4.cell 5 (by simp[cgC])
 have d6:W5.cell? ⟨B4,6,none⟩=some (.int .i64 n0):=HL5.out.b4.cell 6 (by simp[cgC])
 go_wp2_with fail
 refine(HES.out _ _ HL5.out.r2).mono ?_
 rintro e W6 ⟨rfl,hb1⟩
 have HL6:=hide (HL5.out.below hb1)
 clear d0 d1 d2 d3 d4 d5 d6
 clear hb1 HL5
 go_upto_if 54 with fail
 go_cut [3] (fun s wx=>s=.pointer (some ⟨B1,0,none⟩)∧LT w xs ⟨kind,client,tag,query,page,rows,n0⟩ B1 B2 B3 B4 (.slice a1 n1 c1) (.slice au m cu) (.slice a2 n1 c2) (.slice av m cv) wx)
 case first =>
  by_cases hz:ES.size=0
  ·have hz0:¬(0:Int)<(ES.size:Int):=by omega
   go_wp2_with fail
   go_meet
   case rel=>exact⟨rfl,HL6.out⟩
  ·have hz0:(0:Int)<(ES.size:Int):=by omega
   have d0:W6.cell? ⟨B2,0,none⟩=some (.int .i64 kind):=HL6.out.b2.cell 0 (by simp[cgC])
   have d1:W6.cell? ⟨B2,1,none⟩=some (.int .i64 client):=HL6.out.b2.cell 1 (by simp[cgC])
   have d2:W6.cell? ⟨B2,2,none⟩=some (.string tag):=HL6.out.b2.cell 2 (by simp[cgC])
   have d3:W6.cell? ⟨B2,3,none⟩=some (.string query):=HL6.out.b2.cell 3 (by simp[cgC])
   have d4:W6.cell? ⟨B2,4,none⟩=some (.int .i64 page):=HL6.out.b2.cell 4 (by simp[cgC])
   have d5:W6.cell? ⟨B2,5,none⟩=some (.slice au m cu):=HL6.out.b2.cell 5 (by simp[cgC])
   have d6:W6.cell? ⟨B2,6,none⟩=some (.int .i64 n0):=HL6.out.b2.cell 6 (by simp[cgC])
   go_wp2_with fail
   refine(HEI.out _ _ HL6.out.r1 (HENV.out _ HL6.out.bel).1).mono ?_
   rintro e V1 ⟨rfl,hb1⟩
   have HM1:=hide (HL6.out.below hb1)
   clear hb1
   clear d0 d1 d2 d3 d4 d5 d6
   go_wp2_with fail
   refine(HDI.out hz _ (HENV.out _ HM1.out.bel).1 (HENV.out _ HM1.out.bel).2).mono ?_
   rintro e V2 ⟨ab,cb,rfl,hr1,hb1⟩
   obtain⟨V3,hV3⟩:∃q,V2.alloc (Obj.cells #[.int .i64 kind,.int .i64 client,.string tag,.string query,.int .i64 page,.slice ab m cb,.int .i64 n0] 28)=q:=⟨_,rfl⟩
   have hbX:Below V2.heap.size V2 V3:=by rw[←hV3];exact alcB _ _
   have HBK:Hid (Box V3 V2.heap.size 28 (cgC ⟨kind,client,tag,query,page,rows,n0⟩ (.slice ab m cb))∧StrsAt 0 V3 (.slice ab m cb) rows):=⟨by rw[←hV3];exact Box.new _ _ _,At.kept kept_str hr1 hbX⟩
   have HM3:=hide (HM1.out.below (bjoin hbX hb1))
   have HV3:=hide hV3
   clear hr1 hb1 hbX hV3
   obtain⟨B11,hB11⟩:∃q,V2.heap.size=q:=⟨_,rfl⟩
   rw[hB11] at HBK
   have HB11:=hide hB11
   clear hB11
   have g0:V3.cell? ⟨B11,0,none⟩=some (.int .i64 kind):=HBK.out.1.cell 0 (by simp[cgC])
   have g1:V3.cell? ⟨B11,1,none⟩=some (.int .i64 client):=HBK.out.1.cell 1 (by simp[cgC])
   have g2:V3.cell? ⟨B11,2,none⟩=some (.string tag):=HBK.out.1.cell 2 (by simp[cgC])
   have g3:V3.cell? ⟨B11,3,none⟩=some (.string query):=HBK.out.1.cell 3 (by simp[cgC])
   have g4:V3.cell? ⟨B11,4,none⟩=some (.int .i64 page):=HBK.out.1.cell 4 (by simp[cgC])
   have g5:V3.cell? ⟨B11,5,none⟩=some (.slice ab m cb):=HBK.out.1.cell 5 (by simp[cgC])
   have g6:V3.cell? ⟨B11,6,none⟩=some (.int .i64 n0):=HBK.out.1.cell 6 (by simp[cgC])
   have d0:V3.cell? ⟨B4,0,none⟩=some (.int .i64 kind):=HM3.out.b4.cell 0 (by simp[cgC])
   have d1:V3.cell? ⟨B4,1,none⟩=some (.int .i64 client):=HM3.out.b4.cell 1 (by simp[cgC])
   have d2:V3.cell? ⟨B4,2,none⟩=some (.string tag):=HM3.out.b4.cell 2 (by simp[cgC])
   have d3:V3.cell? ⟨B4,3,none⟩=some (.string query):=HM3.out.b4.cell 3 (by simp[cgC])
   have d4:V3.cell? ⟨B4,4,none⟩=some (.int .i64 page):=HM3.out.b4.cell 4 (by simp[cgC])
   have d5:V3.cell? ⟨B4,5,none⟩=some (.slice av m cv):=HM3.out.b4.cell 5 (by simp[cgC])
   have d6:V3.cell? ⟨B4,6,none⟩=some (.int .i64 n0):=HM3.out.b4.cell 6 (by simp[cgC])
   go_upto_region 11 with(rw[HV3.out])
   (try rw[HV3.out])
   (try rw[HB11.out])
   clear HV3 HB11
   go_wp2_with fail
   refine(HWC.out _ _ _ HBK.out.2 HM3.out.r2).mono ?_
   rintro e V4 ⟨rfl,hb1⟩
   have HM4:=hide (HM3.out.below hb1)
   clear hb1
   go_wp2_with fail
   go_meet
   case rel=>exact⟨rfl,HM4.out⟩
 case rest =>
  clear HL6
  obtain⟨W7,rfl⟩:∃x,x=wc:=⟨_,rfl⟩
  obtain⟨rfl,hL7⟩:=hcut
  have HL7:=hide hL7
  clear hL7
  have t0:W7.cell? ⟨B1,0,none⟩=some (.slice a1 n1 c1):=HL7.out.b1.cell 0 (by simp)
  go_wp2_with fail
  refine(HSI.out _ _ HL7.out.s1 (HENV.out _ HL7.out.bel).1).mono ?_
  rintro e W8 ⟨rfl,hb1⟩
  have HL8:=hide (HL7.out.below hb1)
  clear hb1 t0 HL7
  have t0:W8.cell? ⟨B3,0,none⟩=some (.slice a2 n1 c2):=HL8.out.b3.cell 0 (by simp)
  go_wp2_with fail
  refine(HSS.out _ _ HL8.out.s2).mono ?_
  rintro e W9 ⟨rfl,hb1⟩
  have HL9:=hide (HL8.out.below hb1)
  clear hb1 t0 HL8
  by_cases hz:SB.size=0
  ·have hz0:((SB.size:Int) == 0)=true:=beq_iff_eq.2 (by omega)
   go_wp2_with fail
   go_ret
   exact⟨rfl,HL9.out.bel⟩
  have hz0:((SB.size:Int) == 0)=false:=beq_eq_false_iff_ne.2 (by omega)
  have HTBL:=hide (HTB.out hz)
  clear hz
  go_wp2_with fail
  refine(HRI.out HTBL.out _ (HENV.out _ HL9.out.bel).1 (HENV.out _ HL9.out.bel).2).mono ?_
  rintro e W10 ⟨ar,cr,rfl,hs1,hb1⟩
  obtain⟨X9,hX9⟩:∃q,W10.alloc (Obj.cells #[.slice ar n1 cr] 25)=q:=⟨_,rfl⟩
  have hbX:Below W10.heap.size W10 X9:=by rw[←hX9];exact alcB _ _
  have HR:Hid (Box X9 W10.heap.size 25 #[.slice ar n1 cr]∧SesssAt 0 X9 (.slice ar n1 cr) (failT xs)):=⟨by rw[←hX9];exact Box.new _ _ _,At.kept kept_sess hs1 hbX⟩
  have HL10:=hide (HL9.out.below (bjoin hbX hb1))
  have HX9:=hide hX9
  have hnl:n1≤9223372036854775807:=by rw[←HN1.out];exact HL10.out.s2.1
  clear hs1 hb1 hbX hX9 HL9 hz0
  obtain⟨B14,hB14⟩:∃q,W10.heap.size=q:=⟨_,rfl⟩
  rw[hB14] at HR
  have HB14:=hide hB14
  clear hB14
  have t0:X9.cell? ⟨B14,0,none⟩=some (.slice ar n1 cr):=HR.out.1.cell 0 (by simp)
  have t1:X9.cell? ⟨B3,0,none⟩=some (.slice a2 n1 c2):=HL10.out.b3.cell 0 (by simp)
  go_upto_region 17 with(rw[HX9.out])
  (try rw[HX9.out])
  (try rw[HB14.out])
  clear HX9 HB14
  go_wp2_with fail
  go_loopg [15] n1 (fun z9 i wr=>∃k:Nat,k≤n1∧z9=n1 - k∧i=.int .i64 (k:Int)∧Below X9.heap.size X9 wr)
  case atStart=>exact⟨0,by omega,rfl,rfl,Below.refl _ _⟩
  case round =>
   obtain⟨k,hk,rfl,rfl,hb⟩:=hrel
   obtain⟨Y,rfl⟩:∃x,x=wr:=⟨_,rfl⟩
   have HBY:=hide hb
   clear hb t0 t1
   by_cases hlt:k<n1
   ·have hki:(k:Int)<(n1:Int):=by omega
    have hi0:(0:Int)≤(k:Int):=by omega
    have hkx:k<xs.length:=by rw[HN1.out];exact hlt
    have hkf:k<(failT xs).length:=by rw[failT_len];exact hkx
    obtain⟨x,hxk⟩:∃x,xs[k]=x:=⟨_,rfl⟩
    obtain⟨y,hy⟩:∃y,failS x=y:=⟨_,rfl⟩
    have hfk:(failT xs)[k]=y:=by rw[←hy,←hxk];unfold failT;exact List.getElem_map _
    obtain⟨a',cap',ea,hel⟩:=At.form HL10.out.s2
    rw[HN1.out] at ea
    injection ea with e1 _ e3
    subst e1 e3
    obtain⟨b,off,rfl,_,hlt1,g⟩:=hel k hkx
    obtain⟨a'',cap'',ea,hel2⟩:=At.form HR.out.2
    rw[failT_len,HN1.out] at ea
    injection ea with e1 _ e3
    subst e1 e3
    obtain⟨b2,off2,rfl,_,hlt2,g2⟩:=hel2 k hkf
    obtain⟨p,hp⟩:∃p,off+k * 7=p:=⟨_,rfl⟩
    obtain⟨p2,hp2⟩:∃p2,off2+k * 7=p2:=⟨_,rfl⟩
    rw[hxk,hp] at g
    rw[hfk,hp2] at g2
    obtain⟨c0,c1,c2,c3,c4,c6,_,_,ve,c5,hr1⟩:=g
    obtain⟨d0,d1,d2,d3,d4,d6,_,_,ue,d5,hr2⟩:=g2
    obtain⟨ae,ce,hfe⟩:∃a c,ve=.slice a x.rows.length c:=by obtain⟨a,c,e,_⟩:=hr1.form;exact⟨a,c,e⟩
    obtain⟨aq,cq,hfu⟩:∃a c,ue=.slice a y.rows.length c:=by obtain⟨a,c,e,_⟩:=hr2.form;exact⟨a,c,e⟩
    subst hfe hfu
    have HRX:=hide hr1
    have HRY:=hide hr2
    have KR:Hid (∀X,Below X9.heap.size X9 X→X.cell? ⟨B14,0,none⟩=some (.slice (some ⟨b2,off2,none⟩) n1 cr)∧(X.cell? ⟨b2,p2,none⟩=some (.int .i64 y.client)∧X.cell? ⟨b2,p2+1,none⟩=some (.string y.tag)∧X.cell? ⟨b2,p2+2,none⟩=some (.string y.query)∧X.cell? ⟨b2,p2+3,none⟩=some (.int .i64 y.page)∧X.cell? ⟨b2,p2+4,none⟩=some (.int .i64 y.state)∧X.cell? ⟨b2,p2+5,none⟩=some (.slice aq y.rows.length cq)∧X.cell? ⟨b2,p2+6,none⟩=some (.int .i64 y.cursor))):=fun X h =>
     ⟨(HR.out.1.below h).cell 0 (by simp),(h.cell (by exact hlt2)).trans d0,(h.cell (by exact hlt2)).trans d1,(h.cell (by exact hlt2)).trans d2,(h.cell (by exact hlt2)).trans d3,(h.cell (by exact hlt2)).trans d4,(h.cell (by exact hlt2)).trans d5,(h.cell (by exact hlt2)).trans d6⟩
    have t1:Y.cell? ⟨B3,0,none⟩=some (.slice (some ⟨b,off,none⟩) n1 _):=(HL10.out.b3.below HBY.out).cell 0 (by simp)
    have k0:Y.cell? ⟨b,p,none⟩=some (.int .i64 x.client):=(HBY.out.cell (by exact hlt1)).trans c0
    have k1:Y.cell? ⟨b,p+1,none⟩=some (.string x.tag):=(HBY.out.cell (by exact hlt1)).trans c1
    have k2:Y.cell? ⟨b,p+2,none⟩=some (.string x.query):=(HBY.out.cell (by exact hlt1)).trans c2
    have k3:Y.cell? ⟨b,p+3,none⟩=some (.int .i64 x.page):=(HBY.out.cell (by exact hlt1)).trans c3
    have k4:Y.cell? ⟨b,p+4,none⟩=some (.int .i64 x.state):=(HBY.out.cell (by exact hlt1)).trans c4
    have k5:Y.cell? ⟨b,p+5,none⟩=some (.slice ae x.rows.length ce):=(HBY.out.cell (by exact hlt1)).trans c5
    have k6:Y.cell? ⟨b,p+6,none⟩=some (.int .i64 x.cursor):=(HBY.out.cell (by exact hlt1)).trans c6
    obtain⟨X22,hX22⟩:∃q,Y.alloc (Obj.cells #[.int .i64 x.client,.string x.tag,.string x.query,.int .i64 x.page,.int .i64 x.state,.slice ae x.rows.length ce,.int .i64 x.cursor] 41)=q:=⟨_,rfl⟩
    have HS22:Hid (Box X22 Y.heap.size 41 #[.int .i64 x.client,.string x.tag,.string x.query,.int .i64 x.page,.int .i64 x.state,.slice ae x.rows.length ce,.int .i64 x.cursor]):=by rw[←hX22];exact Box.new _ _ _
    have HB22:Hid (Below Y.heap.size Y X22):=by rw[←hX22];exact alcB _ _
    have HX22:=hide hX22
    obtain⟨S,hS⟩:∃q,Y.heap.size=q:=⟨_,rfl⟩
    have HS:=hide hS
    rw[hS] at HS22
    have HYE:=hide hy
    clear hel hel2 c0 c1 c2 c3 c4 c5 c6 d0 d1 d2 d3 d4 d5 d6 hr1 hr2 hxk hfk hX22 hS hkx hkf hy
    go_upto_region 23 with(rw[HX22.out])
    (try rw[HX22.out])
    (try rw[HS.out])
    clear t1 k0 k1 k2 k3 k4 k5 k6
    have s4:X22.cell? ⟨S,4,none⟩=some (.int .i64 x.state):=HS22.out.cell 4 (by simp)
    go_upto_if 101 with fail
    clear s4
    go_cut [16] (fun s wx=>s=.pointer (some ⟨S,0,none⟩)∧∃aw9 nw9 cw9,Box wx S 41 #[.int .i64 y.client,.string y.tag,.string y.query,.int .i64 y.page,.int .i64 y.state,.slice aw9 nw9 cw9,.int .i64 y.cursor]∧StrsAt 0 wx (.slice aw9 nw9 cw9) y.rows∧Below Y.heap.size Y wx)
    case first =>
     by_cases hst:x.state=1
     ·have hsb:(x.state == 1)=true:=by simp;exact hst
      have HYD:Hid (y=⟨x.client,x.tag,x.query,x.page,3,[],0⟩):=by show _=_;rw[←HYE.out];unfold failS;rw[if_pos hst]
      clear KR HRY HRX HYE HX22 HL10 HR HBY
      obtain⟨xc,xt,xq,xp,xst,xr,xcu⟩:=x
      dsimp only at HS22 hsb hst HYD ⊢
      obtain⟨xn,hxn⟩:∃q,xr.length=q:=⟨_,rfl⟩
      rw[hxn] at HS22
      (try rw[hxn])
      clear hxn
      subst hst
      clear hsb
      have hsb:((1:Int) == 1)=true:=rfl
      have s0:X22.cell? ⟨S,0,none⟩=some (.int .i64 xc):=HS22.out.cell 0 (by simp)
      have s1:X22.cell? ⟨S,1,none⟩=some (.string xt):=HS22.out.cell 1 (by simp)
      have s2:X22.cell? ⟨S,2,none⟩=some (.string xq):=HS22.out.cell 2 (by simp)
      have s3:X22.cell? ⟨S,3,none⟩=some (.int .i64 xp):=HS22.out.cell 3 (by simp)
      have s4:X22.cell? ⟨S,4,none⟩=some (.int .i64 1):=HS22.out.cell 4 (by simp)
      have s5:X22.cell? ⟨S,5,none⟩=some (.slice ae xn ce):=HS22.out.cell 5 (by simp)
      have s6:X22.cell? ⟨S,6,none⟩=some (.int .i64 xcu):=HS22.out.cell 6 (by simp)
      have f0:=HS22.out.frozen 0
      have f1:=HS22.out.frozen 1
      have f2:=HS22.out.frozen 2
      have f3:=HS22.out.frozen 3
      have f4:=HS22.out.frozen 4
      have f5:=HS22.out.frozen 5
      have f6:=HS22.out.frozen 6
      have sl:=HS22.out.lt
      go_wp2_with fail
      go_meet
      case rel=>exact⟨rfl,none,0,0,by rw[HYD.out];exact Box.fill7 HS22.out _ _ _ _ _ _ _,by rw[HYD.out];exact⟨by simp,.inl ⟨_,_,rfl,rfl⟩⟩,Below.fill7 HB22.out (b:=S) (by have:=HS.out;omega) _ _ _ _ _ _ _⟩
     ·have hsb:(x.state == 1)=false:=by simp;exact hst
      have hyE:y=x:=by rw[←HYE.out];unfold failS;rw[if_neg hst]
      subst hyE
      clear hst
      go_wp2_with fail
      go_meet
      case rel=>exact⟨rfl,ae,y.rows.length,ce,HS22.out,At.kept kept_str HRX.out (bjoin HB22.out HBY.out),HB22.out⟩
    case rest =>
     clear HS22 HB22 HYE HRX
     obtain⟨Z,rfl⟩:∃x,x=wc:=⟨_,rfl⟩
     obtain⟨rfl,aq2,nq2,cq2,hbx,hrz,hbz⟩:=hcut
     have HBX:=hide hbx
     have HRZ:=hide hrz
     have HBZ:=hide hbz
     clear hbx hrz hbz
     have KS:Hid (∀X,Below Z.heap.size Z X→X.cell? ⟨B14,0,none⟩=some (.slice (some ⟨b2,off2,none⟩) n1 cr)∧(X.cell? ⟨b2,p2,none⟩=some (.int .i64 y.client)∧X.cell? ⟨b2,p2+1,none⟩=some (.string y.tag)∧X.cell? ⟨b2,p2+2,none⟩=some (.string y.query)∧X.cell? ⟨b2,p2+3,none⟩=some (.int .i64 y.page)∧X.cell? ⟨b2,p2+4,none⟩=some (.int .i64 y.state)∧X.cell? ⟨b2,p2+5,none⟩=some (.slice aq y.rows.length cq)∧X.cell? ⟨b2,p2+6,none⟩=some (.int .i64 y.cursor))∧(X.cell? ⟨S,0,none⟩=some (.int .i64 y.client)∧X.cell? ⟨S,1,none⟩=some (.string y.tag)∧X.cell? ⟨S,2,none⟩=some (.string y.query)∧X.cell? ⟨S,3,none⟩=some (.int .i64 y.page)∧X.cell? ⟨S,4,none⟩=some (.int .i64 y.state)∧X.cell? ⟨S,5,none⟩=some (.slice aq2 nq2 cq2)∧X.cell? ⟨S,6,none⟩=some (.int .i64 y.cursor))):=fun X h =>
      ⟨(KR.out X (bjoin h (bjoin HBZ.out HBY.out))).1,(KR.out X (bjoin h (bjoin HBZ.out HBY.out))).2,(HBX.out.below h).cell 0 (by simp),(HBX.out.below h).cell 1 (by simp),(HBX.out.below h).cell 2 (by simp),(HBX.out.below h).cell 3 (by simp),(HBX.out.below h).cell 4 (by simp),(HBX.out.below h).cell 5 (by simp),(HBX.out.below h).cell 6 (by simp)⟩
     go_wp2_with fail
     obtain⟨D,hwd⟩:∃D,Z.drew=D:=⟨_,rfl⟩
     have hbd0:Below Z.heap.size Z Z.drew:=(Below.refl _ _).drew
     have hD:Below Z.heap.size Z D:=by rw[←hwd];exact hbd0
     go_region_held3 (fun X:World=>X.cell? ⟨B14,0,none⟩=some (.slice (some ⟨b2,off2,none⟩) n1 cr)∧(X.cell? ⟨b2,p2,none⟩=some (.int .i64 y.client)∧X.cell? ⟨b2,p2+1,none⟩=some (.string y.tag)∧X.cell? ⟨b2,p2+2,none⟩=some (.string y.query)∧X.cell? ⟨b2,p2+3,none⟩=some (.int .i64 y.page)∧X.cell? ⟨b2,p2+4,none⟩=some (.int .i64 y.state)∧X.cell? ⟨b2,p2+5,none⟩=some (.slice aq y.rows.length cq)∧X.cell? ⟨b2,p2+6,none⟩=some (.int .i64 y.cursor))∧(X.cell? ⟨S,0,none⟩=some (.int .i64 y.client)∧X.cell? ⟨S,1,none⟩=some (.string y.tag)∧X.cell? ⟨S,2,none⟩=some (.string y.query)∧X.cell? ⟨S,3,none⟩=some (.int .i64 y.page)∧X.cell? ⟨S,4,none⟩=some (.int .i64 y.state)∧X.cell? ⟨S,5,none⟩=some (.slice aq2 nq2 cq2)∧X.cell? ⟨S,6,none⟩=some (.int .i64 y.cursor)))
      (first|with_reducible exact KS.out _ hbd0|with_reducible exact KS.out _ hD|with_reducible exact KS.out _ hb9)
      (first|(go_at_call 15;refine(wSess_yes y (.slice aq y.rows.length cq) (.slice aq2 nq2 cq2) _ (At.kept kept_str HRY.out (bjoin hD (bjoin HBZ.out HBY.out))) (At.kept kept_str HRZ.out hD)).mono ?_;rintro e w2 ⟨rfl,hb2⟩;have hb9:Below Z.heap.size Z w2:=bjoin hb2 hD))
     have HB9:=hide (bjoin hb9 (bjoin HBZ.out HBY.out))
     clear hb9 hb2
     go_wp2_with fail
     go_roundg (n1 - (k+1))
     case measure=>omega
     case rel=>exact⟨k+1,by omega,rfl,by go_num,HB9.out⟩
   ·obtain rfl:k=n1:=by omega
    have hki:¬(k:Int)<(k:Int):=by omega
    have t1:Y.cell? ⟨B3,0,none⟩=some (.slice a2 k c2):=(HL10.out.b3.below HBY.out).cell 0 (by simp)
    have KS:Hid (∀X,Below Y.heap.size Y X→X.cell? ⟨B14,0,none⟩=some (.slice ar k cr)):=fun X h=>(HR.out.1.below (bjoin h HBY.out)).cell 0 (by simp)
    have HSR:Hid (∀X,Below Y.heap.size Y X→SesssAt 0 X (.slice ar k cr) (failT xs)):=fun X h=>At.kept kept_sess HR.out.2 (bjoin h HBY.out)
    have HEN:Hid (∀X,Below Y.heap.size Y X→Env X∧Mx X):=fun X h=>HENV.out X (bjoin (bjoin h HBY.out) HL10.out.bel)
    clear hlt hk
    go_upto_region 27 with fail
    clear t1
    obtain⟨D,hwd⟩:∃D,Y.drew=D:=⟨_,rfl⟩
    have hbd0:Below Y.heap.size Y Y.drew:=(Below.refl _ _).drew
    have hD:Below Y.heap.size Y D:=by rw[←hwd];exact hbd0
    go_region_held3 (fun X:World=>X.cell? ⟨B14,0,none⟩=some (.slice ar k cr))
     (first|with_reducible exact KS.out _ hbd0|with_reducible exact KS.out _ hD|with_reducible exact KS.out _ hB6|with_reducible exact KS.out _ hB7|with_reducible exact KS.out _ hB8)
     (first
      | (go_at_call 12;refine(HSI2.out _ _ (HSR.out _ hD) (HEN.out _ hD).1).mono ?_;rintro e V6 ⟨rfl,hb6⟩;have hB6:Below Y.heap.size Y V6:=bjoin hb6 hD)
      | (go_at_call 14;refine(HRI2.out HTBL.out _ (HEN.out _ hB6).1 (HEN.out _ hB6).2).mono ?_;rintro e V7 ⟨a7,c7,rfl,hs7,hb7⟩;have hB7:Below Y.heap.size Y V7:=bjoin hb7 hB6)
      | (go_at_call 7;refine(HWT.out (failT xs) _ _ _ hs7 (HSR.out _ hB7)).mono ?_;rintro e V8 ⟨rfl,hb8⟩;have hB8:Below Y.heap.size Y V8:=bjoin hb8 hB7))
    have HEND:=hide (bjoin (bjoin hB8 HBY.out) HL10.out.bel)
    clear hB8 hb8 hB7 hb7 hs7 hB6 hb6 hD hbd0
    go_wp2_with fail
    go_ret
    exact⟨rfl,HEND.out⟩
end Go.Proofs.YtglcdcekkglmiaaGreatDoor.Msg
