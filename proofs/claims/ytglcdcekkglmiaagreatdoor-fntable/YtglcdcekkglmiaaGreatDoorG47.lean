import Derived.Test.YtglcdcekkglmiaaGreatDoorG46
import Derived.Deep.LoopGhost
import Derived.Test.YtglcdcekkglmiaaGreatDoorG44
import Derived.Deep.RegionHeld3
namespace Go.Proofs.YtglcdcekkglmiaaGreatDoor.Msg
open Go.ChangeShapes Go.WideShapes Go.ChangeAt Go.RowKit
set_option linter.unusedVariables false
set_option linter.unusedSimpArgs false
set_option maxRecDepth 100000 in
set_option maxHeartbeats 16000000 in
theorem drawAp_any (cs:List UInt8) (v:Value) (w:World) {lo:Nat} (hv:CodeAt lo w v cs) (hl:cs.length≤1048576) :
  Calls Tryz.prog 4 #[v] w fun e w'=>∃tv u,e=.returned (.tuple #[.agg #[tv],chgV (apC cs) u])∧SesssAt w.heap.size w' tv (apT cs)∧StrsAt w.heap.size w' u (apC cs).rows∧Below w.heap.size w w':=by
 obtain⟨X0,hX0⟩:∃x,(w.alloc (.cells #[.slice none 0 0] 25)).alloc (.cells #[.int .i64 0,.int .i64 0,.string ⟨#[]⟩,.string ⟨#[]⟩,.int .i64 0,.slice none 0 0,.int .i64 0] 28)=x:=⟨_,rfl⟩
 have b0:Below w.heap.size w X0:=by
  rw[←hX0]
  have h1:=(Below.refl w.heap.size w).alloc (leR _) (Obj.cells #[.slice none 0 0] 25)
  exact h1.alloc h1.size _
 have HRT:Hid (Box X0 w.heap.size 25 #[.slice none 0 0]):=by rw[←hX0];exact(Box.new _ _ _).alloc _
 have HRC:Hid (Box X0 (w.heap.size+1) 28 cgZ):=by
  rw[←hX0]
  have:=Box.new (w.alloc (Obj.cells #[.slice none 0 0] 25)) 28 cgZ
  rw[Deep.nblk_alloc] at this
  exact this
 have HSX:Hid (X0.heap.size=w.heap.size+2):=by show _=_;rw[←hX0];simp
 have HT1:=hide (take_any cs v 0 24 X0 (At.kept kept_code hv b0) hl (by omega) (by decide))
 have HDT:=hide (drawTb_any cs v X0 (At.kept kept_code hv b0) hl)
 have HT2:=hide (fun W (hb:Below w.heap.size w W)=>take_any cs v 1 32 W (At.kept kept_code hv hb) hl (by omega) (by decide))
 have HCH:=hide (fun W (hb:Below w.heap.size w W) (tv:Value) (l9:Nat) (h:SesssAt l9 W tv (apT1 cs))=>drawCh_any cs v 2 (apT1 cs) tv W (At.kept kept_code hv hb) hl (by omega) h (fun s hs=>Nat.le_trans ((apT1_ok cs).2 s hs).2 (by decide)))
 have HSPL:=hide (fun W (hb:Below w.heap.size w W) (tv:Value) (l9:Nat) (h:SesssAt l9 W tv (apT1 cs))=>spoil_any cs v (apZ cs) (apT1 cs) tv W (At.kept kept_code hv hb) hl (by have:=apZ_le cs;omega) h (apT1_ok cs).1 (apT1_ok cs).2)
 have HB0:=hide b0
 obtain⟨aa,cap,rfl,_⟩:=code_form hv
 have hhow:=apH_lt cs
 have hx32:=apX_lt cs
 have eh:tk cs 0 24=apH cs:=rfl
 have ex:tk cs 1 32=apX cs:=rfl
 rw[eh] at HT1
 rw[ex] at HT2
 have HZ0:Hid (drChQ cs 2 (apT1 cs)=apZ cs):=rfl
 rw[HZ0.out] at HCH
 have hz18:=apZ_le cs
 have HX0:=hide hX0
 clear hv b0 hX0 eh ex
 obtain⟨how,hho⟩:∃q,apH cs=q:=⟨_,rfl⟩
 obtain⟨x,hxx⟩:∃q,apX cs=q:=⟨_,rfl⟩
 obtain⟨z,hzz⟩:∃q,apZ cs=q:=⟨_,rfl⟩
 rw[hho] at HT1 hhow
 rw[hxx] at HT2 hx32
 rw[hzz] at HCH hz18 HSPL
 have HHO:=hide hho
 have HXX:=hide hxx
 have HZZ:=hide hzz
 clear hho hxx hzz
 go_enter Tryz.func4,Tryz.ntmps4
 go_wp2_with fail
 rw[HX0.out]
 refine HT1.out.mono ?_
 rintro e w2 ⟨rfl,hw2⟩
 rw[hw2]
 clear hw2 w2
 go_wp2_with fail
 refine HDT.out.mono ?_
 rintro e V1 ⟨t1,rfl,hst1,hb1⟩
 obtain⟨at1,ct1,et1,_⟩:=At.form hst1
 obtain⟨n1,hn1⟩:∃q,(drTable cs).length=q:=⟨_,rfl⟩
 rw[hn1] at et1
 subst et1
 obtain⟨V2,hV2⟩:∃q,V1.alloc (Obj.cells #[.slice at1 n1 ct1] 25)=q:=⟨_,rfl⟩
 have hb2:Below V1.heap.size V1 V2:=by rw[←hV2];exact alcB _ _
 have hs2:V2.heap.size=V1.heap.size+1:=by rw[←hV2];simp
 have HBT:Hid (Box V2 V1.heap.size 25 #[.slice at1 n1 ct1]):=by rw[←hV2];exact Box.new _ _ _
 have HB2:=hide (bjoin (bjoin hb2 hb1) HB0.out)
 have HRT2:=hide (HRT.out.below (bjoin hb2 hb1))
 have HRC2:=hide (HRC.out.below (bjoin hb2 hb1))
 have HST1:=hide hst1
 have HB12:=hide hb2
 have HSZ:Hid (w.heap.size+2≤V1.heap.size∧V2.heap.size=V1.heap.size+1):=⟨by have:=hb1.size;have:=HSX.out;omega,hs2⟩
 have HN1:=hide hn1
 have HV2:=hide hV2
 clear hst1 hb1 hb2 hs2 hn1 hV2
 go_wp2_with (rw[HV2.out])
 (try rw[HV2.out])
 refine(HT2.out V2 HB2.out).mono ?_
 rintro e w2 ⟨rfl,hw2⟩
 rw[hw2]
 clear hw2 w2
 by_cases hE:how<20
 ·have g20:¬(20:Int)≤(how:Int):=by omega
  have q20:((how:Int) == 20)=false:=by simp;omega
  have q22:((how:Int) == 22)=false:=by simp;omega
  have q23:((how:Int) == 23)=false:=by simp;omega
  have HT1E:Hid (apT1 cs=drTable cs):=by show _=_;unfold apT1;rw[if_neg (by rw[HHO.out];omega)]
  have HTT0:Hid (apT cs=drTable cs):=by
   show _=_
   unfold apT
   rw[if_neg (by rw[HHO.out];omega)]
   unfold apT2
   rw[if_neg (by rw[HHO.out];omega),HT1E.out]
  have HCC0:Hid (apC cs=drCh cs 2 (apT1 cs)):=by
   show _=_
   unfold apC
   rw[if_neg (by rw[HHO.out];omega)]
   unfold apC1
   rw[if_neg (by rw[HHO.out];omega)]
  obtain⟨c,hc⟩:∃c,drCh cs 2 (apT1 cs)=c:=⟨_,rfl⟩
  have HCW1:=hide (HCH.out V2 HB2.out (.slice at1 n1 ct1) _ (by rw[HT1E.out];exact At.kept kept_sess HST1.out HB12.out))
  rw[hc] at HCW1 HCC0
  obtain⟨kind,client,tag,query,page,rows,n0⟩:=c
  unfold chgV at HCW1
  dsimp only at HCW1
  have t0:V2.cell? ⟨V1.heap.size,0,none⟩=some (.slice at1 n1 ct1):=HBT.out.cell 0 (by simp)
  clear hc hE
  go_wp2_with fail
  refine HCW1.out.mono ?_
  rintro e V5 ⟨u,rfl,hu,hb5⟩
  obtain⟨au,cu,eu,_⟩:=At.form hu
  obtain⟨m,hm⟩:∃q,rows.length=q:=⟨_,rfl⟩
  rw[hm] at eu
  subst eu
  obtain⟨Y,hY⟩:∃q,V5.alloc (Obj.cells #[.int .i64 kind,.int .i64 client,.string tag,.string query,.int .i64 page,.slice au m cu,.int .i64 n0] 28)=q:=⟨_,rfl⟩
  have hbY:Below V5.heap.size V5 Y:=by rw[←hY];exact alcB _ _
  have hb25:=hb5.size
  have hsz:=HSZ.out
  have HA:Hid (AP w V1.heap.size V5.heap.size (.slice at1 n1 ct1) (drTable cs) ⟨kind,client,tag,query,page,rows,n0⟩ (.slice au m cu) Y) :=
   ⟨HRT2.out.below (bjoin hbY hb5),HRC2.out.below (bjoin hbY hb5),HBT.out.below (bjoin hbY hb5),by rw[←hY];exact Box.new _ _ _,TS.old HST1.out (by have:=HSX.out;omega) (leR _) (by omega) (bjoin (bjoin hbY hb5) HB12.out),RS.old hu (by omega) (leR _) (by omega) hbY,bjoin (bjoin hbY hb5) HB2.out,by omega,by omega⟩
  have HTT:=HTT0
  have HCC:=HCC0
  have HY:=hide hY
  obtain⟨BT,hBT⟩:∃q,V1.heap.size=q:=⟨_,rfl⟩
  obtain⟨BC,hBC⟩:∃q,V5.heap.size=q:=⟨_,rfl⟩
  have h0:=HA.out.bt.cell 0 (by simp)
  clear hu hb5 hbY hb25 hsz hm hY t0
  go_upto_region 17 with(rw[HY.out])
  (try rw[HY.out])
  rw[hBT] at HA
  rw[hBC] at HA
  (try rw[hBT])
  (try rw[hBC])
  clear h0
  obtain⟨a9,ha9⟩:∃q,at1=q:=⟨_,rfl⟩
  obtain⟨n9,hn9⟩:∃q,n1=q:=⟨_,rfl⟩
  obtain⟨c9,hc9⟩:∃q,ct1=q:=⟨_,rfl⟩
  rw[ha9,hn9,hc9] at HA
  (try rw[ha9])
  (try rw[hn9])
  (try rw[hc9])
  clear ha9 hn9 hc9 hBT hBC
  have HDA:=hide HA.out
  obtain⟨D,hwd⟩:∃D,Y.drew=D:=⟨_,rfl⟩
  have hD0:Below Y.heap.size Y Y.drew:=(Below.refl _ _).drew
  have hD:Below Y.heap.size Y D:=by rw[←hwd];exact hD0
  have HAD:=hide (HA.out.below hD)
  have KB:Hid (∀X:World,X.heap[BT]?=Y.heap[BT]?→X.heap[BC]?=Y.heap[BC]?→X.cell? ⟨BT,0,none⟩=some (.slice a9 n9 c9)∧X.cell? ⟨BC,0,none⟩=some (.int .i64 kind)∧X.cell? ⟨BC,1,none⟩=some (.int .i64 client)∧X.cell? ⟨BC,2,none⟩=some (.string tag)∧X.cell? ⟨BC,3,none⟩=some (.string query)∧X.cell? ⟨BC,4,none⟩=some (.int .i64 page)∧X.cell? ⟨BC,5,none⟩=some (.slice au m cu)∧X.cell? ⟨BC,6,none⟩=some (.int .i64 n0)):=fun X h1 h2 =>
   ⟨(HA.out.bt.keep h1).cell 0 (by simp),(HA.out.bc.keep h2).cell 0 (by simp[cgC]),(HA.out.bc.keep h2).cell 1 (by simp[cgC]),(HA.out.bc.keep h2).cell 2 (by simp[cgC]),(HA.out.bc.keep h2).cell 3 (by simp[cgC]),(HA.out.bc.keep h2).cell 4 (by simp[cgC]),(HA.out.bc.keep h2).cell 5 (by simp[cgC]),(HA.out.bc.keep h2).cell 6 (by simp[cgC])⟩
  have K1:Hid (∀X,Below Y.heap.size Y X→X.cell? ⟨BT,0,none⟩=some (.slice a9 n9 c9)∧X.cell? ⟨BC,0,none⟩=some (.int .i64 kind)∧X.cell? ⟨BC,1,none⟩=some (.int .i64 client)∧X.cell? ⟨BC,2,none⟩=some (.string tag)∧X.cell? ⟨BC,3,none⟩=some (.string query)∧X.cell? ⟨BC,4,none⟩=some (.int .i64 page)∧X.cell? ⟨BC,5,none⟩=some (.slice au m cu)∧X.cell? ⟨BC,6,none⟩=some (.int .i64 n0)):=fun X h=>KB.out X (h.block BT HA.out.bt.lt) (h.block BC HA.out.bc.lt)
  have K2:Hid (∀x0 X,D.setCell ⟨w.heap.size,0,none⟩ x0=X→X.cell? ⟨BT,0,none⟩=some (.slice a9 n9 c9)∧X.cell? ⟨BC,0,none⟩=some (.int .i64 kind)∧X.cell? ⟨BC,1,none⟩=some (.int .i64 client)∧X.cell? ⟨BC,2,none⟩=some (.string tag)∧X.cell? ⟨BC,3,none⟩=some (.string query)∧X.cell? ⟨BC,4,none⟩=some (.int .i64 page)∧X.cell? ⟨BC,5,none⟩=some (.slice au m cu)∧X.cell? ⟨BC,6,none⟩=some (.int .i64 n0)):=fun x0 X h=>by
   have h1:=HA.out.lt;have h2:=HA.out.ltc
   exact KB.out X (by rw[←h,Deep.blk_setCell_other _ ⟨w.heap.size,0,none⟩ _ BT (by dsimp only;omega)];exact hD.block BT HA.out.bt.lt) (by rw[←h,Deep.blk_setCell_other _ ⟨w.heap.size,0,none⟩ _ BC (by dsimp only;omega)];exact hD.block BC HA.out.bc.lt)
  have K3:Hid (∀x9 x0 x1 x2 x3 x4 x5 x6 X,(((((((D.setCell ⟨w.heap.size,0,none⟩ x9).setCell ⟨w.heap.size+1,0,none⟩ x0).setCell ⟨w.heap.size+1,1,none⟩ x1).setCell ⟨w.heap.size+1,2,none⟩ x2).setCell ⟨w.heap.size+1,3,none⟩ x3).setCell ⟨w.heap.size+1,4,none⟩ x4).setCell ⟨w.heap.size+1,5,none⟩ x5).setCell ⟨w.heap.size+1,6,none⟩ x6=X→X.cell? ⟨BT,0,none⟩=some (.slice a9 n9 c9)∧X.cell? ⟨BC,0,none⟩=some (.int .i64 kind)∧X.cell? ⟨BC,1,none⟩=some (.int .i64 client)∧X.cell? ⟨BC,2,none⟩=some (.string tag)∧X.cell? ⟨BC,3,none⟩=some (.string query)∧X.cell? ⟨BC,4,none⟩=some (.int .i64 page)∧X.cell? ⟨BC,5,none⟩=some (.slice au m cu)∧X.cell? ⟨BC,6,none⟩=some (.int .i64 n0)):=fun x9 x0 x1 x2 x3 x4 x5 x6 X h=>by
   have h1:=HA.out.lt;have h2:=HA.out.ltc
   exact KB.out X (by rw[←h,blk_fill7 _ _ _ _ _ _ _ _ _ BT (by omega),Deep.blk_setCell_other _ ⟨w.heap.size,0,none⟩ _ BT (by dsimp only;omega)];exact hD.block BT HA.out.bt.lt) (by rw[←h,blk_fill7 _ _ _ _ _ _ _ _ _ BC (by omega),Deep.blk_setCell_other _ ⟨w.heap.size,0,none⟩ _ BC (by dsimp only;omega)];exact hD.block BC HA.out.bc.lt)
  have r0:D.cell? ⟨w.heap.size,0,none⟩=some (.slice none 0 0):=HAD.out.resT.cell 0 (by simp)
  have rf:=HAD.out.resT.frozen 0
  have rl:=HAD.out.resT.lt
  have z0:D.cell? ⟨w.heap.size+1,0,none⟩=some (.int .i64 0):=HAD.out.resC.cell 0 (by simp[cgZ])
  have z1:D.cell? ⟨w.heap.size+1,1,none⟩=some (.int .i64 0):=HAD.out.resC.cell 1 (by simp[cgZ])
  have z2:D.cell? ⟨w.heap.size+1,2,none⟩=some (.string ⟨#[]⟩):=HAD.out.resC.cell 2 (by simp[cgZ])
  have z3:D.cell? ⟨w.heap.size+1,3,none⟩=some (.string ⟨#[]⟩):=HAD.out.resC.cell 3 (by simp[cgZ])
  have z4:D.cell? ⟨w.heap.size+1,4,none⟩=some (.int .i64 0):=HAD.out.resC.cell 4 (by simp[cgZ])
  have z5:D.cell? ⟨w.heap.size+1,5,none⟩=some (.slice none 0 0):=HAD.out.resC.cell 5 (by simp[cgZ])
  have z6:D.cell? ⟨w.heap.size+1,6,none⟩=some (.int .i64 0):=HAD.out.resC.cell 6 (by simp[cgZ])
  have y0:=HAD.out.resC.frozen 0
  have y1:=HAD.out.resC.frozen 1
  have y2:=HAD.out.resC.frozen 2
  have y3:=HAD.out.resC.frozen 3
  have y4:=HAD.out.resC.frozen 4
  have y5:=HAD.out.resC.frozen 5
  have y6:=HAD.out.resC.frozen 6
  have zl:=HAD.out.resC.lt
  have HFIN:Hid (SesssAt w.heap.size ((((((((D.setCell ⟨w.heap.size,0,none⟩ (.slice a9 n9 c9)).setCell ⟨w.heap.size+1,0,none⟩ (.int .i64 kind)).setCell ⟨w.heap.size+1,1,none⟩ (.int .i64 client)).setCell ⟨w.heap.size+1,2,none⟩ (.string tag)).setCell ⟨w.heap.size+1,3,none⟩ (.string query)).setCell ⟨w.heap.size+1,4,none⟩ (.int .i64 page)).setCell ⟨w.heap.size+1,5,none⟩ (.slice au m cu)).setCell ⟨w.heap.size+1,6,none⟩ (.int .i64 n0)) (.slice a9 n9 c9) (apT cs)∧StrsAt w.heap.size ((((((((D.setCell ⟨w.heap.size,0,none⟩ (.slice a9 n9 c9)).setCell ⟨w.heap.size+1,0,none⟩ (.int .i64 kind)).setCell ⟨w.heap.size+1,1,none⟩ (.int .i64 client)).setCell ⟨w.heap.size+1,2,none⟩ (.string tag)).setCell ⟨w.heap.size+1,3,none⟩ (.string query)).setCell ⟨w.heap.size+1,4,none⟩ (.int .i64 page)).setCell ⟨w.heap.size+1,5,none⟩ (.slice au m cu)).setCell ⟨w.heap.size+1,6,none⟩ (.int .i64 n0)) (.slice au m cu) (apC cs).rows∧Below w.heap.size w ((((((((D.setCell ⟨w.heap.size,0,none⟩ (.slice a9 n9 c9)).setCell ⟨w.heap.size+1,0,none⟩ (.int .i64 kind)).setCell ⟨w.heap.size+1,1,none⟩ (.int .i64 client)).setCell ⟨w.heap.size+1,2,none⟩ (.string tag)).setCell ⟨w.heap.size+1,3,none⟩ (.string query)).setCell ⟨w.heap.size+1,4,none⟩ (.int .i64 page)).setCell ⟨w.heap.size+1,5,none⟩ (.slice au m cu)).setCell ⟨w.heap.size+1,6,none⟩ (.int .i64 n0))):=by
   have hA:Apart w.heap.size BT BC D ((((((((D.setCell ⟨w.heap.size,0,none⟩ (.slice a9 n9 c9)).setCell ⟨w.heap.size+1,0,none⟩ (.int .i64 kind)).setCell ⟨w.heap.size+1,1,none⟩ (.int .i64 client)).setCell ⟨w.heap.size+1,2,none⟩ (.string tag)).setCell ⟨w.heap.size+1,3,none⟩ (.string query)).setCell ⟨w.heap.size+1,4,none⟩ (.int .i64 page)).setCell ⟨w.heap.size+1,5,none⟩ (.slice au m cu)).setCell ⟨w.heap.size+1,6,none⟩ (.int .i64 n0)):=(Apart.set (b:=w.heap.size) (o:=0) (.inr (.inr (by omega))) _).trans (Apart.of (b:=w.heap.size+1) (.inr (.inr (by omega))) (by simp only[Deep.nblk_setCell];exact leR _) fun d hd=>blk_fill7 _ _ _ _ _ _ _ _ _ d hd)
   rw[HTT.out,HCC.out]
   exact⟨At.mono mono_sess (HAD.out.st _ hA) (by omega),At.mono mono_str (HAD.out.sr _ hA) (by omega),Below.fill7 (HAD.out.bel.setCell (p:=⟨w.heap.size,0,none⟩) (leR _) _) (by omega) _ _ _ _ _ _ _⟩
  refine wp_region_two (fun X:World=>X.cell? ⟨BT,0,none⟩=some (.slice a9 n9 c9)∧X.cell? ⟨BC,0,none⟩=some (.int .i64 kind)∧X.cell? ⟨BC,1,none⟩=some (.int .i64 client)∧X.cell? ⟨BC,2,none⟩=some (.string tag)∧X.cell? ⟨BC,3,none⟩=some (.string query)∧X.cell? ⟨BC,4,none⟩=some (.int .i64 page)∧X.cell? ⟨BC,5,none⟩=some (.slice au m cu)∧X.cell? ⟨BC,6,none⟩=some (.int .i64 n0)) 3 (by kernel_rfl) ?_
  rw[hwd]
  have hSd:=K1.out D hD
  refine wpTwo_take (i:=0) (some 82) (v:=?v0_17) rfl rfl (by kernel_rfl) (by kernel_rfl) (by kernel_rfl) (by kernel_rfl) (fun _ _ _ h=>h) hSd (Or.inl ⟨by rfl,?hy0_17⟩) ?rest0_17
  case hy0_17=>(intro w hSw;(try dsimp only at hSw);go_simp;try with_reducible rfl)
  try simp only[Act.put,List.setIfInBounds_toArray,List.set_cons_zero,List.set_cons_succ]
  refine wpTwo_take (i:=1) (some 83) (v:=?v1_17) rfl rfl (by kernel_rfl) (by kernel_rfl) (by kernel_rfl) (by kernel_rfl) (fun _ _ _ h=>h) hSd (Or.inl ⟨by rfl,?hy1_17⟩) ?rest1_17
  case hy1_17=>(intro w hSw;(try dsimp only at hSw);go_simp;try with_reducible rfl)
  try simp only[Act.put,List.setIfInBounds_toArray,List.set_cons_zero,List.set_cons_succ]
  refine wpTwo_one (j:=2) (by kernel_rfl) rfl (fun K hK=>?_)
  go_simp
  refine hK.out _ _ (fun _=>K2.out _ _ rfl) ?_
  clear hK K
  try simp only[Act.put,List.setIfInBounds_toArray,List.set_cons_zero,List.set_cons_succ]
  refine wpTwo_one (j:=3) (by kernel_rfl) rfl (fun K hK=>?_)
  go_simp
  refine hK.out _ _ (fun h=>absurd h (by decide)) ?_
  clear hK K
  refine wpTwo_done (by kernel_rfl) ?_ _
  clear hSd
  go_wp2_with fail
  exact bodyPost_ret (v:=.tuple #[.agg #[.slice a9 n9 c9],chgV ⟨kind,client,tag,query,page,rows,n0⟩ (.slice au m cu)]) (by simp[results,Tryz.results4,go_sem,chgV,r0,rl,z0,z1,z2,z3,z4,z5,z6,zl]) rfl ⟨_,_,by rw[HCC.out],HFIN.out.1,HFIN.out.2.1,HFIN.out.2.2⟩
 by_cases hE:how=22
 ·have g20:(20:Int)≤(how:Int):=by omega
  have g22:¬(how:Int)<22:=by omega
  have q20:((how:Int) == 20)=false:=by simp;omega
  have q22:((how:Int) == 22)=true:=by simp;omega
  have q23:((how:Int) == 23)=false:=by simp;omega
  have HT1E:Hid (apT1 cs=drTable cs):=by show _=_;unfold apT1;rw[if_neg (by rw[HHO.out];omega)]
  obtain⟨xs9,hxs9⟩:∃q,spoilT (tk cs z 9) (tk cs (z+1) (apT1 cs).length) (apT1 cs)=q:=⟨_,rfl⟩
  have HSPL2:=HSPL
  rw[hxs9] at HSPL2
  have HTT0:Hid (apT cs=xs9):=by
   show _=_
   unfold apT
   rw[if_neg (by rw[HHO.out];omega)]
   unfold apT2
   rw[if_pos (by rw[HHO.out];exact hE),HZZ.out,hxs9]
  clear hxs9
  have HCC0:Hid (apC cs=drCh cs 2 (apT1 cs)):=by
   show _=_
   unfold apC
   rw[if_neg (by rw[HHO.out];omega)]
   unfold apC1
   rw[if_neg (by rw[HHO.out];omega)]
  obtain⟨c,hc⟩:∃c,drCh cs 2 (apT1 cs)=c:=⟨_,rfl⟩
  have HCW1:=hide (HCH.out V2 HB2.out (.slice at1 n1 ct1) _ (by rw[HT1E.out];exact At.kept kept_sess HST1.out HB12.out))
  rw[hc] at HCW1 HCC0
  obtain⟨kind,client,tag,query,page,rows,n0⟩:=c
  unfold chgV at HCW1
  dsimp only at HCW1
  have t0:V2.cell? ⟨V1.heap.size,0,none⟩=some (.slice at1 n1 ct1):=HBT.out.cell 0 (by simp)
  clear hc hE
  go_wp2_with fail
  refine HCW1.out.mono ?_
  rintro e V5 ⟨u,rfl,hu,hb5⟩
  obtain⟨au,cu,eu,_⟩:=At.form hu
  obtain⟨m,hm⟩:∃q,rows.length=q:=⟨_,rfl⟩
  rw[hm] at eu
  subst eu
  obtain⟨Y,hY⟩:∃q,V5.alloc (Obj.cells #[.int .i64 kind,.int .i64 client,.string tag,.string query,.int .i64 page,.slice au m cu,.int .i64 n0] 28)=q:=⟨_,rfl⟩
  have hbY:Below V5.heap.size V5 Y:=by rw[←hY];exact alcB _ _
  have hb25:=hb5.size
  have hsz:=HSZ.out
  have HA:Hid (AP w V1.heap.size V5.heap.size (.slice at1 n1 ct1) (drTable cs) ⟨kind,client,tag,query,page,rows,n0⟩ (.slice au m cu) Y) :=
   ⟨HRT2.out.below (bjoin hbY hb5),HRC2.out.below (bjoin hbY hb5),HBT.out.below (bjoin hbY hb5),by rw[←hY];exact Box.new _ _ _,TS.old HST1.out (by have:=HSX.out;omega) (leR _) (by omega) (bjoin (bjoin hbY hb5) HB12.out),RS.old hu (by omega) (leR _) (by omega) hbY,bjoin (bjoin hbY hb5) HB2.out,by omega,by omega⟩
  have HTT:=HTT0
  have HCC:=HCC0
  have HY:=hide hY
  have h0:=HA.out.bt.cell 0 (by simp)
  clear hu hb5 hbY hb25 hsz hm hY t0
  go_wp2_with (rw[HY.out])
  (try rw[HY.out])
  obtain⟨BT,hBT⟩:∃q,V1.heap.size=q:=⟨_,rfl⟩
  obtain⟨BC,hBC⟩:∃q,V5.heap.size=q:=⟨_,rfl⟩
  rw[hBT] at HA
  rw[hBC] at HA
  (try rw[hBT])
  (try rw[hBC])
  clear hBT hBC h0
  refine(HSPL2.out Y HA.out.bel (.slice at1 n1 ct1) _ (by rw[HT1E.out];exact HA.out.st Y (Apart.refl _ _ _ _))).mono ?_
  rintro e Y2 ⟨t2,rfl,hst2,hb2⟩
  obtain⟨a9,c9,et2,_⟩:=At.form hst2
  obtain⟨n9,hn9⟩:∃q,xs9.length=q:=⟨_,rfl⟩
  rw[hn9] at et2
  subst et2
  have hA2:=HA.out.below hb2
  have h3:=hA2.setT hst2 HA.out.bc.lt
  have s0:Y2.cell? ⟨BT,0,none⟩=some (.slice at1 n1 ct1):=hA2.bt.cell 0 (by simp)
  have sf:=hA2.bt.frozen 0
  have sl:=hA2.bt.lt
  obtain⟨Y3,hY3⟩:∃q,Y2.setCell ⟨BT,0,none⟩ (.slice a9 n9 c9)=q:=⟨_,rfl⟩
  rw[hY3] at h3
  have HA3:=hide h3
  have HY3:=hide hY3
  clear hst2 hb2 hn9 hA2 h3 hY3
  go_upto_region 17 with(rw[HY3.out])
  (try rw[HY3.out])
  clear s0 sf sl HA HY
  obtain⟨Y,hYY⟩:∃q,Y3=q:=⟨_,rfl⟩
  rw[hYY] at HA3
  rw[hYY]
  have HA:=HA3
  clear hYY
  have HDA:=hide HA.out
  obtain⟨D,hwd⟩:∃D,Y.drew=D:=⟨_,rfl⟩
  have hD0:Below Y.heap.size Y Y.drew:=(Below.refl _ _).drew
  have hD:Below Y.heap.size Y D:=by rw[←hwd];exact hD0
  have HAD:=hide (HA.out.below hD)
  have KB:Hid (∀X:World,X.heap[BT]?=Y.heap[BT]?→X.heap[BC]?=Y.heap[BC]?→X.cell? ⟨BT,0,none⟩=some (.slice a9 n9 c9)∧X.cell? ⟨BC,0,none⟩=some (.int .i64 kind)∧X.cell? ⟨BC,1,none⟩=some (.int .i64 client)∧X.cell? ⟨BC,2,none⟩=some (.string tag)∧X.cell? ⟨BC,3,none⟩=some (.string query)∧X.cell? ⟨BC,4,none⟩=some (.int .i64 page)∧X.cell? ⟨BC,5,none⟩=some (.slice au m cu)∧X.cell? ⟨BC,6,none⟩=some (.int .i64 n0)):=fun X h1 h2 =>
   ⟨(HA.out.bt.keep h1).cell 0 (by simp),(HA.out.bc.keep h2).cell 0 (by simp[cgC]),(HA.out.bc.keep h2).cell 1 (by simp[cgC]),(HA.out.bc.keep h2).cell 2 (by simp[cgC]),(HA.out.bc.keep h2).cell 3 (by simp[cgC]),(HA.out.bc.keep h2).cell 4 (by simp[cgC]),(HA.out.bc.keep h2).cell 5 (by simp[cgC]),(HA.out.bc.keep h2).cell 6 (by simp[cgC])⟩
  have K1:Hid (∀X,Below Y.heap.size Y X→X.cell? ⟨BT,0,none⟩=some (.slice a9 n9 c9)∧X.cell? ⟨BC,0,none⟩=some (.int .i64 kind)∧X.cell? ⟨BC,1,none⟩=some (.int .i64 client)∧X.cell? ⟨BC,2,none⟩=some (.string tag)∧X.cell? ⟨BC,3,none⟩=some (.string query)∧X.cell? ⟨BC,4,none⟩=some (.int .i64 page)∧X.cell? ⟨BC,5,none⟩=some (.slice au m cu)∧X.cell? ⟨BC,6,none⟩=some (.int .i64 n0)):=fun X h=>KB.out X (h.block BT HA.out.bt.lt) (h.block BC HA.out.bc.lt)
  have K2:Hid (∀x0 X,D.setCell ⟨w.heap.size,0,none⟩ x0=X→X.cell? ⟨BT,0,none⟩=some (.slice a9 n9 c9)∧X.cell? ⟨BC,0,none⟩=some (.int .i64 kind)∧X.cell? ⟨BC,1,none⟩=some (.int .i64 client)∧X.cell? ⟨BC,2,none⟩=some (.string tag)∧X.cell? ⟨BC,3,none⟩=some (.string query)∧X.cell? ⟨BC,4,none⟩=some (.int .i64 page)∧X.cell? ⟨BC,5,none⟩=some (.slice au m cu)∧X.cell? ⟨BC,6,none⟩=some (.int .i64 n0)):=fun x0 X h=>by
   have h1:=HA.out.lt;have h2:=HA.out.ltc
   exact KB.out X (by rw[←h,Deep.blk_setCell_other _ ⟨w.heap.size,0,none⟩ _ BT (by dsimp only;omega)];exact hD.block BT HA.out.bt.lt) (by rw[←h,Deep.blk_setCell_other _ ⟨w.heap.size,0,none⟩ _ BC (by dsimp only;omega)];exact hD.block BC HA.out.bc.lt)
  have K3:Hid (∀x9 x0 x1 x2 x3 x4 x5 x6 X,(((((((D.setCell ⟨w.heap.size,0,none⟩ x9).setCell ⟨w.heap.size+1,0,none⟩ x0).setCell ⟨w.heap.size+1,1,none⟩ x1).setCell ⟨w.heap.size+1,2,none⟩ x2).setCell ⟨w.heap.size+1,3,none⟩ x3).setCell ⟨w.heap.size+1,4,none⟩ x4).setCell ⟨w.heap.size+1,5,none⟩ x5).setCell ⟨w.heap.size+1,6,none⟩ x6=X→X.cell? ⟨BT,0,none⟩=some (.slice a9 n9 c9)∧X.cell? ⟨BC,0,none⟩=some (.int .i64 kind)∧X.cell? ⟨BC,1,none⟩=some (.int .i64 client)∧X.cell? ⟨BC,2,none⟩=some (.string tag)∧X.cell? ⟨BC,3,none⟩=some (.string query)∧X.cell? ⟨BC,4,none⟩=some (.int .i64 page)∧X.cell? ⟨BC,5,none⟩=some (.slice au m cu)∧X.cell? ⟨BC,6,none⟩=some (.int .i64 n0)):=fun x9 x0 x1 x2 x3 x4 x5 x6 X h=>by
   have h1:=HA.out.lt;have h2:=HA.out.ltc
   exact KB.out X (by rw[←h,blk_fill7 _ _ _ _ _ _ _ _ _ BT (by omega),Deep.blk_setCell_other _ ⟨w.heap.size,0,none⟩ _ BT (by dsimp only;omega)];exact hD.block BT HA.out.bt.lt) (by rw[←h,blk_fill7 _ _ _ _ _ _ _ _ _ BC (by omega),Deep.blk_setCell_other _ ⟨w.heap.size,0,none⟩ _ BC (by dsimp only;omega)];exact hD.block BC HA.out.bc.lt)
  have r0:D.cell? ⟨w.heap.size,0,none⟩=some (.slice none 0 0):=HAD.out.resT.cell 0 (by simp)
  have rf:=HAD.out.resT.frozen 0
  have rl:=HAD.out.resT.lt
  have z0:D.cell? ⟨w.heap.size+1,0,none⟩=some (.int .i64 0):=HAD.out.resC.cell 0 (by simp[cgZ])
  have z1:D.cell? ⟨w.heap.size+1,1,none⟩=some (.int .i64 0):=HAD.out.resC.cell 1 (by simp[cgZ])
  have z2:D.cell? ⟨w.heap.size+1,2,none⟩=some (.string ⟨#[]⟩):=HAD.out.resC.cell 2 (by simp[cgZ])
  have z3:D.cell? ⟨w.heap.size+1,3,none⟩=some (.string ⟨#[]⟩):=HAD.out.resC.cell 3 (by simp[cgZ])
  have z4:D.cell? ⟨w.heap.size+1,4,none⟩=some (.int .i64 0):=HAD.out.resC.cell 4 (by simp[cgZ])
  have z5:D.cell? ⟨w.heap.size+1,5,none⟩=some (.slice none 0 0):=HAD.out.resC.cell 5 (by simp[cgZ])
  have z6:D.cell? ⟨w.heap.size+1,6,none⟩=some (.int .i64 0):=HAD.out.resC.cell 6 (by simp[cgZ])
  have y0:=HAD.out.resC.frozen 0
  have y1:=HAD.out.resC.frozen 1
  have y2:=HAD.out.resC.frozen 2
  have y3:=HAD.out.resC.frozen 3
  have y4:=HAD.out.resC.frozen 4
  have y5:=HAD.out.resC.frozen 5
  have y6:=HAD.out.resC.frozen 6
  have zl:=HAD.out.resC.lt
  have HFIN:Hid (SesssAt w.heap.size ((((((((D.setCell ⟨w.heap.size,0,none⟩ (.slice a9 n9 c9)).setCell ⟨w.heap.size+1,0,none⟩ (.int .i64 kind)).setCell ⟨w.heap.size+1,1,none⟩ (.int .i64 client)).setCell ⟨w.heap.size+1,2,none⟩ (.string tag)).setCell ⟨w.heap.size+1,3,none⟩ (.string query)).setCell ⟨w.heap.size+1,4,none⟩ (.int .i64 page)).setCell ⟨w.heap.size+1,5,none⟩ (.slice au m cu)).setCell ⟨w.heap.size+1,6,none⟩ (.int .i64 n0)) (.slice a9 n9 c9) (apT cs)∧StrsAt w.heap.size ((((((((D.setCell ⟨w.heap.size,0,none⟩ (.slice a9 n9 c9)).setCell ⟨w.heap.size+1,0,none⟩ (.int .i64 kind)).setCell ⟨w.heap.size+1,1,none⟩ (.int .i64 client)).setCell ⟨w.heap.size+1,2,none⟩ (.string tag)).setCell ⟨w.heap.size+1,3,none⟩ (.string query)).setCell ⟨w.heap.size+1,4,none⟩ (.int .i64 page)).setCell ⟨w.heap.size+1,5,none⟩ (.slice au m cu)).setCell ⟨w.heap.size+1,6,none⟩ (.int .i64 n0)) (.slice au m cu) (apC cs).rows∧Below w.heap.size w ((((((((D.setCell ⟨w.heap.size,0,none⟩ (.slice a9 n9 c9)).setCell ⟨w.heap.size+1,0,none⟩ (.int .i64 kind)).setCell ⟨w.heap.size+1,1,none⟩ (.int .i64 client)).setCell ⟨w.heap.size+1,2,none⟩ (.string tag)).setCell ⟨w.heap.size+1,3,none⟩ (.string query)).setCell ⟨w.heap.size+1,4,none⟩ (.int .i64 page)).setCell ⟨w.heap.size+1,5,none⟩ (.slice au m cu)).setCell ⟨w.heap.size+1,6,none⟩ (.int .i64 n0))):=by
   have hA:Apart w.heap.size BT BC D ((((((((D.setCell ⟨w.heap.size,0,none⟩ (.slice a9 n9 c9)).setCell ⟨w.heap.size+1,0,none⟩ (.int .i64 kind)).setCell ⟨w.heap.size+1,1,none⟩ (.int .i64 client)).setCell ⟨w.heap.size+1,2,none⟩ (.string tag)).setCell ⟨w.heap.size+1,3,none⟩ (.string query)).setCell ⟨w.heap.size+1,4,none⟩ (.int .i64 page)).setCell ⟨w.heap.size+1,5,none⟩ (.slice au m cu)).setCell ⟨w.heap.size+1,6,none⟩ (.int .i64 n0)):=(Apart.set (b:=w.heap.size) (o:=0) (.inr (.inr (by omega))) _).trans (Apart.of (b:=w.heap.size+1) (.inr (.inr (by omega))) (by simp only[Deep.nblk_setCell];exact leR _) fun d hd=>blk_fill7 _ _ _ _ _ _ _ _ _ d hd)
   rw[HTT.out,HCC.out]
   exact⟨At.mono mono_sess (HAD.out.st _ hA) (by omega),At.mono mono_str (HAD.out.sr _ hA) (by omega),Below.fill7 (HAD.out.bel.setCell (p:=⟨w.heap.size,0,none⟩) (leR _) _) (by omega) _ _ _ _ _ _ _⟩
  refine wp_region_two (fun X:World=>X.cell? ⟨BT,0,none⟩=some (.slice a9 n9 c9)∧X.cell? ⟨BC,0,none⟩=some (.int .i64 kind)∧X.cell? ⟨BC,1,none⟩=some (.int .i64 client)∧X.cell? ⟨BC,2,none⟩=some (.string tag)∧X.cell? ⟨BC,3,none⟩=some (.string query)∧X.cell? ⟨BC,4,none⟩=some (.int .i64 page)∧X.cell? ⟨BC,5,none⟩=some (.slice au m cu)∧X.cell? ⟨BC,6,none⟩=some (.int .i64 n0)) 3 (by kernel_rfl) ?_
  rw[hwd]
  have hSd:=K1.out D hD
  refine wpTwo_take (i:=0) (some 82) (v:=?v0_17c) rfl rfl (by kernel_rfl) (by kernel_rfl) (by kernel_rfl) (by kernel_rfl) (fun _ _ _ h=>h) hSd (Or.inl ⟨by rfl,?hy0_17c⟩) ?rest0_17c
  case hy0_17c=>(intro w hSw;(try dsimp only at hSw);go_simp;try with_reducible rfl)
  try simp only[Act.put,List.setIfInBounds_toArray,List.set_cons_zero,List.set_cons_succ]
  refine wpTwo_take (i:=1) (some 83) (v:=?v1_17c) rfl rfl (by kernel_rfl) (by kernel_rfl) (by kernel_rfl) (by kernel_rfl) (fun _ _ _ h=>h) hSd (Or.inl ⟨by rfl,?hy1_17c⟩) ?rest1_17c
  case hy1_17c=>(intro w hSw;(try dsimp only at hSw);go_simp;try with_reducible rfl)
  try simp only[Act.put,List.setIfInBounds_toArray,List.set_cons_zero,List.set_cons_succ]
  refine wpTwo_one (j:=2) (by kernel_rfl) rfl (fun K hK=>?_)
  go_simp
  refine hK.out _ _ (fun _=>K2.out _ _ rfl) ?_
  clear hK K
  try simp only[Act.put,List.setIfInBounds_toArray,List.set_cons_zero,List.set_cons_succ]
  refine wpTwo_one (j:=3) (by kernel_rfl) rfl (fun K hK=>?_)
  go_simp
  refine hK.out _ _ (fun h=>absurd h (by decide)) ?_
  clear hK K
  refine wpTwo_done (by kernel_rfl) ?_ _
  clear hSd
  go_wp2_with fail
  exact bodyPost_ret (v:=.tuple #[.agg #[.slice a9 n9 c9],chgV ⟨kind,client,tag,query,page,rows,n0⟩ (.slice au m cu)]) (by simp[results,Tryz.results4,go_sem,chgV,r0,rl,z0,z1,z2,z3,z4,z5,z6,zl]) rfl ⟨_,_,by rw[HCC.out],HFIN.out.1,HFIN.out.2.1,HFIN.out.2.2⟩
 by_cases hE:how=21
 ·have g20:(20:Int)≤(how:Int):=by omega
  have g22:(how:Int)<22:=by omega
  have q20:((how:Int) == 20)=false:=by simp;omega
  have q22:((how:Int) == 22)=false:=by simp;omega
  have q23:((how:Int) == 23)=false:=by simp;omega
  have HT1E:Hid (apT1 cs=fullT x):=by show _=_;unfold apT1;rw[if_pos (by rw[HHO.out];omega),HXX.out]
  have HTT:Hid (apT cs=fullT x):=by
   show _=_
   unfold apT
   rw[if_neg (by rw[HHO.out];omega)]
   unfold apT2
   rw[if_neg (by rw[HHO.out];omega),HT1E.out]
  have HFU:=hide (fullTb_any x (by omega) V2)
  have t0:V2.cell? ⟨V1.heap.size,0,none⟩=some (.slice at1 n1 ct1):=HBT.out.cell 0 (by simp)
  go_wp2_with fail
  refine HFU.out.mono ?_
  rintro e W1 ⟨t2,rfl,hst2,hbw1⟩
  obtain⟨a9,c9,et2,_⟩:=At.form hst2
  rw[fullT_len] at et2
  subst et2
  have hbt1:=HBT.out.below hbw1
  have s0:W1.cell? ⟨V1.heap.size,0,none⟩=some (.slice at1 n1 ct1):=hbt1.cell 0 (by simp)
  have sf:=hbt1.frozen 0
  have sl:=hbt1.lt
  have hsz:=HSZ.out
  obtain⟨W,hW⟩:∃q,W1.setCell ⟨V1.heap.size,0,none⟩ (.slice a9 16 c9)=q:=⟨_,rfl⟩
  have hWo:∀d,d≠V1.heap.size→W.heap[d]?=W1.heap[d]?:=fun d hd=>by rw[←hW];exact Deep.blk_setCell_other _ ⟨V1.heap.size,0,none⟩ _ d (by dsimp only;exact hd)
  have hWs:W.heap.size=W1.heap.size:=by rw[←hW];exact Deep.nblk_setCell _ _ _
  have hstW:SesssAt V2.heap.size W (.slice a9 16 c9) (fullT x):=At.same kept_sess hst2 ⟨by rw[hWs];exact leR _,fun d h1 _=>hWo d (by omega)⟩
  have hbtW:Box W V1.heap.size 25 #[.slice a9 16 c9]:=by rw[←hW];have:=hbt1.set 0 (.slice a9 16 c9);simpa using this
  have hrtW:Box W w.heap.size 25 #[.slice none 0 0]:=(HRT2.out.below hbw1).keep (hWo _ (by omega))
  have hrcW:Box W (w.heap.size+1) 28 cgZ:=(HRC2.out.below hbw1).keep (hWo _ (by omega))
  have hbW:Below w.heap.size w W:=by rw[←hW];exact(bjoin hbw1 HB2.out).setCell (p:=⟨V1.heap.size,0,none⟩) (by show w.heap.size≤V1.heap.size;omega) _
  obtain⟨c,hc⟩:∃c,drCh cs 2 (apT1 cs)=c:=⟨_,rfl⟩
  have HCW1:=hide (HCH.out W hbW (.slice a9 16 c9) _ (by rw[HT1E.out];exact hstW))
  rw[hc] at HCW1
  have HCE:=hide hc
  obtain⟨kind,client,tag,query,page,rows,n0⟩:=c
  unfold chgV at HCW1
  dsimp only at HCW1
  have HGW:=hide (And.intro hstW (And.intro hbtW (And.intro hrtW (And.intro hrcW (And.intro hbW hWs)))))
  have HW2S:Hid (V2.heap.size≤W1.heap.size):=hbw1.size
  have tw:W.cell? ⟨V1.heap.size,0,none⟩=some (.slice a9 16 c9):=hbtW.cell 0 (by simp)
  have HW:=hide hW
  clear hc hst2 hbw1 hbt1 hsz hWo hWs hstW hbtW hrtW hrcW hbW hW t0
  go_wp2_with (rw[HW.out])
  (try rw[HW.out])
  refine HCW1.out.mono ?_
  rintro e V5 ⟨u,rfl,hu,hb5⟩
  obtain⟨au,cu,eu,_⟩:=At.form hu
  obtain⟨m,hm⟩:∃q,rows.length=q:=⟨_,rfl⟩
  rw[hm] at eu
  subst eu
  obtain⟨Y,hY⟩:∃q,V5.alloc (Obj.cells #[.int .i64 kind,.int .i64 client,.string tag,.string query,.int .i64 page,.slice au m cu,.int .i64 n0] 28)=q:=⟨_,rfl⟩
  have hbY:Below V5.heap.size V5 Y:=by rw[←hY];exact alcB _ _
  have HA:Hid (AP w V1.heap.size V5.heap.size (.slice a9 16 c9) (fullT x) ⟨kind,client,tag,query,page,rows,n0⟩ (.slice au m cu) Y):=by
   obtain⟨h1,h2,h3,h4,h5,h6⟩:=HGW.out
   have hsz:=HSZ.out
   have h7:=HW2S.out
   have h8:=hb5.size
   have hbb:=bjoin hbY hb5
   exact⟨h3.below hbb,h4.below hbb,h2.below hbb,by rw[←hY];exact Box.new _ _ _,TS.mid h1 (by omega) (by omega) (by omega) (fun d hd _=>hbb.block d hd) hbb.size,RS.old hu (by omega) (leR _) (by omega) hbY,bjoin hbb h5,by omega,by omega⟩
  have HY:=hide hY
  clear hu hb5 hbY hm hY tw s0 sf sl
  have HCC:Hid (apC cs=⟨kind,client,tag,query,page,rows,n0⟩):=by
   show _=_
   unfold apC
   rw[if_neg (by rw[HHO.out];omega)]
   unfold apC1
   rw[if_neg (by rw[HHO.out];omega)]
   exact HCE.out
  clear hE
  go_upto_region 17 with(rw[HY.out])
  (try rw[HY.out])
  obtain⟨BT,hBT⟩:∃q,V1.heap.size=q:=⟨_,rfl⟩
  obtain⟨BC,hBC⟩:∃q,V5.heap.size=q:=⟨_,rfl⟩
  rw[hBT] at HA
  rw[hBC] at HA
  (try rw[hBT])
  (try rw[hBC])
  clear hBT hBC
  have HDA:=hide HA.out
  obtain⟨D,hwd⟩:∃D,Y.drew=D:=⟨_,rfl⟩
  have hD0:Below Y.heap.size Y Y.drew:=(Below.refl _ _).drew
  have hD:Below Y.heap.size Y D:=by rw[←hwd];exact hD0
  have HAD:=hide (HA.out.below hD)
  have KB:Hid (∀X:World,X.heap[BT]?=Y.heap[BT]?→X.heap[BC]?=Y.heap[BC]?→X.cell? ⟨BT,0,none⟩=some (.slice a9 16 c9)∧X.cell? ⟨BC,0,none⟩=some (.int .i64 kind)∧X.cell? ⟨BC,1,none⟩=some (.int .i64 client)∧X.cell? ⟨BC,2,none⟩=some (.string tag)∧X.cell? ⟨BC,3,none⟩=some (.string query)∧X.cell? ⟨BC,4,none⟩=some (.int .i64 page)∧X.cell? ⟨BC,5,none⟩=some (.slice au m cu)∧X.cell? ⟨BC,6,none⟩=some (.int .i64 n0)):=fun X h1 h2 =>
   ⟨(HA.out.bt.keep h1).cell 0 (by simp),(HA.out.bc.keep h2).cell 0 (by simp[cgC]),(HA.out.bc.keep h2).cell 1 (by simp[cgC]),(HA.out.bc.keep h2).cell 2 (by simp[cgC]),(HA.out.bc.keep h2).cell 3 (by simp[cgC]),(HA.out.bc.keep h2).cell 4 (by simp[cgC]),(HA.out.bc.keep h2).cell 5 (by simp[cgC]),(HA.out.bc.keep h2).cell 6 (by simp[cgC])⟩
  have K1:Hid (∀X,Below Y.heap.size Y X→X.cell? ⟨BT,0,none⟩=some (.slice a9 16 c9)∧X.cell? ⟨BC,0,none⟩=some (.int .i64 kind)∧X.cell? ⟨BC,1,none⟩=some (.int .i64 client)∧X.cell? ⟨BC,2,none⟩=some (.string tag)∧X.cell? ⟨BC,3,none⟩=some (.string query)∧X.cell? ⟨BC,4,none⟩=some (.int .i64 page)∧X.cell? ⟨BC,5,none⟩=some (.slice au m cu)∧X.cell? ⟨BC,6,none⟩=some (.int .i64 n0)):=fun X h=>KB.out X (h.block BT HA.out.bt.lt) (h.block BC HA.out.bc.lt)
  have K2:Hid (∀x0 X,D.setCell ⟨w.heap.size,0,none⟩ x0=X→X.cell? ⟨BT,0,none⟩=some (.slice a9 16 c9)∧X.cell? ⟨BC,0,none⟩=some (.int .i64 kind)∧X.cell? ⟨BC,1,none⟩=some (.int .i64 client)∧X.cell? ⟨BC,2,none⟩=some (.string tag)∧X.cell? ⟨BC,3,none⟩=some (.string query)∧X.cell? ⟨BC,4,none⟩=some (.int .i64 page)∧X.cell? ⟨BC,5,none⟩=some (.slice au m cu)∧X.cell? ⟨BC,6,none⟩=some (.int .i64 n0)):=fun x0 X h=>by
   have h1:=HA.out.lt;have h2:=HA.out.ltc
   exact KB.out X (by rw[←h,Deep.blk_setCell_other _ ⟨w.heap.size,0,none⟩ _ BT (by dsimp only;omega)];exact hD.block BT HA.out.bt.lt) (by rw[←h,Deep.blk_setCell_other _ ⟨w.heap.size,0,none⟩ _ BC (by dsimp only;omega)];exact hD.block BC HA.out.bc.lt)
  have K3:Hid (∀x9 x0 x1 x2 x3 x4 x5 x6 X,(((((((D.setCell ⟨w.heap.size,0,none⟩ x9).setCell ⟨w.heap.size+1,0,none⟩ x0).setCell ⟨w.heap.size+1,1,none⟩ x1).setCell ⟨w.heap.size+1,2,none⟩ x2).setCell ⟨w.heap.size+1,3,none⟩ x3).setCell ⟨w.heap.size+1,4,none⟩ x4).setCell ⟨w.heap.size+1,5,none⟩ x5).setCell ⟨w.heap.size+1,6,none⟩ x6=X→X.cell? ⟨BT,0,none⟩=some (.slice a9 16 c9)∧X.cell? ⟨BC,0,none⟩=some (.int .i64 kind)∧X.cell? ⟨BC,1,none⟩=some (.int .i64 client)∧X.cell? ⟨BC,2,none⟩=some (.string tag)∧X.cell? ⟨BC,3,none⟩=some (.string query)∧X.cell? ⟨BC,4,none⟩=some (.int .i64 page)∧X.cell? ⟨BC,5,none⟩=some (.slice au m cu)∧X.cell? ⟨BC,6,none⟩=some (.int .i64 n0)):=fun x9 x0 x1 x2 x3 x4 x5 x6 X h=>by
   have h1:=HA.out.lt;have h2:=HA.out.ltc
   exact KB.out X (by rw[←h,blk_fill7 _ _ _ _ _ _ _ _ _ BT (by omega),Deep.blk_setCell_other _ ⟨w.heap.size,0,none⟩ _ BT (by dsimp only;omega)];exact hD.block BT HA.out.bt.lt) (by rw[←h,blk_fill7 _ _ _ _ _ _ _ _ _ BC (by omega),Deep.blk_setCell_other _ ⟨w.heap.size,0,none⟩ _ BC (by dsimp only;omega)];exact hD.block BC HA.out.bc.lt)
  have r0:D.cell? ⟨w.heap.size,0,none⟩=some (.slice none 0 0):=HAD.out.resT.cell 0 (by simp)
  have rf:=HAD.out.resT.frozen 0
  have rl:=HAD.out.resT.lt
  have z0:D.cell? ⟨w.heap.size+1,0,none⟩=some (.int .i64 0):=HAD.out.resC.cell 0 (by simp[cgZ])
  have z1:D.cell? ⟨w.heap.size+1,1,none⟩=some (.int .i64 0):=HAD.out.resC.cell 1 (by simp[cgZ])
  have z2:D.cell? ⟨w.heap.size+1,2,none⟩=some (.string ⟨#[]⟩):=HAD.out.resC.cell 2 (by simp[cgZ])
  have z3:D.cell? ⟨w.heap.size+1,3,none⟩=some (.string ⟨#[]⟩):=HAD.out.resC.cell 3 (by simp[cgZ])
  have z4:D.cell? ⟨w.heap.size+1,4,none⟩=some (.int .i64 0):=HAD.out.resC.cell 4 (by simp[cgZ])
  have z5:D.cell? ⟨w.heap.size+1,5,none⟩=some (.slice none 0 0):=HAD.out.resC.cell 5 (by simp[cgZ])
  have z6:D.cell? ⟨w.heap.size+1,6,none⟩=some (.int .i64 0):=HAD.out.resC.cell 6 (by simp[cgZ])
  have y0:=HAD.out.resC.frozen 0
  have y1:=HAD.out.resC.frozen 1
  have y2:=HAD.out.resC.frozen 2
  have y3:=HAD.out.resC.frozen 3
  have y4:=HAD.out.resC.frozen 4
  have y5:=HAD.out.resC.frozen 5
  have y6:=HAD.out.resC.frozen 6
  have zl:=HAD.out.resC.lt
  have HFIN:Hid (SesssAt w.heap.size ((((((((D.setCell ⟨w.heap.size,0,none⟩ (.slice a9 16 c9)).setCell ⟨w.heap.size+1,0,none⟩ (.int .i64 kind)).setCell ⟨w.heap.size+1,1,none⟩ (.int .i64 client)).setCell ⟨w.heap.size+1,2,none⟩ (.string tag)).setCell ⟨w.heap.size+1,3,none⟩ (.string query)).setCell ⟨w.heap.size+1,4,none⟩ (.int .i64 page)).setCell ⟨w.heap.size+1,5,none⟩ (.slice au m cu)).setCell ⟨w.heap.size+1,6,none⟩ (.int .i64 n0)) (.slice a9 16 c9) (apT cs)∧StrsAt w.heap.size ((((((((D.setCell ⟨w.heap.size,0,none⟩ (.slice a9 16 c9)).setCell ⟨w.heap.size+1,0,none⟩ (.int .i64 kind)).setCell ⟨w.heap.size+1,1,none⟩ (.int .i64 client)).setCell ⟨w.heap.size+1,2,none⟩ (.string tag)).setCell ⟨w.heap.size+1,3,none⟩ (.string query)).setCell ⟨w.heap.size+1,4,none⟩ (.int .i64 page)).setCell ⟨w.heap.size+1,5,none⟩ (.slice au m cu)).setCell ⟨w.heap.size+1,6,none⟩ (.int .i64 n0)) (.slice au m cu) (apC cs).rows∧Below w.heap.size w ((((((((D.setCell ⟨w.heap.size,0,none⟩ (.slice a9 16 c9)).setCell ⟨w.heap.size+1,0,none⟩ (.int .i64 kind)).setCell ⟨w.heap.size+1,1,none⟩ (.int .i64 client)).setCell ⟨w.heap.size+1,2,none⟩ (.string tag)).setCell ⟨w.heap.size+1,3,none⟩ (.string query)).setCell ⟨w.heap.size+1,4,none⟩ (.int .i64 page)).setCell ⟨w.heap.size+1,5,none⟩ (.slice au m cu)).setCell ⟨w.heap.size+1,6,none⟩ (.int .i64 n0))):=by
   have hA:Apart w.heap.size BT BC D ((((((((D.setCell ⟨w.heap.size,0,none⟩ (.slice a9 16 c9)).setCell ⟨w.heap.size+1,0,none⟩ (.int .i64 kind)).setCell ⟨w.heap.size+1,1,none⟩ (.int .i64 client)).setCell ⟨w.heap.size+1,2,none⟩ (.string tag)).setCell ⟨w.heap.size+1,3,none⟩ (.string query)).setCell ⟨w.heap.size+1,4,none⟩ (.int .i64 page)).setCell ⟨w.heap.size+1,5,none⟩ (.slice au m cu)).setCell ⟨w.heap.size+1,6,none⟩ (.int .i64 n0)):=(Apart.set (b:=w.heap.size) (o:=0) (.inr (.inr (by omega))) _).trans (Apart.of (b:=w.heap.size+1) (.inr (.inr (by omega))) (by simp only[Deep.nblk_setCell];exact leR _) fun d hd=>blk_fill7 _ _ _ _ _ _ _ _ _ d hd)
   rw[HTT.out,HCC.out]
   exact⟨At.mono mono_sess (HAD.out.st _ hA) (by omega),At.mono mono_str (HAD.out.sr _ hA) (by omega),Below.fill7 (HAD.out.bel.setCell (p:=⟨w.heap.size,0,none⟩) (leR _) _) (by omega) _ _ _ _ _ _ _⟩
  refine wp_region_two (fun X:World=>X.cell? ⟨BT,0,none⟩=some (.slice a9 16 c9)∧X.cell? ⟨BC,0,none⟩=some (.int .i64 kind)∧X.cell? ⟨BC,1,none⟩=some (.int .i64 client)∧X.cell? ⟨BC,2,none⟩=some (.string tag)∧X.cell? ⟨BC,3,none⟩=some (.string query)∧X.cell? ⟨BC,4,none⟩=some (.int .i64 page)∧X.cell? ⟨BC,5,none⟩=some (.slice au m cu)∧X.cell? ⟨BC,6,none⟩=some (.int .i64 n0)) 3 (by kernel_rfl) ?_
  rw[hwd]
  have hSd:=K1.out D hD
  refine wpTwo_take (i:=0) (some 82) (v:=?v0_17b) rfl rfl (by kernel_rfl) (by kernel_rfl) (by kernel_rfl) (by kernel_rfl) (fun _ _ _ h=>h) hSd (Or.inl ⟨by rfl,?hy0_17b⟩) ?rest0_17b
  case hy0_17b=>(intro w hSw;(try dsimp only at hSw);go_simp;try with_reducible rfl)
  try simp only[Act.put,List.setIfInBounds_toArray,List.set_cons_zero,List.set_cons_succ]
  refine wpTwo_take (i:=1) (some 83) (v:=?v1_17b) rfl rfl (by kernel_rfl) (by kernel_rfl) (by kernel_rfl) (by kernel_rfl) (fun _ _ _ h=>h) hSd (Or.inl ⟨by rfl,?hy1_17b⟩) ?rest1_17b
  case hy1_17b=>(intro w hSw;(try dsimp only at hSw);go_simp;try with_reducible rfl)
  try simp only[Act.put,List.setIfInBounds_toArray,List.set_cons_zero,List.set_cons_succ]
  refine wpTwo_one (j:=2) (by kernel_rfl) rfl (fun K hK=>?_)
  go_simp
  refine hK.out _ _ (fun _=>K2.out _ _ rfl) ?_
  clear hK K
  try simp only[Act.put,List.setIfInBounds_toArray,List.set_cons_zero,List.set_cons_succ]
  refine wpTwo_one (j:=3) (by kernel_rfl) rfl (fun K hK=>?_)
  go_simp
  refine hK.out _ _ (fun h=>absurd h (by decide)) ?_
  clear hK K
  refine wpTwo_done (by kernel_rfl) ?_ _
  clear hSd
  go_wp2_with fail
  exact bodyPost_ret (v:=.tuple #[.agg #[.slice a9 16 c9],chgV ⟨kind,client,tag,query,page,rows,n0⟩ (.slice au m cu)]) (by simp[results,Tryz.results4,go_sem,chgV,r0,rl,z0,z1,z2,z3,z4,z5,z6,zl]) rfl ⟨_,_,by rw[HCC.out],HFIN.out.1,HFIN.out.2.1,HFIN.out.2.2⟩
 by_cases hE:how=20
 ·have g20:(20:Int)≤(how:Int):=by omega
  have g22:(how:Int)<22:=by omega
  have q20:((how:Int) == 20)=true:=by simp;omega
  have q22:((how:Int) == 22)=false:=by simp;omega
  have q23:((how:Int) == 23)=false:=by simp;omega
  have HT1E:Hid (apT1 cs=fullT x):=by show _=_;unfold apT1;rw[if_pos (by rw[HHO.out];omega),HXX.out]
  have HTT:Hid (apT cs=fullT x):=by
   show _=_
   unfold apT
   rw[if_neg (by rw[HHO.out];omega)]
   unfold apT2
   rw[if_neg (by rw[HHO.out];omega),HT1E.out]
  have HFU:=hide (fullTb_any x (by omega) V2)
  have t0:V2.cell? ⟨V1.heap.size,0,none⟩=some (.slice at1 n1 ct1):=HBT.out.cell 0 (by simp)
  go_wp2_with fail
  refine HFU.out.mono ?_
  rintro e W1 ⟨t2,rfl,hst2,hbw1⟩
  obtain⟨a9,c9,et2,_⟩:=At.form hst2
  rw[fullT_len] at et2
  subst et2
  have hbt1:=HBT.out.below hbw1
  have s0:W1.cell? ⟨V1.heap.size,0,none⟩=some (.slice at1 n1 ct1):=hbt1.cell 0 (by simp)
  have sf:=hbt1.frozen 0
  have sl:=hbt1.lt
  have hsz:=HSZ.out
  obtain⟨W,hW⟩:∃q,W1.setCell ⟨V1.heap.size,0,none⟩ (.slice a9 16 c9)=q:=⟨_,rfl⟩
  have hWo:∀d,d≠V1.heap.size→W.heap[d]?=W1.heap[d]?:=fun d hd=>by rw[←hW];exact Deep.blk_setCell_other _ ⟨V1.heap.size,0,none⟩ _ d (by dsimp only;exact hd)
  have hWs:W.heap.size=W1.heap.size:=by rw[←hW];exact Deep.nblk_setCell _ _ _
  have hstW:SesssAt V2.heap.size W (.slice a9 16 c9) (fullT x):=At.same kept_sess hst2 ⟨by rw[hWs];exact leR _,fun d h1 _=>hWo d (by omega)⟩
  have hbtW:Box W V1.heap.size 25 #[.slice a9 16 c9]:=by rw[←hW];have:=hbt1.set 0 (.slice a9 16 c9);simpa using this
  have hrtW:Box W w.heap.size 25 #[.slice none 0 0]:=(HRT2.out.below hbw1).keep (hWo _ (by omega))
  have hrcW:Box W (w.heap.size+1) 28 cgZ:=(HRC2.out.below hbw1).keep (hWo _ (by omega))
  have hbW:Below w.heap.size w W:=by rw[←hW];exact(bjoin hbw1 HB2.out).setCell (p:=⟨V1.heap.size,0,none⟩) (by show w.heap.size≤V1.heap.size;omega) _
  obtain⟨c,hc⟩:∃c,drCh cs 2 (apT1 cs)=c:=⟨_,rfl⟩
  have HCW1:=hide (HCH.out W hbW (.slice a9 16 c9) _ (by rw[HT1E.out];exact hstW))
  rw[hc] at HCW1
  have HCE:=hide hc
  obtain⟨kind,client,tag,query,page,rows,n0⟩:=c
  unfold chgV at HCW1
  dsimp only at HCW1
  have HGW:=hide (And.intro hstW (And.intro hbtW (And.intro hrtW (And.intro hrcW (And.intro hbW hWs)))))
  have HW2S:Hid (V2.heap.size≤W1.heap.size):=hbw1.size
  have tw:W.cell? ⟨V1.heap.size,0,none⟩=some (.slice a9 16 c9):=hbtW.cell 0 (by simp)
  have HW:=hide hW
  clear hc hst2 hbw1 hbt1 hsz hWo hWs hstW hbtW hrtW hrcW hbW hW t0
  go_wp2_with (rw[HW.out])
  (try rw[HW.out])
  refine HCW1.out.mono ?_
  rintro e V5 ⟨u,rfl,hu,hb5⟩
  obtain⟨au,cu,eu,_⟩:=At.form hu
  obtain⟨m,hm⟩:∃q,rows.length=q:=⟨_,rfl⟩
  rw[hm] at eu
  subst eu
  obtain⟨Y,hY⟩:∃q,V5.alloc (Obj.cells #[.int .i64 kind,.int .i64 client,.string tag,.string query,.int .i64 page,.slice au m cu,.int .i64 n0] 28)=q:=⟨_,rfl⟩
  have hbY:Below V5.heap.size V5 Y:=by rw[←hY];exact alcB _ _
  have HA:Hid (AP w V1.heap.size V5.heap.size (.slice a9 16 c9) (fullT x) ⟨kind,client,tag,query,page,rows,n0⟩ (.slice au m cu) Y):=by
   obtain⟨h1,h2,h3,h4,h5,h6⟩:=HGW.out
   have hsz:=HSZ.out
   have h7:=HW2S.out
   have h8:=hb5.size
   have hbb:=bjoin hbY hb5
   exact⟨h3.below hbb,h4.below hbb,h2.below hbb,by rw[←hY];exact Box.new _ _ _,TS.mid h1 (by omega) (by omega) (by omega) (fun d hd _=>hbb.block d hd) hbb.size,RS.old hu (by omega) (leR _) (by omega) hbY,bjoin hbb h5,by omega,by omega⟩
  have HY:=hide hY
  clear hu hb5 hbY hm hY tw s0 sf sl
  obtain⟨k4,hk4⟩:∃q,x % 4=q:=⟨_,rfl⟩
  obtain⟨k20,hk20⟩:∃q,x % 20=q:=⟨_,rfl⟩
  have m4:(x:Int).tmod 4=(k4:Int):=by rw[Int.tmod_eq_emod_of_nonneg (by omega),←hk4];omega
  have m20:(x:Int).tmod 20=(k20:Int):=by rw[Int.tmod_eq_emod_of_nonneg (by omega),←hk20];omega
  have n4:(x:Int) % 4=(k4:Int):=by omega
  have n20:(x:Int) % 20=(k20:Int):=by omega
  have b4:k4<4:=by omega
  have b20:k20<20:=by omega
  have HSH:=hide (fun W=>show_any k20 W (by omega))
  have hds:=decT_small k20 (by omega)
  have hfe:fS k20=⟨#[102]⟩++decT k20:=rfl
  obtain⟨dt,hdt⟩:∃t,decT k20=t:=⟨_,rfl⟩
  rw[hdt] at HSH hds hfe
  obtain⟨tg,htg⟩:∃c,(⟨#[102]⟩:ByteArray)++dt=c:=⟨_,rfl⟩
  have HFS:Hid (fS k20=tg):=by show _=_;rw[hfe,htg]
  have hc1:(⟨#[102]⟩:ByteArray).size=1:=rfl
  have HCC:Hid (apC cs=⟨1,(k4:Int),tg,⟨#[]⟩,1,[],0⟩):=by
   show _=_
   unfold apC
   rw[if_neg (by rw[HHO.out];omega)]
   unfold apC1
   rw[if_pos (by rw[HHO.out];omega),HXX.out,hk4,hk20,HFS.out]
  clear hE hk4 hk20 hdt hfe
  go_wp2_with (rw[HY.out])
  (try rw[HY.out])
  refine(HSH.out _).mono ?_
  rintro e V6 ⟨rfl,hb6⟩
  have hA6:=HA.out.below hb6
  have c0:V6.cell? ⟨V5.heap.size,0,none⟩=some (.int .i64 kind):=hA6.bc.cell 0 (by simp[cgC])
  have c1:V6.cell? ⟨V5.heap.size,1,none⟩=some (.int .i64 client):=hA6.bc.cell 1 (by simp[cgC])
  have c2:V6.cell? ⟨V5.heap.size,2,none⟩=some (.string tag):=hA6.bc.cell 2 (by simp[cgC])
  have c3:V6.cell? ⟨V5.heap.size,3,none⟩=some (.string query):=hA6.bc.cell 3 (by simp[cgC])
  have c4:V6.cell? ⟨V5.heap.size,4,none⟩=some (.int .i64 page):=hA6.bc.cell 4 (by simp[cgC])
  have c5:V6.cell? ⟨V5.heap.size,5,none⟩=some (.slice au m cu):=hA6.bc.cell 5 (by simp[cgC])
  have c6:V6.cell? ⟨V5.heap.size,6,none⟩=some (.int .i64 n0):=hA6.bc.cell 6 (by simp[cgC])
  have f0:=hA6.bc.frozen 0
  have f1:=hA6.bc.frozen 1
  have f2:=hA6.bc.frozen 2
  have f3:=hA6.bc.frozen 3
  have f4:=hA6.bc.frozen 4
  have f5:=hA6.bc.frozen 5
  have f6:=hA6.bc.frozen 6
  have sl:=hA6.bc.lt
  obtain⟨Z,hZ⟩:∃z,(((((((V6.setCell ⟨V5.heap.size,0,none⟩ (.int .i64 1)).setCell ⟨V5.heap.size,1,none⟩ (.int .i64 (k4:Int))).setCell ⟨V5.heap.size,2,none⟩ (.string tg)).setCell ⟨V5.heap.size,3,none⟩ (.string ⟨#[]⟩)).setCell ⟨V5.heap.size,4,none⟩ (.int .i64 1)).setCell ⟨V5.heap.size,5,none⟩ (.slice none 0 0)).setCell ⟨V5.heap.size,6,none⟩ (.int .i64 0))=z:=⟨_,rfl⟩
  have HAZ:Hid (AP w V1.heap.size V5.heap.size (.slice a9 16 c9) (fullT x) ⟨1,(k4:Int),tg,⟨#[]⟩,1,[],0⟩ (.slice none 0 0) Z):=by rw[←hZ];exact hA6.fillC _ _ _ _ _ _ _ ⟨1,(k4:Int),tg,⟨#[]⟩,1,[],0⟩ (.slice none 0 0) rfl RS.none
  have HZ:=hide hZ
  clear hZ hA6 hb6 HA HY
  go_upto_region 17 with fail
  (try rw[HZ.out])
  clear c0 c1 c2 c3 c4 c5 c6 f0 f1 f2 f3 f4 f5 f6 sl
  obtain⟨BT,hBT⟩:∃q,V1.heap.size=q:=⟨_,rfl⟩
  obtain⟨BC,hBC⟩:∃q,V5.heap.size=q:=⟨_,rfl⟩
  have HA:=HAZ
  rw[hBT] at HA
  rw[hBC] at HA
  (try rw[hBT])
  (try rw[hBC])
  clear hBT hBC HAZ HZ
  obtain⟨Y,hYZ⟩:∃q,Z=q:=⟨_,rfl⟩
  rw[hYZ] at HA
  rw[hYZ]
  clear hYZ
  have HDA:=hide HA.out
  obtain⟨D,hwd⟩:∃D,Y.drew=D:=⟨_,rfl⟩
  have hD0:Below Y.heap.size Y Y.drew:=(Below.refl _ _).drew
  have hD:Below Y.heap.size Y D:=by rw[←hwd];exact hD0
  have HAD:=hide (HA.out.below hD)
  have KB:Hid (∀X:World,X.heap[BT]?=Y.heap[BT]?→X.heap[BC]?=Y.heap[BC]?→X.cell? ⟨BT,0,none⟩=some (.slice a9 16 c9)∧X.cell? ⟨BC,0,none⟩=some (.int .i64 1)∧X.cell? ⟨BC,1,none⟩=some (.int .i64 (k4:Int))∧X.cell? ⟨BC,2,none⟩=some (.string tg)∧X.cell? ⟨BC,3,none⟩=some (.string ⟨#[]⟩)∧X.cell? ⟨BC,4,none⟩=some (.int .i64 1)∧X.cell? ⟨BC,5,none⟩=some (.slice none 0 0)∧X.cell? ⟨BC,6,none⟩=some (.int .i64 0)):=fun X h1 h2 =>
   ⟨(HA.out.bt.keep h1).cell 0 (by simp),(HA.out.bc.keep h2).cell 0 (by simp[cgC]),(HA.out.bc.keep h2).cell 1 (by simp[cgC]),(HA.out.bc.keep h2).cell 2 (by simp[cgC]),(HA.out.bc.keep h2).cell 3 (by simp[cgC]),(HA.out.bc.keep h2).cell 4 (by simp[cgC]),(HA.out.bc.keep h2).cell 5 (by simp[cgC]),(HA.out.bc.keep h2).cell 6 (by simp[cgC])⟩
  have K1:Hid (∀X,Below Y.heap.size Y X→X.cell? ⟨BT,0,none⟩=some (.slice a9 16 c9)∧X.cell? ⟨BC,0,none⟩=some (.int .i64 1)∧X.cell? ⟨BC,1,none⟩=some (.int .i64 (k4:Int))∧X.cell? ⟨BC,2,none⟩=some (.string tg)∧X.cell? ⟨BC,3,none⟩=some (.string ⟨#[]⟩)∧X.cell? ⟨BC,4,none⟩=some (.int .i64 1)∧X.cell? ⟨BC,5,none⟩=some (.slice none 0 0)∧X.cell? ⟨BC,6,none⟩=some (.int .i64 0)):=fun X h=>KB.out X (h.block BT HA.out.bt.lt) (h.block BC HA.out.bc.lt)
  have K2:Hid (∀x0 X,D.setCell ⟨w.heap.size,0,none⟩ x0=X→X.cell? ⟨BT,0,none⟩=some (.slice a9 16 c9)∧X.cell? ⟨BC,0,none⟩=some (.int .i64 1)∧X.cell? ⟨BC,1,none⟩=some (.int .i64 (k4:Int))∧X.cell? ⟨BC,2,none⟩=some (.string tg)∧X.cell? ⟨BC,3,none⟩=some (.string ⟨#[]⟩)∧X.cell? ⟨BC,4,none⟩=some (.int .i64 1)∧X.cell? ⟨BC,5,none⟩=some (.slice none 0 0)∧X.cell? ⟨BC,6,none⟩=some (.int .i64 0)):=fun x0 X h=>by
   have h1:=HA.out.lt;have h2:=HA.out.ltc
   exact KB.out X (by rw[←h,Deep.blk_setCell_other _ ⟨w.heap.size,0,none⟩ _ BT (by dsimp only;omega)];exact hD.block BT HA.out.bt.lt) (by rw[←h,Deep.blk_setCell_other _ ⟨w.heap.size,0,none⟩ _ BC (by dsimp only;omega)];exact hD.block BC HA.out.bc.lt)
  have K3:Hid (∀x9 x0 x1 x2 x3 x4 x5 x6 X,(((((((D.setCell ⟨w.heap.size,0,none⟩ x9).setCell ⟨w.heap.size+1,0,none⟩ x0).setCell ⟨w.heap.size+1,1,none⟩ x1).setCell ⟨w.heap.size+1,2,none⟩ x2).setCell ⟨w.heap.size+1,3,none⟩ x3).setCell ⟨w.heap.size+1,4,none⟩ x4).setCell ⟨w.heap.size+1,5,none⟩ x5).setCell ⟨w.heap.size+1,6,none⟩ x6=X→X.cell? ⟨BT,0,none⟩=some (.slice a9 16 c9)∧X.cell? ⟨BC,0,none⟩=some (.int .i64 1)∧X.cell? ⟨BC,1,none⟩=some (.int .i64 (k4:Int))∧X.cell? ⟨BC,2,none⟩=some (.string tg)∧X.cell? ⟨BC,3,none⟩=some (.string ⟨#[]⟩)∧X.cell? ⟨BC,4,none⟩=some (.int .i64 1)∧X.cell? ⟨BC,5,none⟩=some (.slice none 0 0)∧X.cell? ⟨BC,6,none⟩=some (.int .i64 0)):=fun x9 x0 x1 x2 x3 x4 x5 x6 X h=>by
   have h1:=HA.out.lt;have h2:=HA.out.ltc
   exact KB.out X (by rw[←h,blk_fill7 _ _ _ _ _ _ _ _ _ BT (by omega),Deep.blk_setCell_other _ ⟨w.heap.size,0,none⟩ _ BT (by dsimp only;omega)];exact hD.block BT HA.out.bt.lt) (by rw[←h,blk_fill7 _ _ _ _ _ _ _ _ _ BC (by omega),Deep.blk_setCell_other _ ⟨w.heap.size,0,none⟩ _ BC (by dsimp only;omega)];exact hD.block BC HA.out.bc.lt)
  have r0:D.cell? ⟨w.heap.size,0,none⟩=some (.slice none 0 0):=HAD.out.resT.cell 0 (by simp)
  have rf:=HAD.out.resT.frozen 0
  have rl:=HAD.out.resT.lt
  have z0:D.cell? ⟨w.heap.size+1,0,none⟩=some (.int .i64 0):=HAD.out.resC.cell 0 (by simp[cgZ])
  have z1:D.cell? ⟨w.heap.size+1,1,none⟩=some (.int .i64 0):=HAD.out.resC.cell 1 (by simp[cgZ])
  have z2:D.cell? ⟨w.heap.size+1,2,none⟩=some (.string ⟨#[]⟩):=HAD.out.resC.cell 2 (by simp[cgZ])
  have z3:D.cell? ⟨w.heap.size+1,3,none⟩=some (.string ⟨#[]⟩):=HAD.out.resC.cell 3 (by simp[cgZ])
  have z4:D.cell? ⟨w.heap.size+1,4,none⟩=some (.int .i64 0):=HAD.out.resC.cell 4 (by simp[cgZ])
  have z5:D.cell? ⟨w.heap.size+1,5,none⟩=some (.slice none 0 0):=HAD.out.resC.cell 5 (by simp[cgZ])
  have z6:D.cell? ⟨w.heap.size+1,6,none⟩=some (.int .i64 0):=HAD.out.resC.cell 6 (by simp[cgZ])
  have y0:=HAD.out.resC.frozen 0
  have y1:=HAD.out.resC.frozen 1
  have y2:=HAD.out.resC.frozen 2
  have y3:=HAD.out.resC.frozen 3
  have y4:=HAD.out.resC.frozen 4
  have y5:=HAD.out.resC.frozen 5
  have y6:=HAD.out.resC.frozen 6
  have zl:=HAD.out.resC.lt
  have HFIN:Hid (SesssAt w.heap.size ((((((((D.setCell ⟨w.heap.size,0,none⟩ (.slice a9 16 c9)).setCell ⟨w.heap.size+1,0,none⟩ (.int .i64 1)).setCell ⟨w.heap.size+1,1,none⟩ (.int .i64 (k4:Int))).setCell ⟨w.heap.size+1,2,none⟩ (.string tg)).setCell ⟨w.heap.size+1,3,none⟩ (.string ⟨#[]⟩)).setCell ⟨w.heap.size+1,4,none⟩ (.int .i64 1)).setCell ⟨w.heap.size+1,5,none⟩ (.slice none 0 0)).setCell ⟨w.heap.size+1,6,none⟩ (.int .i64 0)) (.slice a9 16 c9) (apT cs)∧StrsAt w.heap.size ((((((((D.setCell ⟨w.heap.size,0,none⟩ (.slice a9 16 c9)).setCell ⟨w.heap.size+1,0,none⟩ (.int .i64 1)).setCell ⟨w.heap.size+1,1,none⟩ (.int .i64 (k4:Int))).setCell ⟨w.heap.size+1,2,none⟩ (.string tg)).setCell ⟨w.heap.size+1,3,none⟩ (.string ⟨#[]⟩)).setCell ⟨w.heap.size+1,4,none⟩ (.int .i64 1)).setCell ⟨w.heap.size+1,5,none⟩ (.slice none 0 0)).setCell ⟨w.heap.size+1,6,none⟩ (.int .i64 0)) (.slice none 0 0) (apC cs).rows∧Below w.heap.size w ((((((((D.setCell ⟨w.heap.size,0,none⟩ (.slice a9 16 c9)).setCell ⟨w.heap.size+1,0,none⟩ (.int .i64 1)).setCell ⟨w.heap.size+1,1,none⟩ (.int .i64 (k4:Int))).setCell ⟨w.heap.size+1,2,none⟩ (.string tg)).setCell ⟨w.heap.size+1,3,none⟩ (.string ⟨#[]⟩)).setCell ⟨w.heap.size+1,4,none⟩ (.int .i64 1)).setCell ⟨w.heap.size+1,5,none⟩ (.slice none 0 0)).setCell ⟨w.heap.size+1,6,none⟩ (.int .i64 0))):=by
   have hA:Apart w.heap.size BT BC D ((((((((D.setCell ⟨w.heap.size,0,none⟩ (.slice a9 16 c9)).setCell ⟨w.heap.size+1,0,none⟩ (.int .i64 1)).setCell ⟨w.heap.size+1,1,none⟩ (.int .i64 (k4:Int))).setCell ⟨w.heap.size+1,2,none⟩ (.string tg)).setCell ⟨w.heap.size+1,3,none⟩ (.string ⟨#[]⟩)).setCell ⟨w.heap.size+1,4,none⟩ (.int .i64 1)).setCell ⟨w.heap.size+1,5,none⟩ (.slice none 0 0)).setCell ⟨w.heap.size+1,6,none⟩ (.int .i64 0)):=(Apart.set (b:=w.heap.size) (o:=0) (.inr (.inr (by omega))) _).trans (Apart.of (b:=w.heap.size+1) (.inr (.inr (by omega))) (by simp only[Deep.nblk_setCell];exact leR _) fun d hd=>blk_fill7 _ _ _ _ _ _ _ _ _ d hd)
   rw[HTT.out,HCC.out]
   exact⟨At.mono mono_sess (HAD.out.st _ hA) (by omega),At.mono mono_str (HAD.out.sr _ hA) (by omega),Below.fill7 (HAD.out.bel.setCell (p:=⟨w.heap.size,0,none⟩) (leR _) _) (by omega) _ _ _ _ _ _ _⟩
  refine wp_region_two (fun X:World=>X.cell? ⟨BT,0,none⟩=some (.slice a9 16 c9)∧X.cell? ⟨BC,0,none⟩=some (.int .i64 1)∧X.cell? ⟨BC,1,none⟩=some (.int .i64 (k4:Int))∧X.cell? ⟨BC,2,none⟩=some (.string tg)∧X.cell? ⟨BC,3,none⟩=some (.string ⟨#[]⟩)∧X.cell? ⟨BC,4,none⟩=some (.int .i64 1)∧X.cell? ⟨BC,5,none⟩=some (.slice none 0 0)∧X.cell? ⟨BC,6,none⟩=some (.int .i64 0)) 3 (by kernel_rfl) ?_
  rw[hwd]
  have hSd:=K1.out D hD
  refine wpTwo_take (i:=0) (some 82) (v:=?v0_17d) rfl rfl (by kernel_rfl) (by kernel_rfl) (by kernel_rfl) (by kernel_rfl) (fun _ _ _ h=>h) hSd (Or.inl ⟨by rfl,?hy0_17d⟩) ?rest0_17d
  case hy0_17d=>(intro w hSw;(try dsimp only at hSw);go_simp;try with_reducible rfl)
  try simp only[Act.put,List.setIfInBounds_toArray,List.set_cons_zero,List.set_cons_succ]
  refine wpTwo_take (i:=1) (some 83) (v:=?v1_17d) rfl rfl (by kernel_rfl) (by kernel_rfl) (by kernel_rfl) (by kernel_rfl) (fun _ _ _ h=>h) hSd (Or.inl ⟨by rfl,?hy1_17d⟩) ?rest1_17d
  case hy1_17d=>(intro w hSw;(try dsimp only at hSw);go_simp;try with_reducible rfl)
  try simp only[Act.put,List.setIfInBounds_toArray,List.set_cons_zero,List.set_cons_succ]
  refine wpTwo_one (j:=2) (by kernel_rfl) rfl (fun K hK=>?_)
  go_simp
  refine hK.out _ _ (fun _=>K2.out _ _ rfl) ?_
  clear hK K
  try simp only[Act.put,List.setIfInBounds_toArray,List.set_cons_zero,List.set_cons_succ]
  refine wpTwo_one (j:=3) (by kernel_rfl) rfl (fun K hK=>?_)
  go_simp
  refine hK.out _ _ (fun h=>absurd h (by decide)) ?_
  clear hK K
  refine wpTwo_done (by kernel_rfl) ?_ _
  clear hSd
  go_wp2_with fail
  exact bodyPost_ret (v:=.tuple #[.agg #[.slice a9 16 c9],chgV ⟨1,(k4:Int),tg,⟨#[]⟩,1,[],0⟩ (.slice none 0 0)]) (by simp[results,Tryz.results4,go_sem,chgV,r0,rl,z0,z1,z2,z3,z4,z5,z6,zl]) rfl ⟨_,_,by rw[HCC.out],HFIN.out.1,HFIN.out.2.1,HFIN.out.2.2⟩
 have hE:how=23:=by omega
 have g20:(20:Int)≤(how:Int):=by omega
 have g22:¬(how:Int)<22:=by omega
 have q20:((how:Int) == 20)=false:=by simp;omega
 have q22:((how:Int) == 22)=false:=by simp;omega
 have q23:((how:Int) == 23)=true:=by simp;omega
 have HT1E:Hid (apT1 cs=drTable cs):=by show _=_;unfold apT1;rw[if_neg (by rw[HHO.out];omega)]
 have HT2E:Hid (apT2 cs=drTable cs):=by
  show _=_
  unfold apT2
  rw[if_neg (by rw[HHO.out];omega),HT1E.out]
 have HCC0:Hid (apC1 cs=drCh cs 2 (apT1 cs)):=by
  show _=_
  unfold apC1
  rw[if_neg (by rw[HHO.out];omega)]
 obtain⟨c,hc⟩:∃c,drCh cs 2 (apT1 cs)=c:=⟨_,rfl⟩
 have HCW1:=hide (HCH.out V2 HB2.out (.slice at1 n1 ct1) _ (by rw[HT1E.out];exact At.kept kept_sess HST1.out HB12.out))
 rw[hc] at HCW1 HCC0
 obtain⟨kind,client,tag,query,page,rows,n0⟩:=c
 unfold chgV at HCW1
 dsimp only at HCW1
 have t0:V2.cell? ⟨V1.heap.size,0,none⟩=some (.slice at1 n1 ct1):=HBT.out.cell 0 (by simp)
 clear hc
 go_wp2_with fail
 refine HCW1.out.mono ?_
 rintro e V5 ⟨u,rfl,hu,hb5⟩
 obtain⟨au,cu,eu,_⟩:=At.form hu
 obtain⟨m,hm⟩:∃q,rows.length=q:=⟨_,rfl⟩
 rw[hm] at eu
 subst eu
 obtain⟨Y,hY⟩:∃q,V5.alloc (Obj.cells #[.int .i64 kind,.int .i64 client,.string tag,.string query,.int .i64 page,.slice au m cu,.int .i64 n0] 28)=q:=⟨_,rfl⟩
 have hbY:Below V5.heap.size V5 Y:=by rw[←hY];exact alcB _ _
 have hb25:=hb5.size
 have hsz:=HSZ.out
 have HA:Hid (AP w V1.heap.size V5.heap.size (.slice at1 n1 ct1) (drTable cs) ⟨kind,client,tag,query,page,rows,n0⟩ (.slice au m cu) Y) :=
  ⟨HRT2.out.below (bjoin hbY hb5),HRC2.out.below (bjoin hbY hb5),HBT.out.below (bjoin hbY hb5),by rw[←hY];exact Box.new _ _ _,TS.old HST1.out (by have:=HSX.out;omega) (leR _) (by omega) (bjoin (bjoin hbY hb5) HB12.out),RS.old hu (by omega) (leR _) (by omega) hbY,bjoin (bjoin hbY hb5) HB2.out,by omega,by omega⟩
 have HY:=hide hY
 clear hu hb5 hbY hb25 hsz hm hY t0
 go_upto_region 11 with(rw[HY.out])
 (try rw[HY.out])
 obtain⟨BT,hBT⟩:∃q,V1.heap.size=q:=⟨_,rfl⟩
 obtain⟨BC,hBC⟩:∃q,V5.heap.size=q:=⟨_,rfl⟩
 rw[hBT] at HA
 rw[hBC] at HA
 (try rw[hBT])
 (try rw[hBC])
 clear hBT hBC
 have t9:Y.cell? ⟨BT,0,none⟩=some (.slice at1 n1 ct1):=HA.out.bt.cell 0 (by simp)
 by_cases hn0:n1=0
 ·have hnn:¬(0:Int)<(n1:Int):=by omega
  have HTT:Hid (apT cs=drTable cs):=by
   show _=_
   unfold apT
   rw[if_neg (by rw[HT2E.out,HN1.out];omega),HT2E.out]
  have HCC:Hid (apC cs=⟨kind,client,tag,query,page,rows,n0⟩):=by
   show _=_
   unfold apC
   rw[if_neg (by rw[HT2E.out,HN1.out];omega),HCC0.out]
  clear hE hn0
  go_upto_region 17 with fail
  clear t9
  obtain⟨a9,ha9⟩:∃q,at1=q:=⟨_,rfl⟩
  obtain⟨n9,hn9⟩:∃q,n1=q:=⟨_,rfl⟩
  obtain⟨c9,hc9⟩:∃q,ct1=q:=⟨_,rfl⟩
  rw[ha9,hn9,hc9] at HA
  (try rw[ha9])
  (try rw[hn9])
  (try rw[hc9])
  clear ha9 hn9 hc9
  have HDA:=hide HA.out
  obtain⟨D,hwd⟩:∃D,Y.drew=D:=⟨_,rfl⟩
  have hD0:Below Y.heap.size Y Y.drew:=(Below.refl _ _).drew
  have hD:Below Y.heap.size Y D:=by rw[←hwd];exact hD0
  have HAD:=hide (HA.out.below hD)
  have KB:Hid (∀X:World,X.heap[BT]?=Y.heap[BT]?→X.heap[BC]?=Y.heap[BC]?→X.cell? ⟨BT,0,none⟩=some (.slice a9 n9 c9)∧X.cell? ⟨BC,0,none⟩=some (.int .i64 kind)∧X.cell? ⟨BC,1,none⟩=some (.int .i64 client)∧X.cell? ⟨BC,2,none⟩=some (.string tag)∧X.cell? ⟨BC,3,none⟩=some (.string query)∧X.cell? ⟨BC,4,none⟩=some (.int .i64 page)∧X.cell? ⟨BC,5,none⟩=some (.slice au m cu)∧X.cell? ⟨BC,6,none⟩=some (.int .i64 n0)):=fun X h1 h2 =>
   ⟨(HA.out.bt.keep h1).cell 0 (by simp),(HA.out.bc.keep h2).cell 0 (by simp[cgC]),(HA.out.bc.keep h2).cell 1 (by simp[cgC]),(HA.out.bc.keep h2).cell 2 (by simp[cgC]),(HA.out.bc.keep h2).cell 3 (by simp[cgC]),(HA.out.bc.keep h2).cell 4 (by simp[cgC]),(HA.out.bc.keep h2).cell 5 (by simp[cgC]),(HA.out.bc.keep h2).cell 6 (by simp[cgC])⟩
  have K1:Hid (∀X,Below Y.heap.size Y X→X.cell? ⟨BT,0,none⟩=some (.slice a9 n9 c9)∧X.cell? ⟨BC,0,none⟩=some (.int .i64 kind)∧X.cell? ⟨BC,1,none⟩=some (.int .i64 client)∧X.cell? ⟨BC,2,none⟩=some (.string tag)∧X.cell? ⟨BC,3,none⟩=some (.string query)∧X.cell? ⟨BC,4,none⟩=some (.int .i64 page)∧X.cell? ⟨BC,5,none⟩=some (.slice au m cu)∧X.cell? ⟨BC,6,none⟩=some (.int .i64 n0)):=fun X h=>KB.out X (h.block BT HA.out.bt.lt) (h.block BC HA.out.bc.lt)
  have K2:Hid (∀x0 X,D.setCell ⟨w.heap.size,0,none⟩ x0=X→X.cell? ⟨BT,0,none⟩=some (.slice a9 n9 c9)∧X.cell? ⟨BC,0,none⟩=some (.int .i64 kind)∧X.cell? ⟨BC,1,none⟩=some (.int .i64 client)∧X.cell? ⟨BC,2,none⟩=some (.string tag)∧X.cell? ⟨BC,3,none⟩=some (.string query)∧X.cell? ⟨BC,4,none⟩=some (.int .i64 page)∧X.cell? ⟨BC,5,none⟩=some (.slice au m cu)∧X.cell? ⟨BC,6,none⟩=some (.int .i64 n0)):=fun x0 X h=>by
   have h1:=HA.out.lt;have h2:=HA.out.ltc
   exact KB.out X (by rw[←h,Deep.blk_setCell_other _ ⟨w.heap.size,0,none⟩ _ BT (by dsimp only;omega)];exact hD.block BT HA.out.bt.lt) (by rw[←h,Deep.blk_setCell_other _ ⟨w.heap.size,0,none⟩ _ BC (by dsimp only;omega)];exact hD.block BC HA.out.bc.lt)
  have K3:Hid (∀x9 x0 x1 x2 x3 x4 x5 x6 X,(((((((D.setCell ⟨w.heap.size,0,none⟩ x9).setCell ⟨w.heap.size+1,0,none⟩ x0).setCell ⟨w.heap.size+1,1,none⟩ x1).setCell ⟨w.heap.size+1,2,none⟩ x2).setCell ⟨w.heap.size+1,3,none⟩ x3).setCell ⟨w.heap.size+1,4,none⟩ x4).setCell ⟨w.heap.size+1,5,none⟩ x5).setCell ⟨w.heap.size+1,6,none⟩ x6=X→X.cell? ⟨BT,0,none⟩=some (.slice a9 n9 c9)∧X.cell? ⟨BC,0,none⟩=some (.int .i64 kind)∧X.cell? ⟨BC,1,none⟩=some (.int .i64 client)∧X.cell? ⟨BC,2,none⟩=some (.string tag)∧X.cell? ⟨BC,3,none⟩=some (.string query)∧X.cell? ⟨BC,4,none⟩=some (.int .i64 page)∧X.cell? ⟨BC,5,none⟩=some (.slice au m cu)∧X.cell? ⟨BC,6,none⟩=some (.int .i64 n0)):=fun x9 x0 x1 x2 x3 x4 x5 x6 X h=>by
   have h1:=HA.out.lt;have h2:=HA.out.ltc
   exact KB.out X (by rw[←h,blk_fill7 _ _ _ _ _ _ _ _ _ BT (by omega),Deep.blk_setCell_other _ ⟨w.heap.size,0,none⟩ _ BT (by dsimp only;omega)];exact hD.block BT HA.out.bt.lt) (by rw[←h,blk_fill7 _ _ _ _ _ _ _ _ _ BC (by omega),Deep.blk_setCell_other _ ⟨w.heap.size,0,none⟩ _ BC (by dsimp only;omega)];exact hD.block BC HA.out.bc.lt)
  have r0:D.cell? ⟨w.heap.size,0,none⟩=some (.slice none 0 0):=HAD.out.resT.cell 0 (by simp)
  have rf:=HAD.out.resT.frozen 0
  have rl:=HAD.out.resT.lt
  have z0:D.cell? ⟨w.heap.size+1,0,none⟩=some (.int .i64 0):=HAD.out.resC.cell 0 (by simp[cgZ])
  have z1:D.cell? ⟨w.heap.size+1,1,none⟩=some (.int .i64 0):=HAD.out.resC.cell 1 (by simp[cgZ])
  have z2:D.cell? ⟨w.heap.size+1,2,none⟩=some (.string ⟨#[]⟩):=HAD.out.resC.cell 2 (by simp[cgZ])
  have z3:D.cell? ⟨w.heap.size+1,3,none⟩=some (.string ⟨#[]⟩):=HAD.out.resC.cell 3 (by simp[cgZ])
  have z4:D.cell? ⟨w.heap.size+1,4,none⟩=some (.int .i64 0):=HAD.out.resC.cell 4 (by simp[cgZ])
  have z5:D.cell? ⟨w.heap.size+1,5,none⟩=some (.slice none 0 0):=HAD.out.resC.cell 5 (by simp[cgZ])
  have z6:D.cell? ⟨w.heap.size+1,6,none⟩=some (.int .i64 0):=HAD.out.resC.cell 6 (by simp[cgZ])
  have y0:=HAD.out.resC.frozen 0
  have y1:=HAD.out.resC.frozen 1
  have y2:=HAD.out.resC.frozen 2
  have y3:=HAD.out.resC.frozen 3
  have y4:=HAD.out.resC.frozen 4
  have y5:=HAD.out.resC.frozen 5
  have y6:=HAD.out.resC.frozen 6
  have zl:=HAD.out.resC.lt
  have HFIN:Hid (SesssAt w.heap.size ((((((((D.setCell ⟨w.heap.size,0,none⟩ (.slice a9 n9 c9)).setCell ⟨w.heap.size+1,0,none⟩ (.int .i64 kind)).setCell ⟨w.heap.size+1,1,none⟩ (.int .i64 client)).setCell ⟨w.heap.size+1,2,none⟩ (.string tag)).setCell ⟨w.heap.size+1,3,none⟩ (.string query)).setCell ⟨w.heap.size+1,4,none⟩ (.int .i64 page)).setCell ⟨w.heap.size+1,5,none⟩ (.slice au m cu)).setCell ⟨w.heap.size+1,6,none⟩ (.int .i64 n0)) (.slice a9 n9 c9) (apT cs)∧StrsAt w.heap.size ((((((((D.setCell ⟨w.heap.size,0,none⟩ (.slice a9 n9 c9)).setCell ⟨w.heap.size+1,0,none⟩ (.int .i64 kind)).setCell ⟨w.heap.size+1,1,none⟩ (.int .i64 client)).setCell ⟨w.heap.size+1,2,none⟩ (.string tag)).setCell ⟨w.heap.size+1,3,none⟩ (.string query)).setCell ⟨w.heap.size+1,4,none⟩ (.int .i64 page)).setCell ⟨w.heap.size+1,5,none⟩ (.slice au m cu)).setCell ⟨w.heap.size+1,6,none⟩ (.int .i64 n0)) (.slice au m cu) (apC cs).rows∧Below w.heap.size w ((((((((D.setCell ⟨w.heap.size,0,none⟩ (.slice a9 n9 c9)).setCell ⟨w.heap.size+1,0,none⟩ (.int .i64 kind)).setCell ⟨w.heap.size+1,1,none⟩ (.int .i64 client)).setCell ⟨w.heap.size+1,2,none⟩ (.string tag)).setCell ⟨w.heap.size+1,3,none⟩ (.string query)).setCell ⟨w.heap.size+1,4,none⟩ (.int .i64 page)).setCell ⟨w.heap.size+1,5,none⟩ (.slice au m cu)).setCell ⟨w.heap.size+1,6,none⟩ (.int .i64 n0))):=by
   have hA:Apart w.heap.size BT BC D ((((((((D.setCell ⟨w.heap.size,0,none⟩ (.slice a9 n9 c9)).setCell ⟨w.heap.size+1,0,none⟩ (.int .i64 kind)).setCell ⟨w.heap.size+1,1,none⟩ (.int .i64 client)).setCell ⟨w.heap.size+1,2,none⟩ (.string tag)).setCell ⟨w.heap.size+1,3,none⟩ (.string query)).setCell ⟨w.heap.size+1,4,none⟩ (.int .i64 page)).setCell ⟨w.heap.size+1,5,none⟩ (.slice au m cu)).setCell ⟨w.heap.size+1,6,none⟩ (.int .i64 n0)):=(Apart.set (b:=w.heap.size) (o:=0) (.inr (.inr (by omega))) _).trans (Apart.of (b:=w.heap.size+1) (.inr (.inr (by omega))) (by simp only[Deep.nblk_setCell];exact leR _) fun d hd=>blk_fill7 _ _ _ _ _ _ _ _ _ d hd)
   rw[HTT.out,HCC.out]
   exact⟨At.mono mono_sess (HAD.out.st _ hA) (by omega),At.mono mono_str (HAD.out.sr _ hA) (by omega),Below.fill7 (HAD.out.bel.setCell (p:=⟨w.heap.size,0,none⟩) (leR _) _) (by omega) _ _ _ _ _ _ _⟩
  refine wp_region_two (fun X:World=>X.cell? ⟨BT,0,none⟩=some (.slice a9 n9 c9)∧X.cell? ⟨BC,0,none⟩=some (.int .i64 kind)∧X.cell? ⟨BC,1,none⟩=some (.int .i64 client)∧X.cell? ⟨BC,2,none⟩=some (.string tag)∧X.cell? ⟨BC,3,none⟩=some (.string query)∧X.cell? ⟨BC,4,none⟩=some (.int .i64 page)∧X.cell? ⟨BC,5,none⟩=some (.slice au m cu)∧X.cell? ⟨BC,6,none⟩=some (.int .i64 n0)) 3 (by kernel_rfl) ?_
  rw[hwd]
  have hSd:=K1.out D hD
  refine wpTwo_take (i:=0) (some 82) (v:=?v0_17e) rfl rfl (by kernel_rfl) (by kernel_rfl) (by kernel_rfl) (by kernel_rfl) (fun _ _ _ h=>h) hSd (Or.inl ⟨by rfl,?hy0_17e⟩) ?rest0_17e
  case hy0_17e=>(intro w hSw;(try dsimp only at hSw);go_simp;try with_reducible rfl)
  try simp only[Act.put,List.setIfInBounds_toArray,List.set_cons_zero,List.set_cons_succ]
  refine wpTwo_take (i:=1) (some 83) (v:=?v1_17e) rfl rfl (by kernel_rfl) (by kernel_rfl) (by kernel_rfl) (by kernel_rfl) (fun _ _ _ h=>h) hSd (Or.inl ⟨by rfl,?hy1_17e⟩) ?rest1_17e
  case hy1_17e=>(intro w hSw;(try dsimp only at hSw);go_simp;try with_reducible rfl)
  try simp only[Act.put,List.setIfInBounds_toArray,List.set_cons_zero,List.set_cons_succ]
  refine wpTwo_one (j:=2) (by kernel_rfl) rfl (fun K hK=>?_)
  go_simp
  refine hK.out _ _ (fun _=>K2.out _ _ rfl) ?_
  clear hK K
  try simp only[Act.put,List.setIfInBounds_toArray,List.set_cons_zero,List.set_cons_succ]
  refine wpTwo_one (j:=3) (by kernel_rfl) rfl (fun K hK=>?_)
  go_simp
  refine hK.out _ _ (fun h=>absurd h (by decide)) ?_
  clear hK K
  refine wpTwo_done (by kernel_rfl) ?_ _
  clear hSd
  go_wp2_with fail
  exact bodyPost_ret (v:=.tuple #[.agg #[.slice a9 n9 c9],chgV ⟨kind,client,tag,query,page,rows,n0⟩ (.slice au m cu)]) (by simp[results,Tryz.results4,go_sem,chgV,r0,rl,z0,z1,z2,z3,z4,z5,z6,zl]) rfl ⟨_,_,by rw[HCC.out],HFIN.out.1,HFIN.out.2.1,HFIN.out.2.2⟩
 have hnn:(0:Int)<(n1:Int):=by omega
 have HTT:Hid (apT cs=[mS]):=by
  show _=_
  unfold apT
  rw[if_pos ⟨by rw[HHO.out];exact hE,by rw[HT2E.out,HN1.out];omega⟩]
 have HCM:Hid (apC cs=mC x):=by
  show _=_
  unfold apC
  rw[if_pos ⟨by rw[HHO.out];exact hE,by rw[HT2E.out,HN1.out];omega⟩,HXX.out]
 have HM0:=hide (MR.new Y)
 obtain⟨X1,hX1⟩:∃q,Y.alloc (.cells #[.int .i64 0,.string ⟨#[109]⟩,.string ⟨#[]⟩,.int .i64 1,.int .i64 1,.slice none 0 0,.int .i64 0] 41)=q:=⟨_,rfl⟩
 rw[hX1] at HM0
 have HX1:=hide hX1
 clear hX1 hE hn0 HCC0
 go_wp2_with fail
 (try rw[HX1.out])
 have hd1:decide (0<n1)=true:=decide_eq_true (by omega)
 (try rw[hd1])
 clear hd1
 go_loopg [65] 199 (fun z9 s wr=>∃(k:Nat) (av:Option Addr) (cv:Nat),k≤199∧z9=199 - k∧MR Y k (.slice av k cv) wr)
 case atStart=>exact⟨0,none,0,by omega,rfl,HM0.out⟩
 case round =>
  clear HM0
  obtain⟨k,av,cv,hk2,rfl,hmr⟩:=hrel
  obtain⟨X,rfl⟩:∃x,x=wr:=⟨_,rfl⟩
  have HMK:=hide hmr
  clear hmr
  have d5:X.cell? ⟨Y.heap.size,5,none⟩=some (.slice av k cv):=HMK.out.box.cell 5 (by simp)
  have bl1:=HMK.out.box.lt
  by_cases hlt:k<199
  ·have hki:(k:Int)<199:=by omega
   obtain⟨a9,c9,w9,hr,hsp9,g4,g5,g6⟩:=HMK.out.more (by omega)
   have HFF:=hide hsp9
   clear hsp9
   go_wp2_with (first|(at_builtin;refine wpList_app rfl _ _ 26 rfl hr (by first|rfl|simp[Act.eval,Act.put]) (by first|rfl|simp[Act.eval,Act.put]) ?_))
   go_roundg (199 - (k+1))
   case measure=>omega
   case rel=>exact⟨k+1,a9,c9,by omega,rfl,HFF.out⟩
  ·obtain rfl:k=199:=by omega
   have hki:¬((199:Nat):Int)<199:=by omega
   clear hlt hk2
   obtain⟨V6,hV6⟩:∃q,X.alloc (.cells #[.int .i64 0,.string ⟨#[109]⟩,.string ⟨#[]⟩,.int .i64 1,.int .i64 1,.slice av 199 cv,.int .i64 0] 41)=q:=⟨_,rfl⟩
   have hb6:Below X.heap.size X V6:=by rw[←hV6];exact alcB _ _
   have hT6:SesssAt (Y.heap.size+1) V6 (.slice (some ⟨X.heap.size,0,none⟩) 1 1) [mS]:=by rw[←hV6];exact HMK.out.tbl
   have hA6:=HA.out.below (bjoin hb6 HMK.out.bel)
   have hs6:V6.heap.size=X.heap.size+1:=by rw[←hV6];simp
   have s0:V6.cell? ⟨BT,0,none⟩=some (.slice at1 n1 ct1):=hA6.bt.cell 0 (by simp)
   have sf:=hA6.bt.frozen 0
   have sl:=hA6.bt.lt
   obtain⟨V7,hV7⟩:∃q,V6.setCell ⟨BT,0,none⟩ (.slice (some ⟨X.heap.size,0,none⟩) 1 1)=q:=⟨_,rfl⟩
   have hA7:AP w BT BC (.slice (some ⟨X.heap.size,0,none⟩) 1 1) [mS] ⟨kind,client,tag,query,page,rows,n0⟩ (.slice au m cu) V7:=by rw[←hV7];exact hA6.setT hT6 (by have:=HA.out.bc.lt;omega)
   have hs7:V7.heap.size=X.heap.size+1:=by rw[←hV7,Deep.nblk_setCell];exact hs6
   have e0:X.cell? ⟨Y.heap.size,0,none⟩=some (.int .i64 0):=HMK.out.box.cell 0 (by simp)
   have e1:X.cell? ⟨Y.heap.size,1,none⟩=some (.string ⟨#[109]⟩):=HMK.out.box.cell 1 (by simp)
   have e2:X.cell? ⟨Y.heap.size,2,none⟩=some (.string ⟨#[]⟩):=HMK.out.box.cell 2 (by simp)
   have e3:X.cell? ⟨Y.heap.size,3,none⟩=some (.int .i64 1):=HMK.out.box.cell 3 (by simp)
   have e4:X.cell? ⟨Y.heap.size,4,none⟩=some (.int .i64 1):=HMK.out.box.cell 4 (by simp)
   have e6:X.cell? ⟨Y.heap.size,6,none⟩=some (.int .i64 0):=HMK.out.box.cell 6 (by simp)
   have HA7:=hide hA7
   have HV6:=hide hV6
   have HV7:=hide hV7
   have HS7:=hide hs7
   have HSY:Hid (BC<Y.heap.size):=HA.out.bc.lt
   have HSYX:Hid (Y.heap.size≤X.heap.size):=HMK.out.bel.size
   clear hb6 hT6 hA6 hs6 hA7 hs7 hV6 hV7 t9
   go_upto_region 16 with(first|rw[HV6.out]|rw[HV7.out])
   (try rw[HV6.out])
   (try rw[HV7.out])
   clear e0 e1 e2 e3 e4 e6 d5 bl1 s0 sf sl
   obtain⟨BM,hBM⟩:∃q,X.heap.size=q:=⟨_,rfl⟩
   rw[hBM] at HA7 HS7 HSYX
   (try rw[hBM])
   clear hBM HV6 HV7
   obtain⟨V8,hV8⟩:∃q,V7.alloc (.cells #[.string ⟨#[120]⟩,.string ⟨#[121]⟩] 9)=q:=⟨_,rfl⟩
   have hb8:Below V7.heap.size V7 V8:=by rw[←hV8];exact alcB _ _
   have HA8:=hide (HA7.out.below hb8)
   have HTK:Hid (∀j,(j=1∨j=2)→RS w.heap.size BT BC V8 (.slice (some ⟨V7.heap.size,0,none⟩) j 2) (([⟨#[120]⟩,⟨#[121]⟩]:List ByteArray).take j)):=fun j hj=>by
    have h1:=HA7.out.lt
    have h2:=HA7.out.ltc
    have h3:=HS7.out
    have h4:=HSY.out
    have h5:=HSYX.out
    refine RS.new (L:=V7.heap.size) ?_ (by omega) (by omega) (by omega)
    rw[←hV8]
    exact two_take V7 _ _ j hj (by decide) (by decide)
   have HV8:=hide hV8
   clear hV8 hb8
   obtain⟨BL,hBL⟩:∃q,V7.heap.size=q:=⟨_,rfl⟩
   rw[hBL] at HTK
   by_cases hx2:x % 2=0
   ·have m2:(x:Int).tmod 2=0:=by rw[Int.tmod_eq_emod_of_nonneg (by omega)];omega
    have n2:(x:Int) % 2=0:=by omega
    have HCC:Hid (apC cs=⟨2,0,⟨#[109]⟩,⟨#[]⟩,0,[⟨#[120]⟩],0⟩):=by
     show _=_
     rw[HCM.out]
     unfold mC
     rw[hx2]
     rfl
    have c0:V8.cell? ⟨BC,0,none⟩=some (.int .i64 kind):=HA8.out.bc.cell 0 (by simp[cgC])
    have c1:V8.cell? ⟨BC,1,none⟩=some (.int .i64 client):=HA8.out.bc.cell 1 (by simp[cgC])
    have c2:V8.cell? ⟨BC,2,none⟩=some (.string tag):=HA8.out.bc.cell 2 (by simp[cgC])
    have c3:V8.cell? ⟨BC,3,none⟩=some (.string query):=HA8.out.bc.cell 3 (by simp[cgC])
    have c4:V8.cell? ⟨BC,4,none⟩=some (.int .i64 page):=HA8.out.bc.cell 4 (by simp[cgC])
    have c5:V8.cell? ⟨BC,5,none⟩=some (.slice au m cu):=HA8.out.bc.cell 5 (by simp[cgC])
    have c6:V8.cell? ⟨BC,6,none⟩=some (.int .i64 n0):=HA8.out.bc.cell 6 (by simp[cgC])
    have f0:=HA8.out.bc.frozen 0
    have f1:=HA8.out.bc.frozen 1
    have f2:=HA8.out.bc.frozen 2
    have f3:=HA8.out.bc.frozen 3
    have f4:=HA8.out.bc.frozen 4
    have f5:=HA8.out.bc.frozen 5
    have f6:=HA8.out.bc.frozen 6
    have sl:=HA8.out.bc.lt
    obtain⟨Z,hZ⟩:∃z,(((((((V8.setCell ⟨BC,0,none⟩ (.int .i64 2)).setCell ⟨BC,1,none⟩ (.int .i64 0)).setCell ⟨BC,2,none⟩ (.string ⟨#[109]⟩)).setCell ⟨BC,3,none⟩ (.string ⟨#[]⟩)).setCell ⟨BC,4,none⟩ (.int .i64 0)).setCell ⟨BC,5,none⟩ (.slice (some ⟨BL,0,none⟩) 1 2)).setCell ⟨BC,6,none⟩ (.int .i64 0))=z:=⟨_,rfl⟩
    have HAZ:Hid (AP w BT BC (.slice (some ⟨BM,0,none⟩) 1 1) [mS] ⟨2,0,⟨#[109]⟩,⟨#[]⟩,0,[⟨#[120]⟩],0⟩ (.slice (some ⟨BL,0,none⟩) 1 2) Z):=by rw[←hZ];exact HA8.out.fillC _ _ _ _ _ _ _ ⟨2,0,⟨#[109]⟩,⟨#[]⟩,0,[⟨#[120]⟩],0⟩ (.slice (some ⟨BL,0,none⟩) 1 2) rfl (HTK.out 1 (by omega))
    have HZ:=hide hZ
    clear hZ hx2 HA
    go_upto_region 17 with(rw[HV8.out])
    (try rw[HV8.out])
    (try rw[hBL])
    (try rw[HZ.out])
    clear c0 c1 c2 c3 c4 c5 c6 f0 f1 f2 f3 f4 f5 f6 sl hBL HA8 HA7 HTK
    obtain⟨a9,ha9⟩:∃q,(some (⟨BM,0,none⟩:Addr))=q:=⟨_,rfl⟩
    have HA:=HAZ
    rw[ha9] at HA
    (try rw[ha9])
    clear ha9 HAZ HZ HV8
    obtain⟨Y,hYZ⟩:∃q,Z=q:=⟨_,rfl⟩
    rw[hYZ] at HA
    rw[hYZ]
    clear hYZ
    have HDA:=hide HA.out
    obtain⟨D,hwd⟩:∃D,Y.drew=D:=⟨_,rfl⟩
    have hD0:Below Y.heap.size Y Y.drew:=(Below.refl _ _).drew
    have hD:Below Y.heap.size Y D:=by rw[←hwd];exact hD0
    have HAD:=hide (HA.out.below hD)
    have KB:Hid (∀X:World,X.heap[BT]?=Y.heap[BT]?→X.heap[BC]?=Y.heap[BC]?→X.cell? ⟨BT,0,none⟩=some (.slice a9 1 1)∧X.cell? ⟨BC,0,none⟩=some (.int .i64 2)∧X.cell? ⟨BC,1,none⟩=some (.int .i64 0)∧X.cell? ⟨BC,2,none⟩=some (.string ⟨#[109]⟩)∧X.cell? ⟨BC,3,none⟩=some (.string ⟨#[]⟩)∧X.cell? ⟨BC,4,none⟩=some (.int .i64 0)∧X.cell? ⟨BC,5,none⟩=some (.slice (some ⟨BL,0,none⟩) 1 2)∧X.cell? ⟨BC,6,none⟩=some (.int .i64 0)):=fun X h1 h2 =>
     ⟨(HA.out.bt.keep h1).cell 0 (by simp),(HA.out.bc.keep h2).cell 0 (by simp[cgC]),(HA.out.bc.keep h2).cell 1 (by simp[cgC]),(HA.out.bc.keep h2).cell 2 (by simp[cgC]),(HA.out.bc.keep h2).cell 3 (by simp[cgC]),(HA.out.bc.keep h2).cell 4 (by simp[cgC]),(HA.out.bc.keep h2).cell 5 (by simp[cgC]),(HA.out.bc.keep h2).cell 6 (by simp[cgC])⟩
    have K1:Hid (∀X,Below Y.heap.size Y X→X.cell? ⟨BT,0,none⟩=some (.slice a9 1 1)∧X.cell? ⟨BC,0,none⟩=some (.int .i64 2)∧X.cell? ⟨BC,1,none⟩=some (.int .i64 0)∧X.cell? ⟨BC,2,none⟩=some (.string ⟨#[109]⟩)∧X.cell? ⟨BC,3,none⟩=some (.string ⟨#[]⟩)∧X.cell? ⟨BC,4,none⟩=some (.int .i64 0)∧X.cell? ⟨BC,5,none⟩=some (.slice (some ⟨BL,0,none⟩) 1 2)∧X.cell? ⟨BC,6,none⟩=some (.int .i64 0)):=fun X h=>KB.out X (h.block BT HA.out.bt.lt) (h.block BC HA.out.bc.lt)
    have K2:Hid (∀x0 X,D.setCell ⟨w.heap.size,0,none⟩ x0=X→X.cell? ⟨BT,0,none⟩=some (.slice a9 1 1)∧X.cell? ⟨BC,0,none⟩=some (.int .i64 2)∧X.cell? ⟨BC,1,none⟩=some (.int .i64 0)∧X.cell? ⟨BC,2,none⟩=some (.string ⟨#[109]⟩)∧X.cell? ⟨BC,3,none⟩=some (.string ⟨#[]⟩)∧X.cell? ⟨BC,4,none⟩=some (.int .i64 0)∧X.cell? ⟨BC,5,none⟩=some (.slice (some ⟨BL,0,none⟩) 1 2)∧X.cell? ⟨BC,6,none⟩=some (.int .i64 0)):=fun x0 X h=>by
     have h1:=HA.out.lt;have h2:=HA.out.ltc
     exact KB.out X (by rw[←h,Deep.blk_setCell_other _ ⟨w.heap.size,0,none⟩ _ BT (by dsimp only;omega)];exact hD.block BT HA.out.bt.lt) (by rw[←h,Deep.blk_setCell_other _ ⟨w.heap.size,0,none⟩ _ BC (by dsimp only;omega)];exact hD.block BC HA.out.bc.lt)
    have K3:Hid (∀x9 x0 x1 x2 x3 x4 x5 x6 X,(((((((D.setCell ⟨w.heap.size,0,none⟩ x9).setCell ⟨w.heap.size+1,0,none⟩ x0).setCell ⟨w.heap.size+1,1,none⟩ x1).setCell ⟨w.heap.size+1,2,none⟩ x2).setCell ⟨w.heap.size+1,3,none⟩ x3).setCell ⟨w.heap.size+1,4,none⟩ x4).setCell ⟨w.heap.size+1,5,none⟩ x5).setCell ⟨w.heap.size+1,6,none⟩ x6=X→X.cell? ⟨BT,0,none⟩=some (.slice a9 1 1)∧X.cell? ⟨BC,0,none⟩=some (.int .i64 2)∧X.cell? ⟨BC,1,none⟩=some (.int .i64 0)∧X.cell? ⟨BC,2,none⟩=some (.string ⟨#[109]⟩)∧X.cell? ⟨BC,3,none⟩=some (.string ⟨#[]⟩)∧X.cell? ⟨BC,4,none⟩=some (.int .i64 0)∧X.cell? ⟨BC,5,none⟩=some (.slice (some ⟨BL,0,none⟩) 1 2)∧X.cell? ⟨BC,6,none⟩=some (.int .i64 0)):=fun x9 x0 x1 x2 x3 x4 x5 x6 X h=>by
     have h1:=HA.out.lt;have h2:=HA.out.ltc
     exact KB.out X (by rw[←h,blk_fill7 _ _ _ _ _ _ _ _ _ BT (by omega),Deep.blk_setCell_other _ ⟨w.heap.size,0,none⟩ _ BT (by dsimp only;omega)];exact hD.block BT HA.out.bt.lt) (by rw[←h,blk_fill7 _ _ _ _ _ _ _ _ _ BC (by omega),Deep.blk_setCell_other _ ⟨w.heap.size,0,none⟩ _ BC (by dsimp only;omega)];exact hD.block BC HA.out.bc.lt)
    have r0:D.cell? ⟨w.heap.size,0,none⟩=some (.slice none 0 0):=HAD.out.resT.cell 0 (by simp)
    have rf:=HAD.out.resT.frozen 0
    have rl:=HAD.out.resT.lt
    have z0:D.cell? ⟨w.heap.size+1,0,none⟩=some (.int .i64 0):=HAD.out.resC.cell 0 (by simp[cgZ])
    have z1:D.cell? ⟨w.heap.size+1,1,none⟩=some (.int .i64 0):=HAD.out.resC.cell 1 (by simp[cgZ])
    have z2:D.cell? ⟨w.heap.size+1,2,none⟩=some (.string ⟨#[]⟩):=HAD.out.resC.cell 2 (by simp[cgZ])
    have z3:D.cell? ⟨w.heap.size+1,3,none⟩=some (.string ⟨#[]⟩):=HAD.out.resC.cell 3 (by simp[cgZ])
    have z4:D.cell? ⟨w.heap.size+1,4,none⟩=some (.int .i64 0):=HAD.out.resC.cell 4 (by simp[cgZ])
    have z5:D.cell? ⟨w.heap.size+1,5,none⟩=some (.slice none 0 0):=HAD.out.resC.cell 5 (by simp[cgZ])
    have z6:D.cell? ⟨w.heap.size+1,6,none⟩=some (.int .i64 0):=HAD.out.resC.cell 6 (by simp[cgZ])
    have y0:=HAD.out.resC.frozen 0
    have y1:=HAD.out.resC.frozen 1
    have y2:=HAD.out.resC.frozen 2
    have y3:=HAD.out.resC.frozen 3
    have y4:=HAD.out.resC.frozen 4
    have y5:=HAD.out.resC.frozen 5
    have y6:=HAD.out.resC.frozen 6
    have zl:=HAD.out.resC.lt
    have HFIN:Hid (SesssAt w.heap.size ((((((((D.setCell ⟨w.heap.size,0,none⟩ (.slice a9 1 1)).setCell ⟨w.heap.size+1,0,none⟩ (.int .i64 2)).setCell ⟨w.heap.size+1,1,none⟩ (.int .i64 0)).setCell ⟨w.heap.size+1,2,none⟩ (.string ⟨#[109]⟩)).setCell ⟨w.heap.size+1,3,none⟩ (.string ⟨#[]⟩)).setCell ⟨w.heap.size+1,4,none⟩ (.int .i64 0)).setCell ⟨w.heap.size+1,5,none⟩ (.slice (some ⟨BL,0,none⟩) 1 2)).setCell ⟨w.heap.size+1,6,none⟩ (.int .i64 0)) (.slice a9 1 1) (apT cs)∧StrsAt w.heap.size ((((((((D.setCell ⟨w.heap.size,0,none⟩ (.slice a9 1 1)).setCell ⟨w.heap.size+1,0,none⟩ (.int .i64 2)).setCell ⟨w.heap.size+1,1,none⟩ (.int .i64 0)).setCell ⟨w.heap.size+1,2,none⟩ (.string ⟨#[109]⟩)).setCell ⟨w.heap.size+1,3,none⟩ (.string ⟨#[]⟩)).setCell ⟨w.heap.size+1,4,none⟩ (.int .i64 0)).setCell ⟨w.heap.size+1,5,none⟩ (.slice (some ⟨BL,0,none⟩) 1 2)).setCell ⟨w.heap.size+1,6,none⟩ (.int .i64 0)) (.slice (some ⟨BL,0,none⟩) 1 2) (apC cs).rows∧Below w.heap.size w ((((((((D.setCell ⟨w.heap.size,0,none⟩ (.slice a9 1 1)).setCell ⟨w.heap.size+1,0,none⟩ (.int .i64 2)).setCell ⟨w.heap.size+1,1,none⟩ (.int .i64 0)).setCell ⟨w.heap.size+1,2,none⟩ (.string ⟨#[109]⟩)).setCell ⟨w.heap.size+1,3,none⟩ (.string ⟨#[]⟩)).setCell ⟨w.heap.size+1,4,none⟩ (.int .i64 0)).setCell ⟨w.heap.size+1,5,none⟩ (.slice (some ⟨BL,0,none⟩) 1 2)).setCell ⟨w.heap.size+1,6,none⟩ (.int .i64 0))):=by
     have hA:Apart w.heap.size BT BC D ((((((((D.setCell ⟨w.heap.size,0,none⟩ (.slice a9 1 1)).setCell ⟨w.heap.size+1,0,none⟩ (.int .i64 2)).setCell ⟨w.heap.size+1,1,none⟩ (.int .i64 0)).setCell ⟨w.heap.size+1,2,none⟩ (.string ⟨#[109]⟩)).setCell ⟨w.heap.size+1,3,none⟩ (.string ⟨#[]⟩)).setCell ⟨w.heap.size+1,4,none⟩ (.int .i64 0)).setCell ⟨w.heap.size+1,5,none⟩ (.slice (some ⟨BL,0,none⟩) 1 2)).setCell ⟨w.heap.size+1,6,none⟩ (.int .i64 0)):=(Apart.set (b:=w.heap.size) (o:=0) (.inr (.inr (by omega))) _).trans (Apart.of (b:=w.heap.size+1) (.inr (.inr (by omega))) (by simp only[Deep.nblk_setCell];exact leR _) fun d hd=>blk_fill7 _ _ _ _ _ _ _ _ _ d hd)
     rw[HTT.out,HCC.out]
     exact⟨At.mono mono_sess (HAD.out.st _ hA) (by omega),At.mono mono_str (HAD.out.sr _ hA) (by omega),Below.fill7 (HAD.out.bel.setCell (p:=⟨w.heap.size,0,none⟩) (leR _) _) (by omega) _ _ _ _ _ _ _⟩
    refine wp_region_two (fun X:World=>X.cell? ⟨BT,0,none⟩=some (.slice a9 1 1)∧X.cell? ⟨BC,0,none⟩=some (.int .i64 2)∧X.cell? ⟨BC,1,none⟩=some (.int .i64 0)∧X.cell? ⟨BC,2,none⟩=some (.string ⟨#[109]⟩)∧X.cell? ⟨BC,3,none⟩=some (.string ⟨#[]⟩)∧X.cell? ⟨BC,4,none⟩=some (.int .i64 0)∧X.cell? ⟨BC,5,none⟩=some (.slice (some ⟨BL,0,none⟩) 1 2)∧X.cell? ⟨BC,6,none⟩=some (.int .i64 0)) 3 (by kernel_rfl) ?_
    rw[hwd]
    have hSd:=K1.out D hD
    refine wpTwo_take (i:=0) (some 82) (v:=?v0_17f) rfl rfl (by kernel_rfl) (by kernel_rfl) (by kernel_rfl) (by kernel_rfl) (fun _ _ _ h=>h) hSd (Or.inl ⟨by rfl,?hy0_17f⟩) ?rest0_17f
    case hy0_17f=>(intro w hSw;(try dsimp only at hSw);go_simp;try with_reducible rfl)
    try simp only[Act.put,List.setIfInBounds_toArray,List.set_cons_zero,List.set_cons_succ]
    refine wpTwo_take (i:=1) (some 83) (v:=?v1_17f) rfl rfl (by kernel_rfl) (by kernel_rfl) (by kernel_rfl) (by kernel_rfl) (fun _ _ _ h=>h) hSd (Or.inl ⟨by rfl,?hy1_17f⟩) ?rest1_17f
    case hy1_17f=>(intro w hSw;(try dsimp only at hSw);go_simp;try with_reducible rfl)
    try simp only[Act.put,List.setIfInBounds_toArray,List.set_cons_zero,List.set_cons_succ]
    refine wpTwo_one (j:=2) (by kernel_rfl) rfl (fun K hK=>?_)
    go_simp
    refine hK.out _ _ (fun _=>K2.out _ _ rfl) ?_
    clear hK K
    try simp only[Act.put,List.setIfInBounds_toArray,List.set_cons_zero,List.set_cons_succ]
    refine wpTwo_one (j:=3) (by kernel_rfl) rfl (fun K hK=>?_)
    go_simp
    refine hK.out _ _ (fun h=>absurd h (by decide)) ?_
    clear hK K
    refine wpTwo_done (by kernel_rfl) ?_ _
    clear hSd
    go_wp2_with fail
    exact bodyPost_ret (v:=.tuple #[.agg #[.slice a9 1 1],chgV ⟨2,0,⟨#[109]⟩,⟨#[]⟩,0,[⟨#[120]⟩],0⟩ (.slice (some ⟨BL,0,none⟩) 1 2)]) (by simp[results,Tryz.results4,go_sem,chgV,r0,rl,z0,z1,z2,z3,z4,z5,z6,zl]) rfl ⟨_,_,by rw[HCC.out],HFIN.out.1,HFIN.out.2.1,HFIN.out.2.2⟩
   have hx2:x % 2=1:=by omega
   have m2:(x:Int).tmod 2=1:=by rw[Int.tmod_eq_emod_of_nonneg (by omega)];omega
   have n2:(x:Int) % 2=1:=by omega
   have HCC:Hid (apC cs=⟨2,0,⟨#[109]⟩,⟨#[]⟩,0,[⟨#[120]⟩,⟨#[121]⟩],0⟩):=by
    show _=_
    rw[HCM.out]
    unfold mC
    rw[hx2]
    rfl
   have c0:V8.cell? ⟨BC,0,none⟩=some (.int .i64 kind):=HA8.out.bc.cell 0 (by simp[cgC])
   have c1:V8.cell? ⟨BC,1,none⟩=some (.int .i64 client):=HA8.out.bc.cell 1 (by simp[cgC])
   have c2:V8.cell? ⟨BC,2,none⟩=some (.string tag):=HA8.out.bc.cell 2 (by simp[cgC])
   have c3:V8.cell? ⟨BC,3,none⟩=some (.string query):=HA8.out.bc.cell 3 (by simp[cgC])
   have c4:V8.cell? ⟨BC,4,none⟩=some (.int .i64 page):=HA8.out.bc.cell 4 (by simp[cgC])
   have c5:V8.cell? ⟨BC,5,none⟩=some (.slice au m cu):=HA8.out.bc.cell 5 (by simp[cgC])
   have c6:V8.cell? ⟨BC,6,none⟩=some (.int .i64 n0):=HA8.out.bc.cell 6 (by simp[cgC])
   have f0:=HA8.out.bc.frozen 0
   have f1:=HA8.out.bc.frozen 1
   have f2:=HA8.out.bc.frozen 2
   have f3:=HA8.out.bc.frozen 3
   have f4:=HA8.out.bc.frozen 4
   have f5:=HA8.out.bc.frozen 5
   have f6:=HA8.out.bc.frozen 6
   have sl:=HA8.out.bc.lt
   obtain⟨Z,hZ⟩:∃z,(((((((V8.setCell ⟨BC,0,none⟩ (.int .i64 2)).setCell ⟨BC,1,none⟩ (.int .i64 0)).setCell ⟨BC,2,none⟩ (.string ⟨#[109]⟩)).setCell ⟨BC,3,none⟩ (.string ⟨#[]⟩)).setCell ⟨BC,4,none⟩ (.int .i64 0)).setCell ⟨BC,5,none⟩ (.slice (some ⟨BL,0,none⟩) 2 2)).setCell ⟨BC,6,none⟩ (.int .i64 0))=z:=⟨_,rfl⟩
   have HAZ:Hid (AP w BT BC (.slice (some ⟨BM,0,none⟩) 1 1) [mS] ⟨2,0,⟨#[109]⟩,⟨#[]⟩,0,[⟨#[120]⟩,⟨#[121]⟩],0⟩ (.slice (some ⟨BL,0,none⟩) 2 2) Z):=by rw[←hZ];exact HA8.out.fillC _ _ _ _ _ _ _ ⟨2,0,⟨#[109]⟩,⟨#[]⟩,0,[⟨#[120]⟩,⟨#[121]⟩],0⟩ (.slice (some ⟨BL,0,none⟩) 2 2) rfl (HTK.out 2 (by omega))
   have HZ:=hide hZ
   clear hZ hx2 HA
   go_upto_region 17 with(rw[HV8.out])
   (try rw[HV8.out])
   (try rw[hBL])
   (try rw[HZ.out])
   clear c0 c1 c2 c3 c4 c5 c6 f0 f1 f2 f3 f4 f5 f6 sl hBL HA8 HA7 HTK
   obtain⟨a9,ha9⟩:∃q,(some (⟨BM,0,none⟩:Addr))=q:=⟨_,rfl⟩
   have HA:=HAZ
   rw[ha9] at HA
   (try rw[ha9])
   clear ha9 HAZ HZ HV8
   obtain⟨Y,hYZ⟩:∃q,Z=q:=⟨_,rfl⟩
   rw[hYZ] at HA
   rw[hYZ]
   clear hYZ
   have HDA:=hide HA.out
   obtain⟨D,hwd⟩:∃D,Y.drew=D:=⟨_,rfl⟩
   have hD0:Below Y.heap.size Y Y.drew:=(Below.refl _ _).drew
   have hD:Below Y.heap.size Y D:=by rw[←hwd];exact hD0
   have HAD:=hide (HA.out.below hD)
   have KB:Hid (∀X:World,X.heap[BT]?=Y.heap[BT]?→X.heap[BC]?=Y.heap[BC]?→X.cell? ⟨BT,0,none⟩=some (.slice a9 1 1)∧X.cell? ⟨BC,0,none⟩=some (.int .i64 2)∧X.cell? ⟨BC,1,none⟩=some (.int .i64 0)∧X.cell? ⟨BC,2,none⟩=some (.string ⟨#[109]⟩)∧X.cell? ⟨BC,3,none⟩=some (.string ⟨#[]⟩)∧X.cell? ⟨BC,4,none⟩=some (.int .i64 0)∧X.cell? ⟨BC,5,none⟩=some (.slice (some ⟨BL,0,none⟩) 2 2)∧X.cell? ⟨BC,6,none⟩=some (.int .i64 0)):=fun X h1 h2 =>
    ⟨(HA.out.bt.keep h1).cell 0 (by simp),(HA.out.bc.keep h2).cell 0 (by simp[cgC]),(HA.out.bc.keep h2).cell 1 (by simp[cgC]),(HA.out.bc.keep h2).cell 2 (by simp[cgC]),(HA.out.bc.keep h2).cell 3 (by simp[cgC]),(HA.out.bc.keep h2).cell 4 (by simp[cgC]),(HA.out.bc.keep h2).cell 5 (by simp[cgC]),(HA.out.bc.keep h2).cell 6 (by simp[cgC])⟩
   have K1:Hid (∀X,Below Y.heap.size Y X→X.cell? ⟨BT,0,none⟩=some (.slice a9 1 1)∧X.cell? ⟨BC,0,none⟩=some (.int .i64 2)∧X.cell? ⟨BC,1,none⟩=some (.int .i64 0)∧X.cell? ⟨BC,2,none⟩=some (.string ⟨#[109]⟩)∧X.cell? ⟨BC,3,none⟩=some (.string ⟨#[]⟩)∧X.cell? ⟨BC,4,none⟩=some (.int .i64 0)∧X.cell? ⟨BC,5,none⟩=some (.slice (some ⟨BL,0,none⟩) 2 2)∧X.cell? ⟨BC,6,none⟩=some (.int .i64 0)):=fun X h=>KB.out X (h.block BT HA.out.bt.lt) (h.block BC HA.out.bc.lt)
   have K2:Hid (∀x0 X,D.setCell ⟨w.heap.size,0,none⟩ x0=X→X.cell? ⟨BT,0,none⟩=some (.slice a9 1 1)∧X.cell? ⟨BC,0,none⟩=some (.int .i64 2)∧X.cell? ⟨BC,1,none⟩=some (.int .i64 0)∧X.cell? ⟨BC,2,none⟩=some (.string ⟨#[109]⟩)∧X.cell? ⟨BC,3,none⟩=some (.string ⟨#[]⟩)∧X.cell? ⟨BC,4,none⟩=some (.int .i64 0)∧X.cell? ⟨BC,5,none⟩=some (.slice (some ⟨BL,0,none⟩) 2 2)∧X.cell? ⟨BC,6,none⟩=some (.int .i64 0)):=fun x0 X h=>by
    have h1:=HA.out.lt;have h2:=HA.out.ltc
    exact KB.out X (by rw[←h,Deep.blk_setCell_other _ ⟨w.heap.size,0,none⟩ _ BT (by dsimp only;omega)];exact hD.block BT HA.out.bt.lt) (by rw[←h,Deep.blk_setCell_other _ ⟨w.heap.size,0,none⟩ _ BC (by dsimp only;omega)];exact hD.block BC HA.out.bc.lt)
   have K3:Hid (∀x9 x0 x1 x2 x3 x4 x5 x6 X,(((((((D.setCell ⟨w.heap.size,0,none⟩ x9).setCell ⟨w.heap.size+1,0,none⟩ x0).setCell ⟨w.heap.size+1,1,none⟩ x1).setCell ⟨w.heap.size+1,2,none⟩ x2).setCell ⟨w.heap.size+1,3,none⟩ x3).setCell ⟨w.heap.size+1,4,none⟩ x4).setCell ⟨w.heap.size+1,5,none⟩ x5).setCell ⟨w.heap.size+1,6,none⟩ x6=X→X.cell? ⟨BT,0,none⟩=some (.slice a9 1 1)∧X.cell? ⟨BC,0,none⟩=some (.int .i64 2)∧X.cell? ⟨BC,1,none⟩=some (.int .i64 0)∧X.cell? ⟨BC,2,none⟩=some (.string ⟨#[109]⟩)∧X.cell? ⟨BC,3,none⟩=some (.string ⟨#[]⟩)∧X.cell? ⟨BC,4,none⟩=some (.int .i64 0)∧X.cell? ⟨BC,5,none⟩=some (.slice (some ⟨BL,0,none⟩) 2 2)∧X.cell? ⟨BC,6,none⟩=some (.int .i64 0)):=fun x9 x0 x1 x2 x3 x4 x5 x6 X h=>by
    have h1:=HA.out.lt;have h2:=HA.out.ltc
    exact KB.out X (by rw[←h,blk_fill7 _ _ _ _ _ _ _ _ _ BT (by omega),Deep.blk_setCell_other _ ⟨w.heap.size,0,none⟩ _ BT (by dsimp only;omega)];exact hD.block BT HA.out.bt.lt) (by rw[←h,blk_fill7 _ _ _ _ _ _ _ _ _ BC (by omega),Deep.blk_setCell_other _ ⟨w.heap.size,0,none⟩ _ BC (by dsimp only;omega)];exact hD.block BC HA.out.bc.lt)
   have r0:D.cell? ⟨w.heap.size,0,none⟩=some (.slice none 0 0):=HAD.out.resT.cell 0 (by simp)
   have rf:=HAD.out.resT.frozen 0
   have rl:=HAD.out.resT.lt
   have z0:D.cell? ⟨w.heap.size+1,0,none⟩=some (.int .i64 0):=HAD.out.resC.cell 0 (by simp[cgZ])
   have z1:D.cell? ⟨w.heap.size+1,1,none⟩=some (.int .i64 0):=HAD.out.resC.cell 1 (by simp[cgZ])
   have z2:D.cell? ⟨w.heap.size+1,2,none⟩=some (.string ⟨#[]⟩):=HAD.out.resC.cell 2 (by simp[cgZ])
   have z3:D.cell? ⟨w.heap.size+1,3,none⟩=some (.string ⟨#[]⟩):=HAD.out.resC.cell 3 (by simp[cgZ])
   have z4:D.cell? ⟨w.heap.size+1,4,none⟩=some (.int .i64 0):=HAD.out.resC.cell 4 (by simp[cgZ])
   have z5:D.cell? ⟨w.heap.size+1,5,none⟩=some (.slice none 0 0):=HAD.out.resC.cell 5 (by simp[cgZ])
   have z6:D.cell? ⟨w.heap.size+1,6,none⟩=some (.int .i64 0):=HAD.out.resC.cell 6 (by simp[cgZ])
   have y0:=HAD.out.resC.frozen 0
   have y1:=HAD.out.resC.frozen 1
   have y2:=HAD.out.resC.frozen 2
   have y3:=HAD.out.resC.frozen 3
   have y4:=HAD.out.resC.frozen 4
   have y5:=HAD.out.resC.frozen 5
   have y6:=HAD.out.resC.frozen 6
   have zl:=HAD.out.resC.lt
   have HFIN:Hid (SesssAt w.heap.size ((((((((D.setCell ⟨w.heap.size,0,none⟩ (.slice a9 1 1)).setCell ⟨w.heap.size+1,0,none⟩ (.int .i64 2)).setCell ⟨w.heap.size+1,1,none⟩ (.int .i64 0)).setCell ⟨w.heap.size+1,2,none⟩ (.string ⟨#[109]⟩)).setCell ⟨w.heap.size+1,3,none⟩ (.string ⟨#[]⟩)).setCell ⟨w.heap.size+1,4,none⟩ (.int .i64 0)).setCell ⟨w.heap.size+1,5,none⟩ (.slice (some ⟨BL,0,none⟩) 2 2)).setCell ⟨w.heap.size+1,6,none⟩ (.int .i64 0)) (.slice a9 1 1) (apT cs)∧StrsAt w.heap.size ((((((((D.setCell ⟨w.heap.size,0,none⟩ (.slice a9 1 1)).setCell ⟨w.heap.size+1,0,none⟩ (.int .i64 2)).setCell ⟨w.heap.size+1,1,none⟩ (.int .i64 0)).setCell ⟨w.heap.size+1,2,none⟩ (.string ⟨#[109]⟩)).setCell ⟨w.heap.size+1,3,none⟩ (.string ⟨#[]⟩)).setCell ⟨w.heap.size+1,4,none⟩ (.int .i64 0)).setCell ⟨w.heap.size+1,5,none⟩ (.slice (some ⟨BL,0,none⟩) 2 2)).setCell ⟨w.heap.size+1,6,none⟩ (.int .i64 0)) (.slice (some ⟨BL,0,none⟩) 2 2) (apC cs).rows∧Below w.heap.size w ((((((((D.setCell ⟨w.heap.size,0,none⟩ (.slice a9 1 1)).setCell ⟨w.heap.size+1,0,none⟩ (.int .i64 2)).setCell ⟨w.heap.size+1,1,none⟩ (.int .i64 0)).setCell ⟨w.heap.size+1,2,none⟩ (.string ⟨#[109]⟩)).setCell ⟨w.heap.size+1,3,none⟩ (.string ⟨#[]⟩)).setCell ⟨w.heap.size+1,4,none⟩ (.int .i64 0)).setCell ⟨w.heap.size+1,5,none⟩ (.slice (some ⟨BL,0,none⟩) 2 2)).setCell ⟨w.heap.size+1,6,none⟩ (.int .i64 0))):=by
    have hA:Apart w.heap.size BT BC D ((((((((D.setCell ⟨w.heap.size,0,none⟩ (.slice a9 1 1)).setCell ⟨w.heap.size+1,0,none⟩ (.int .i64 2)).setCell ⟨w.heap.size+1,1,none⟩ (.int .i64 0)).setCell ⟨w.heap.size+1,2,none⟩ (.string ⟨#[109]⟩)).setCell ⟨w.heap.size+1,3,none⟩ (.string ⟨#[]⟩)).setCell ⟨w.heap.size+1,4,none⟩ (.int .i64 0)).setCell ⟨w.heap.size+1,5,none⟩ (.slice (some ⟨BL,0,none⟩) 2 2)).setCell ⟨w.heap.size+1,6,none⟩ (.int .i64 0)):=(Apart.set (b:=w.heap.size) (o:=0) (.inr (.inr (by omega))) _).trans (Apart.of (b:=w.heap.size+1) (.inr (.inr (by omega))) (by simp only[Deep.nblk_setCell];exact leR _) fun d hd=>blk_fill7 _ _ _ _ _ _ _ _ _ d hd)
    rw[HTT.out,HCC.out]
    exact⟨At.mono mono_sess (HAD.out.st _ hA) (by omega),At.mono mono_str (HAD.out.sr _ hA) (by omega),Below.fill7 (HAD.out.bel.setCell (p:=⟨w.heap.size,0,none⟩) (leR _) _) (by omega) _ _ _ _ _ _ _⟩
   refine wp_region_two (fun X:World=>X.cell? ⟨BT,0,none⟩=some (.slice a9 1 1)∧X.cell? ⟨BC,0,none⟩=some (.int .i64 2)∧X.cell? ⟨BC,1,none⟩=some (.int .i64 0)∧X.cell? ⟨BC,2,none⟩=some (.string ⟨#[109]⟩)∧X.cell? ⟨BC,3,none⟩=some (.string ⟨#[]⟩)∧X.cell? ⟨BC,4,none⟩=some (.int .i64 0)∧X.cell? ⟨BC,5,none⟩=some (.slice (some ⟨BL,0,none⟩) 2 2)∧X.cell? ⟨BC,6,none⟩=some (.int .i64 0)) 3 (by kernel_rfl) ?_
   rw[hwd]
   have hSd:=K1.out D hD
   refine wpTwo_take (i:=0) (some 82) (v:=?v0_17g) rfl rfl (by kernel_rfl) (by kernel_rfl) (by kernel_rfl) (by kernel_rfl) (fun _ _ _ h=>h) hSd (Or.inl ⟨by rfl,?hy0_17g⟩) ?rest0_17g
   case hy0_17g=>(intro w hSw;(try dsimp only at hSw);go_simp;try with_reducible rfl)
   try simp only[Act.put,List.setIfInBounds_toArray,List.set_cons_zero,List.set_cons_succ]
   refine wpTwo_take (i:=1) (some 83) (v:=?v1_17g) rfl rfl (by kernel_rfl) (by kernel_rfl) (by kernel_rfl) (by kernel_rfl) (fun _ _ _ h=>h) hSd (Or.inl ⟨by rfl,?hy1_17g⟩) ?rest1_17g
   case hy1_17g=>(intro w hSw;(try dsimp only at hSw);go_simp;try with_reducible rfl)
   try simp only[Act.put,List.setIfInBounds_toArray,List.set_cons_zero,List.set_cons_succ]
   refine wpTwo_one (j:=2) (by kernel_rfl) rfl (fun K hK=>?_)
   go_simp
   refine hK.out _ _ (fun _=>K2.out _ _ rfl) ?_
   clear hK K
   try simp only[Act.put,List.setIfInBounds_toArray,List.set_cons_zero,List.set_cons_succ]
   refine wpTwo_one (j:=3) (by kernel_rfl) rfl (fun K hK=>?_)
   go_simp
   refine hK.out _ _ (fun h=>absurd h (by decide)) ?_
   clear hK K
   refine wpTwo_done (by kernel_rfl) ?_ _
   clear hSd
   go_wp2_with fail
   exact bodyPost_ret (v:=.tuple #[.agg #[.slice a9 1 1],chgV ⟨2,0,⟨#[109]⟩,⟨#[]⟩,0,[⟨#[120]⟩,⟨#[121]⟩],0⟩ (.slice (some ⟨BL,0,none⟩) 2 2)]) (by simp[results,Tryz.results4,go_sem,chgV,r0,rl,z0,z1,z2,z3,z4,z5,z6,zl]) rfl ⟨_,_,by rw[HCC.out],HFIN.out.1,HFIN.out.2.1,HFIN.out.2.2⟩
end Go.Proofs.YtglcdcekkglmiaaGreatDoor.Msg
