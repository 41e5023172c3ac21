import Derived.Test.YtglcdcekkglmiaaGreatDoorG33
namespace Go.Proofs.YtglcdcekkglmiaaGreatDoor.Msg
open Go.ChangeShapes Go.WideShapes Go.ChangeAt Go.RowKit
set_option linter.unusedVariables false
set_option linter.unusedSimpArgs false
def decR (o:Option Chg):Chg × Bool:=match o with
 | some c=>(c,true)
 | none=>(zeroC,false)
theorem decI_results {tmps:Array Value} {b:Nat} {W:World} {k0 k1 k4 k6:Int} {t2 t3:ByteArray} {ad:Option Addr} {ln cp:Nat} {x:Bool} (h2:tmps[2]?=some (.pointer (some ⟨b,0,none⟩))) (h3:tmps[3]?=some (.bool x))
  (s:W.cell? ⟨b,0,none⟩=some (.int .i64 k0)∧W.cell? ⟨b,1,none⟩=some (.int .i64 k1)∧W.cell? ⟨b,2,none⟩=some (.string t2)∧W.cell? ⟨b,3,none⟩=some (.string t3)∧W.cell? ⟨b,4,none⟩=some (.int .i64 k4)∧W.cell? ⟨b,5,none⟩=some (.slice ad ln cp)∧W.cell? ⟨b,6,none⟩=some (.int .i64 k6)) :
  (results Tryz.f9 tmps).run Tryz.prog W=.ok (.tuple #[.agg #[.int .i64 k0,.int .i64 k1,.string t2,.string t3,.int .i64 k4,.slice ad ln cp,.int .i64 k6],.bool x]) W:=by
 obtain⟨s0,s1,s2,s3,s4,s5,s6⟩:=s
 simp[results,Tryz.results9,go_sem,h2,h3,s0,s1,s2,s3,s4,s5,s6]
theorem OChg.strs {base:Nat} {w:World} {c:Chg} {u:Value} (h:OChg base w c u):StrsAt base w u c.rows:=by
 obtain⟨bs,h1,_,h2⟩:=h
 exact OAt.toAt toAt_str h1 h2
theorem OChg.form {base:Nat} {w:World} {c:Chg} {u:Value} (h:OChg base w c u):∃a cap,u=.slice a c.rows.length cap:=by
 obtain⟨a,cap,e,_⟩:=h.strs.form
 exact⟨a,cap,e⟩
theorem OChg.keep {base:Nat} {w w':World} {c:Chg} {u:Value} (h:OChg base w c u) (hb:Below w.heap.size w w'):OChg base w' c u:=by
 obtain⟨bs,h1,h2,h3⟩:=h
 exact⟨bs,OAt.kept keptO_str h1 hb.size (fun d hd=>hb.block d (OAt.lt ltO_str h1 d hd)),h2,h3⟩
theorem OChg.set {base:Nat} {w:World} {c:Chg} {u:Value} (h:OChg base w c u) {b o:Nat} (hb:b<base) (v:Value):OChg base (w.setCell ⟨b,o,none⟩ v) c u:=by
 obtain⟨bs,h1,h2,h3⟩:=h
 exact⟨bs,OAt.kept keptO_str h1 (by rw[Deep.nblk_setCell];exact leR _) (fun d hd=>Deep.blk_setCell_other _ ⟨b,o,none⟩ _ d (by have:=h3 d hd;dsimp only;omega)),h2,h3⟩
theorem OChg.mono {base base':Nat} {w:World} {c:Chg} {u:Value} (h:OChg base w c u) (hb:base'≤base):OChg base' w c u:=by
 obtain⟨bs,h1,h2,h3⟩:=h
 exact⟨bs,h1,h2,fun b hb'=>Nat.le_trans hb (h3 b hb')⟩
theorem OChg.zero (base:Nat) (w:World):OChg base w zeroC (.slice none 0 0):=⟨[],⟨by simp[zeroC],.inl ⟨none,0,rfl,rfl,rfl⟩⟩,by simp,by simp⟩
theorem Env.tabW {w:World} (h:Env w):TabW w:=h.tab
theorem loose_size (ps:List (List UInt8)) (h:∀q∈ps,q.length≤1048576):(looseI ps).tag.size≤1048576∧(looseI ps).query.size≤1048576:=by
 refine⟨atL_size h 2,?_⟩
 show (if _ then _ else _:ByteArray).size≤_
 split
 ·exact atL_size h 3
 ·exact zrL _
set_option maxRecDepth 100000 in
set_option maxHeartbeats 4000000 in
theorem decI_any (s:ByteArray) (w:World) (hs:s.size≤1048576) (hE:Env w) (hM:Mx w) :
  Calls Tryz.prog 9 #[.string s] w fun e w'=>∃u,e=.returned (.tuple #[chgV (decR (decI s)).1 u,.bool (decR (decI s)).2])∧OChg w.heap.size w' (decR (decI s)).1 u∧Below w.heap.size w w':=by
 obtain⟨x0,hx0⟩:∃x0,w.alloc (Obj.cells #[.int .i64 0,.int .i64 0,.string ⟨#[]⟩,.string ⟨#[]⟩,.int .i64 0,.slice none 0 0,.int .i64 0] 28)=x0:=⟨_,rfl⟩
 have b0:Below w.heap.size w x0:=by rw[←hx0];exact alcB _ _
 have s0:x0.heap.size=w.heap.size+1:=by rw[←hx0];simp
 have KZ:Hid (∀X,Below x0.heap.size x0 X→X.cell? ⟨w.heap.size,0,none⟩=some (.int .i64 0)∧X.cell? ⟨w.heap.size,1,none⟩=some (.int .i64 0)∧X.cell? ⟨w.heap.size,2,none⟩=some (.string ⟨#[]⟩)∧X.cell? ⟨w.heap.size,3,none⟩=some (.string ⟨#[]⟩)∧X.cell? ⟨w.heap.size,4,none⟩=some (.int .i64 0)∧X.cell? ⟨w.heap.size,5,none⟩=some (.slice none 0 0)∧X.cell? ⟨w.heap.size,6,none⟩=some (.int .i64 0)∧X.frozen? ⟨w.heap.size,0,none⟩=false∧X.frozen? ⟨w.heap.size,1,none⟩=false∧X.frozen? ⟨w.heap.size,2,none⟩=false∧X.frozen? ⟨w.heap.size,3,none⟩=false∧X.frozen? ⟨w.heap.size,4,none⟩=false∧X.frozen? ⟨w.heap.size,5,none⟩=false∧X.frozen? ⟨w.heap.size,6,none⟩=false∧w.heap.size<X.heap.size):=fun X h=>keep7 (by rw[hx0];exact h)
 have HX0:=hide hx0
 have HB0:=hide b0
 have HS0:=hide s0
 have hsl:s.data.toList.length=s.size:=by simp
 by_cases hz:s.size=0
 ·have HD:Hid (decI s=none):=by show _=_;unfold decI;rw[if_pos (.inl hz)]
  obtain⟨e1,e2,e3⟩:=empty_yes hz
  rw[HD.out]
  obtain⟨z0,z1,z2,z3,z4,z5,z6,y0,y1,y2,y3,y4,y5,y6,hzw⟩:=KZ.out x0 (Below.refl _ _)
  clear hx0 b0 s0 hz e1 hsl hE hM
  go_enter Tryz.func9,Tryz.ntmps9
  go_wp2_with fail
  rw[HX0.out]
  exact bodyPost_ret (v:=.tuple #[.agg #[.int .i64 0,.int .i64 0,.string ⟨#[]⟩,.string ⟨#[]⟩,.int .i64 0,.slice none 0 0,.int .i64 0],.bool false]) (decI_results rfl rfl ⟨z0,z1,z2,z3,z4,z5,z6⟩) rfl ⟨.slice none 0 0,rfl,OChg.zero _ _,HB0.out⟩
 obtain⟨e1,e2,e3⟩:=empty_no hz
 by_cases hbig:(60000:Int)<(s.size:Int)
 ·have HD:Hid (decI s=none):=by show _=_;unfold decI;rw[if_pos (.inr (by omega))]
  rw[HD.out]
  obtain⟨z0,z1,z2,z3,z4,z5,z6,y0,y1,y2,y3,y4,y5,y6,hzw⟩:=KZ.out x0 (Below.refl _ _)
  clear hx0 b0 s0 hz e1 hsl hE hM
  go_enter Tryz.func9,Tryz.ntmps9
  go_wp2_with fail
  rw[HX0.out]
  exact bodyPost_ret (v:=.tuple #[.agg #[.int .i64 0,.int .i64 0,.string ⟨#[]⟩,.string ⟨#[]⟩,.int .i64 0,.slice none 0 0,.int .i64 0],.bool false]) (decI_results rfl rfl ⟨z0,z1,z2,z3,z4,z5,z6⟩) rfl ⟨.slice none 0 0,rfl,OChg.zero _ _,HB0.out⟩
 have HD:Hid (decI s=if encB (looseI (cutL 10 s.data.toList))=s then some (looseI (cutL 10 s.data.toList)) else none):=by show _=_;unfold decI;rw[if_neg (by omega)]
 have HCUT:Hid (Calls Tryz.prog 34 #[.string s,.int .u8 10] x0 fun e w'=>∃u,e=.returned u∧SBuf x0.heap.size w' u ((cutL 10 s.data.toList).map txt)∧Below x0.heap.size x0 w'):=implCut_any s 10 x0 hs (hM.kept b0)
 have hp0:=cutL_pos 10 s.data.toList
 have hpn:=cutL_len 10 s.data.toList
 have hpz:=cutL_sz 10 s.data.toList
 obtain⟨ps,hps⟩:∃ps,cutL 10 s.data.toList=ps:=⟨_,rfl⟩
 rw[hps] at HD HCUT hp0 hpn hpz
 have hpz':∀q∈ps,q.length≤1048576:=fun q hq=>by have:=hpz q hq;omega
 have HLO:=hide (fun u W hS hE=>loose_any ps u W (base:=x0.heap.size) hp0 (by omega) hpz' hS hE)
 have hls:=loose_size ps hpz'
 obtain⟨C,hC⟩:∃C,looseI ps=C:=⟨_,rfl⟩
 rw[hC] at HD HLO hls
 have HEN:=hide (fun u W (lo:Nat) hv hT=>encI_any C u W (lo:=lo) hls.1 hls.2 hv hT)
 obtain⟨E,hEE⟩:∃E,encB C=E:=⟨_,rfl⟩
 rw[hEE] at HD HEN
 have HE:=hide hE
 clear hE hM hC hEE hps hp0 hpn hpz hpz' hls hx0 b0 s0 hsl hz e1
 obtain⟨kind,client,tag,query,page,rows,n⟩:=C
 unfold chgV at HLO HEN
 dsimp only at HLO HEN
 by_cases heq:E=s
 ·subst heq
  have HDD:Hid (decI E=some ⟨kind,client,tag,query,page,rows,n⟩):=by show _=_;rw[HD.out,if_pos rfl]
  rw[HDD.out]
  go_enter Tryz.func9,Tryz.ntmps9
  go_wp2_with fail
  rw[HX0.out]
  refine HCUT.out.mono ?_
  rintro e v1 ⟨u1,rfl,hS1,hb1⟩
  go_wp2_with fail
  refine(HLO.out u1 v1 hS1 (HE.out.kept (bjoin hb1 HB0.out))).mono ?_
  rintro e v2 ⟨u2,rfl,hO2,hb2⟩
  obtain⟨a2,cap2,rfl⟩:=hO2.form
  have b02:=bjoin hb2 hb1
  obtain⟨V3,hV3⟩:∃V3,v2.alloc (Obj.cells #[.int .i64 kind,.int .i64 client,.string tag,.string query,.int .i64 page,.slice a2 rows.length cap2,.int .i64 n] 28)=V3:=⟨_,rfl⟩
  have b23:Below v2.heap.size v2 V3:=by rw[←hV3];exact alcB _ _
  have HV3:=hide hV3
  have HO2:=hide hO2
  have HB02:=hide b02
  have HB23:=hide b23
  clear hS1 hb1 hb2 hO2 b02 b23 hV3
  go_wp2_with fail
  rw[HV3.out]
  refine(HEN.out _ V3 _ (At.kept kept_str HO2.out.strs HB23.out) (HE.out.tabW.kept (bjoin (bjoin HB23.out HB02.out) HB0.out))).mono ?_
  rintro e v4 ⟨rfl,hb4⟩
  have b04:Below x0.heap.size x0 v4:=bjoin hb4 (bjoin HB23.out HB02.out)
  obtain⟨z0,z1,z2,z3,z4,z5,z6,y0,y1,y2,y3,y4,y5,y6,hzw⟩:=KZ.out v4 b04
  have hb4':=hb4
  rw[←HV3.out] at hb4'
  obtain⟨o0,o1,o2,o3,o4,o5,o6,p0,p1,p2,p3,p4,p5,p6,hz4⟩:=keep7 hb4'
  have HO4:=hide (HO2.out.keep (bjoin hb4 HB23.out))
  have HB04:=hide b04
  have hne:¬w.heap.size=v2.heap.size:=by have h1:=HB02.out.size;have h2:=HS0.out;omega
  have hne2:¬v2.heap.size=w.heap.size:=fun h=>hne h.symm
  clear hb4 hb4' b04
  go_wp2_with fail
  refine bodyPost_ret (v:=.tuple #[.agg #[.int .i64 kind,.int .i64 client,.string tag,.string query,.int .i64 page,.slice a2 rows.length cap2,.int .i64 n],.bool true]) (decI_results rfl rfl (set7 (fun i hi=>?_) _ _ _ _ _ _ _ _ _)) rfl ⟨.slice a2 rows.length cap2,rfl,?_,?_⟩
  ·match i,hi with
   | 0,_=>exact⟨_,z0⟩
   | 1,_=>exact⟨_,z1⟩
   | 2,_=>exact⟨_,z2⟩
   | 3,_=>exact⟨_,z3⟩
   | 4,_=>exact⟨_,z4⟩
   | 5,_=>exact⟨_,z5⟩
   | 6,_=>exact⟨_,z6⟩
  ·have hlt:w.heap.size<x0.heap.size:=by have:=HS0.out;omega
   refine OChg.mono (base:=x0.heap.size) ?_ (Nat.le_of_lt hlt)
   iterate 7 refine OChg.set ?_ hlt _
   exact HO4.out
  ·iterate 7 refine Below.setCell ?_ (by dsimp only;exact leR _) _
   exact bjoin HB04.out HB0.out
 ·have hbe:(E.toList == s.toList)=false:=by
   rw[beq_eq_false_iff_ne]
   intro h
   apply heq
   rw[ByteArray.toList_eq,ByteArray.toList_eq] at h
   have:=congrArg txt h
   rwa [txt_of,txt_of] at this
  have hbe2:(E.toList != s.toList)=true:=by rw[bne,hbe];rfl
  have HDD:Hid (decI s=none):=by show _=_;rw[HD.out,if_neg heq]
  rw[HDD.out]
  clear heq
  go_enter Tryz.func9,Tryz.ntmps9
  go_wp2_with fail
  rw[HX0.out]
  refine HCUT.out.mono ?_
  rintro e v1 ⟨u1,rfl,hS1,hb1⟩
  go_wp2_with fail
  refine(HLO.out u1 v1 hS1 (HE.out.kept (bjoin hb1 HB0.out))).mono ?_
  rintro e v2 ⟨u2,rfl,hO2,hb2⟩
  obtain⟨a2,cap2,rfl⟩:=hO2.form
  have b02:=bjoin hb2 hb1
  obtain⟨V3,hV3⟩:∃V3,v2.alloc (Obj.cells #[.int .i64 kind,.int .i64 client,.string tag,.string query,.int .i64 page,.slice a2 rows.length cap2,.int .i64 n] 28)=V3:=⟨_,rfl⟩
  have b23:Below v2.heap.size v2 V3:=by rw[←hV3];exact alcB _ _
  have HV3:=hide hV3
  have HO2:=hide hO2
  have HB02:=hide b02
  have HB23:=hide b23
  clear hS1 hb1 hb2 hO2 b02 b23 hV3
  go_wp2_with fail
  rw[HV3.out]
  refine(HEN.out _ V3 _ (At.kept kept_str HO2.out.strs HB23.out) (HE.out.tabW.kept (bjoin (bjoin HB23.out HB02.out) HB0.out))).mono ?_
  rintro e v4 ⟨rfl,hb4⟩
  have b04:Below x0.heap.size x0 v4:=bjoin hb4 (bjoin HB23.out HB02.out)
  obtain⟨z0,z1,z2,z3,z4,z5,z6,y0,y1,y2,y3,y4,y5,y6,hzw⟩:=KZ.out v4 b04
  have HB04:=hide b04
  clear hb4 b04
  go_wp2_with fail
  refine bodyPost_ret (v:=.tuple #[.agg #[.int .i64 0,.int .i64 0,.string ⟨#[]⟩,.string ⟨#[]⟩,.int .i64 0,.slice none 0 0,.int .i64 0],.bool false]) (decI_results rfl rfl (set7 (fun i hi=>?_) _ _ _ _ _ _ _ _ _)) rfl ⟨.slice none 0 0,rfl,OChg.zero _ _,?_⟩
  ·match i,hi with
   | 0,_=>exact⟨_,z0⟩
   | 1,_=>exact⟨_,z1⟩
   | 2,_=>exact⟨_,z2⟩
   | 3,_=>exact⟨_,z3⟩
   | 4,_=>exact⟨_,z4⟩
   | 5,_=>exact⟨_,z5⟩
   | 6,_=>exact⟨_,z6⟩
  ·iterate 7 refine Below.setCell ?_ (by dsimp only;exact leR _) _
   exact bjoin HB04.out HB0.out
end Go.Proofs.YtglcdcekkglmiaaGreatDoor.Msg
