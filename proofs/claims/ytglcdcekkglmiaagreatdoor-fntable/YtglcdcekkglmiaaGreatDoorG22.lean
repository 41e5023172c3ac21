import Derived.Test.YtglcdcekkglmiaaGreatDoorG21
import Derived.Deep.LoopGhost
import Derived.Deep.DeepCutAuto
namespace Go.Proofs.YtglcdcekkglmiaaGreatDoor.Msg
open Go.ChangeShapes Go.WideShapes Go.ChangeAt Go.RowKit
set_option linter.unusedVariables false
set_option linter.unusedSimpArgs false
def ApPost (w:World) (R:List Sess × Int) (e:Ending) (w':World):Prop:=∃t,e=.returned (.tuple #[.agg #[t],.int .i64 R.2])∧(∃qs,TE (w.heap.size+3) w' t qs∧qs.map Prod.fst=R.1)∧Below w.heap.size w w'
set_option maxRecDepth 100000 in
set_option maxHeartbeats 32000000 in
theorem applyS_any (xs:List Sess) (v:Value) (c:Chg) (au:Option Addr) (nu cu:Nat) (w:World) {lo lo2:Nat} (hv:SesssAt lo w v xs) (hc1:c.tag.size≤9223372036854775807) (hc2:c.query.size≤9223372036854775807) (hr:StrsAt lo2 w (.slice au nu cu) c.rows) :
  Calls Tryz.prog 5 #[.agg #[v],chgV c (.slice au nu cu)] w (ApPost w (applyP xs c)):=by
 obtain⟨R,hR⟩:∃R,applyP xs c=R:=⟨_,rfl⟩
 rw[hR]
 unfold applyP at hR
 have HR:=hide hR
 have HOP:=hide (fun W (h:Below w.heap.size w W) (hn:xs.length≤16) (hsm:∀s∈xs,SmS s)=>openS_any xs v c au nu cu W (At.kept kept_sess hv h) hn hsm hc1 hc2)
 have HCK:=hide (fun W (h:Below w.heap.size w W)=>changeOk_any c (.slice au nu cu) W hc1 hc2 (At.kept kept_str hr h))
 have HTK:=hide (fun W (h:Below w.heap.size w W)=>tableOk_any xs v W (At.kept kept_sess hv h))
 have HSM:=hide (fun h:tblB xs=true=>tbl_sm h)
 have HKD:=hide (fun h:chgB c=true=>chg_kinds h)
 have HCR:=hide (fun h:chgB c=true=>chg_rows h)
 have HRW:=hide hr
 have HST:=hide (fun s=>(rfl:stepS s c=stepS s c))
 obtain⟨st,hst⟩:∃f:Sess→Except Int Sess,∀s,stepS s c=f s:=⟨fun s=>stepS s c,fun _=>rfl⟩
 have hrl:nu=c.rows.length:=by obtain⟨_,_,e,_⟩:=At.form hr;injection e
 have HNU:=hide hrl
 have HSTE:=hide hst
 have HV:=hide hv
 obtain⟨chb,hchb⟩:∃b,chgB c=b:=⟨_,rfl⟩
 rw[hchb] at HR HCK HKD HCR
 obtain⟨tb,htb⟩:∃b,tblB xs=b:=⟨_,rfl⟩
 rw[htb] at HR HTK HSM
 have HSTEP:=hide (fun s=>hst s)
 obtain⟨kind,client,tag,query,page,rows,n0⟩:=c
 unfold chgV at HOP HCK ⊢
 dsimp only at HR HOP HCK HKD HCR HRW HNU ⊢
 obtain⟨a,cap,rfl,_⟩:=At.form hv
 obtain⟨n,hnn⟩:∃n,xs.length=n:=⟨_,rfl⟩
 have HN:=hide hnn
 rw[hnn] at HOP HTK ⊢
 have HCP:=hide (fun W (h:Below w.heap.size w W) (hn:xs.length≤1000) (hsm:∀s∈xs,SmS s)=>copyTbl_any xs (.slice a xs.length cap) W (At.kept kept_sess HV.out h) hn hsm)
 rw[hnn] at HCP
 obtain⟨x3,hx3⟩:∃x,((w.alloc (Obj.cells #[.slice a n cap] 25)).alloc (Obj.cells #[.int .i64 kind,.int .i64 client,.string tag,.string query,.int .i64 page,.slice au nu cu,.int .i64 n0] 28)).alloc (Obj.cells #[.slice none 0 0] 25)=x:=⟨_,rfl⟩
 have s3:x3.heap.size=w.heap.size+3:=by rw[←hx3];simp
 have HO3:Hid (Box x3 w.heap.size 25 #[.slice a n cap]∧Box x3 (w.heap.size+1) 28 #[.int .i64 kind,.int .i64 client,.string tag,.string query,.int .i64 page,.slice au nu cu,.int .i64 n0]∧Box x3 (w.heap.size+2) 25 #[.slice none 0 0]∧Below w.heap.size w x3):=by
  rw[←hx3]
  refine⟨((Box.new w _ _).alloc _).alloc _,?_,?_,?_⟩
  ·have:=(Box.new (w.alloc (Obj.cells #[.slice a n cap] 25)) 28 #[.int .i64 kind,.int .i64 client,.string tag,.string query,.int .i64 page,.slice au nu cu,.int .i64 n0]).alloc (Obj.cells #[.slice none 0 0] 25)
   rw[Deep.nblk_alloc] at this
   exact this
  ·have:=Box.new ((w.alloc (Obj.cells #[.slice a n cap] 25)).alloc (Obj.cells #[.int .i64 kind,.int .i64 client,.string tag,.string query,.int .i64 page,.slice au nu cu,.int .i64 n0] 28)) 25 #[.slice none 0 0]
   rw[Deep.nblk_alloc,Deep.nblk_alloc] at this
   exact this
  ·have h1:=(Below.refl w.heap.size w).alloc (leR _) (Obj.cells #[.slice a n cap] 25)
   have h2:=h1.alloc h1.size (Obj.cells #[.int .i64 kind,.int .i64 client,.string tag,.string query,.int .i64 page,.slice au nu cu,.int .i64 n0] 28)
   exact h2.alloc h2.size _
 have HX3:=hide hx3
 have HS3:=hide s3
 obtain⟨cv,hcv⟩:∃x:Array Value,#[.int .i64 kind,.int .i64 client,.string tag,.string query,.int .i64 page,.slice au nu cu,.int .i64 n0]=x:=⟨_,rfl⟩
 have HCV:Hid (∀X,Box X (w.heap.size+1) 28 cv→X.cell? ⟨w.heap.size+1,0,none⟩=some (.int .i64 kind)∧X.cell? ⟨w.heap.size+1,1,none⟩=some (.int .i64 client)∧X.cell? ⟨w.heap.size+1,2,none⟩=some (.string tag)∧X.cell? ⟨w.heap.size+1,3,none⟩=some (.string query)∧X.cell? ⟨w.heap.size+1,4,none⟩=some (.int .i64 page)∧X.cell? ⟨w.heap.size+1,5,none⟩=some (.slice au nu cu)∧X.cell? ⟨w.heap.size+1,6,none⟩=some (.int .i64 n0)):=fun X h=>by
  rw[←hcv] at h
  exact⟨h.cell 0 (by simp),h.cell 1 (by simp),h.cell 2 (by simp),h.cell 3 (by simp),h.cell 4 (by simp),h.cell 5 (by simp),h.cell 6 (by simp)⟩
 rw[hcv] at HO3
 have HTA:=hide (HTK.out x3 HO3.out.2.2.2)
 clear hv hnn hx3 s3 hcv hc1 hc2 hR hr hrl hst hchb htb
 go_enter Tryz.func5,Tryz.ntmps5
 go_wp2_with fail
 (try rw[HX3.out])
 refine HTA.out.mono ?_
 rintro e W1 ⟨rfl,hb1⟩
 have HB1:=hide (bjoin hb1 HO3.out.2.2.2)
 have HOA:=hide (HO3.out.1.below hb1)
 have HOC:=hide (HO3.out.2.1.below hb1)
 have HOR:=hide (HO3.out.2.2.1.below hb1)
 have HS1:Hid (w.heap.size+3≤W1.heap.size):=by have:=hb1.size;have:=HS3.out;show _≤_;omega
 clear hb1
 cases tb
 ·have HRE:Hid (R=([],9)):=by have:=HR.out;rw[if_neg (by simp)] at this;exact this.symm
  have r0:W1.cell? ⟨w.heap.size+2,0,none⟩=some (.slice none 0 0):=HOR.out.cell 0 (by simp)
  have rf:W1.frozen? ⟨w.heap.size+2,0,none⟩=false:=HOR.out.frozen 0
  have rl:w.heap.size+2<W1.heap.size:=HOR.out.lt
  have HBF:=hide (fun x=>HB1.out.setCell (p:=⟨w.heap.size+2,0,none⟩) (by simp) x)
  go_wp2_with fail
  exact bodyPost_ret (v:=.tuple #[.agg #[.slice none 0 0],.int .i64 9]) (by simp[results,Tryz.results5,go_sem,r0,rl]) rfl ⟨_,by rw[HRE.out],⟨[],TE.nil _ _,by rw[HRE.out];rfl⟩,HBF.out _⟩
 obtain⟨hx16,hsm⟩:=HSM.out rfl
 obtain⟨q0,q1,q2,q3,q4,q5,q6⟩:=HCV.out W1 HOC.out
 have HCA:=hide (HCK.out W1 HB1.out)
 go_wp2_with fail
 refine HCA.out.mono ?_
 rintro e W2 ⟨rfl,hb2⟩
 have HB2:=hide (bjoin hb2 HB1.out)
 have HOA2:=hide (HOA.out.below hb2)
 have HOC2:=hide (HOC.out.below hb2)
 have HOR2:=hide (HOR.out.below hb2)
 have HS2:Hid (w.heap.size+3≤W2.heap.size):=by have:=hb2.size;have:=HS1.out;show _≤_;omega
 clear hb2 q0 q1 q2 q3 q4 q5 q6
 cases chb
 ·have HRE:Hid (R=([],9)):=by have:=HR.out;rw[if_neg (by simp)] at this;exact this.symm
  have r0:W2.cell? ⟨w.heap.size+2,0,none⟩=some (.slice none 0 0):=HOR2.out.cell 0 (by simp)
  have rf:W2.frozen? ⟨w.heap.size+2,0,none⟩=false:=HOR2.out.frozen 0
  have rl:w.heap.size+2<W2.heap.size:=HOR2.out.lt
  have HBF:=hide (fun x=>HB2.out.setCell (p:=⟨w.heap.size+2,0,none⟩) (by simp) x)
  go_wp2_with fail
  exact bodyPost_ret (v:=.tuple #[.agg #[.slice none 0 0],.int .i64 9]) (by simp[results,Tryz.results5,go_sem,r0,rl]) rfl ⟨_,by rw[HRE.out],⟨[],TE.nil _ _,by rw[HRE.out];rfl⟩,HBF.out _⟩
 have hkd:=HKD.out rfl
 obtain⟨hcr1,hcr2⟩:=HCR.out rfl
 have HR2:Hid ((if kind=1 then openP xs ⟨kind,client,tag,query,page,rows,n0⟩ else match xs.findIdx? (keyB client tag) with
   | some i=>atP xs i (stepS (xs.getD i sess0) ⟨kind,client,tag,query,page,rows,n0⟩)
   | none=>(xs,3))=R):=by have:=HR.out;rw[if_pos (by simp)] at this;exact this
 obtain⟨q0,q1,q2,q3,q4,q5,q6⟩:=HCV.out W2 HOC2.out
 have a0:W2.cell? ⟨w.heap.size,0,none⟩=some (.slice a n cap):=HOA2.out.cell 0 (by simp)
 have HX16:=hide hx16
 have HSMM:=hide hsm
 have HCR2:=hide hcr2
 clear hsm hx16 hcr2
 by_cases hk1:kind=1
 ·have HRE:Hid (openP xs ⟨kind,client,tag,query,page,rows,n0⟩=R):=by have:=HR2.out;rw[if_pos hk1] at this;exact this
  have HOPN:=hide (HOP.out W2 HB2.out (by rw[←HN.out];exact HX16.out) HSMM.out)
  rw[HRE.out] at HOPN
  have hk1b:(kind == 1)=true:=by simpa using hk1
  clear hkd hk1
  go_wp2_with fail
  refine HOPN.out.mono ?_
  rintro e Z ⟨t,rfl,⟨qs,hT,hmap⟩,hb⟩
  obtain⟨at_,ct,rfl,_⟩:=hT.form
  obtain⟨mt,hmt⟩:∃m,qs.length=m:=⟨_,rfl⟩
  rw[hmt] at hT ⊢
  have hOR:=HOR2.out.below hb
  have z0:Z.cell? ⟨w.heap.size+2,0,none⟩=some (.slice none 0 0):=hOR.cell 0 (by simp)
  have zf:Z.frozen? ⟨w.heap.size+2,0,none⟩=false:=hOR.frozen 0
  have zl:w.heap.size+2<Z.heap.size:=hOR.lt
  have HFE:Hid (∀x,TE (w.heap.size+3) (Z.setCell ⟨w.heap.size+2,0,none⟩ x) (.slice at_ mt ct) qs∧Below w.heap.size w (Z.setCell ⟨w.heap.size+2,0,none⟩ x)):=fun x=>⟨(hT.setBox hOR x).low (by have:=HS2.out;omega),(bjoin hb HB2.out).setCell (p:=⟨w.heap.size+2,0,none⟩) (by simp) x⟩
  have HMP:=hide hmap
  clear hT hOR hb q0 q1 q2 q3 q4 q5 q6 a0 hmt hmap
  go_wp2_with fail
  exact bodyPost_ret (v:=.tuple #[.agg #[.slice at_ mt ct],.int .i64 R.2]) (by simp[results,Tryz.results5,go_sem,z0,zl]) rfl ⟨_,rfl,⟨qs,(HFE.out _).1,HMP.out⟩,(HFE.out _).2⟩
 have hk1b:(kind == 1)=false:=by simpa using hk1
 have HR3:Hid ((match xs.findIdx? (keyB client tag) with
   | some i=>atP xs i (stepS (xs.getD i sess0) ⟨kind,client,tag,query,page,rows,n0⟩)
   | none=>(xs,3))=R):=by have:=HR2.out;rw[if_neg hk1] at this;exact this
 have HCPA:=hide (HCP.out W2 HB2.out (by have:=HX16.out;have:=HN.out;omega) HSMM.out)
 go_wp2_with fail
 refine HCPA.out.mono ?_
 rintro e W3 ⟨t1,rfl,⟨ps,hTB⟩,hb3⟩
 obtain⟨hTE,hmap⟩:=hTB.te
 obtain⟨a1,c1,rfl,_⟩:=hTE.form
 have hpl:ps.length=n:=by rw[←HN.out,←hmap,List.length_map]
 rw[hpl] at hTE ⊢
 obtain⟨X4,hX4⟩:∃x,W3.alloc (Obj.cells #[.slice a1 n c1] 25)=x:=⟨_,rfl⟩
 have b4:Below W3.heap.size W3 X4:=by rw[←hX4];exact alcB _ _
 obtain⟨B,hBe⟩:∃B,W3.heap.size=B:=⟨_,rfl⟩
 have HOB4:Hid (OB w B (.slice a n cap) (.slice a1 n c1) cv X4):=by
  have hb:=bjoin b4 hb3
  refine⟨HOA2.out.below hb,HOC2.out.below hb,HOR2.out.below hb,by rw[←hX4,←hBe];exact Box.new _ _ _,bjoin hb HB2.out,?_⟩
  have:=hb3.size
  have:=HS2.out
  omega
 have HTE4:Hid (TE (w.heap.size+3) X4 (.slice a1 n c1) ps):=(hTE.below b4).low (by have:=HS2.out;omega)
 have HMAP:=hide hmap
 have HPL:=hide hpl
 clear hTB hTE hb3 b4 hmap hpl q0 q1 q2 q3 q4 q5 q6 a0
 go_upto_region 6 with fail
 (try rw[hX4])
 (try rw[hBe])
 clear hX4 hBe
 obtain⟨_,o0,_,_,_,_,_⟩:=HOB4.out.cells
 obtain⟨q0,q1,q2,_,_,_,_⟩:=HCV.out X4 HOB4.out.chg
 have HAT:=hide (l5At_any xs (.slice a1 n c1) client tag X4 (lo:=w.heap.size+3) (by have:=HTE4.out.sesss (by rw[HPL.out,←HN.out];have:=HX16.out;omega);rw[HMAP.out] at this;exact this))
 go_wp2_with fail
 refine HAT.out.mono ?_
 rintro e W4 ⟨rfl,hb4⟩
 have HOB:=hide (HOB4.out.below hb4)
 have HTE:=hide (HTE4.out.below hb4)
 clear hb4 o0 q0 q1 q2 HOB4 HTE4
 have hn16:n≤16:=by rw[←HN.out];exact HX16.out
 have HCASE:Hid (∃o,xs.findIdx? (keyB client tag)=o):=⟨_,rfl⟩
 obtain⟨o,ho⟩:=HCASE.out
 cases o with
 | none =>
  have hpl:=place_no ho
  rw[ho] at HR3
  rw[hpl]
  dsimp only at HR3
  have HRE:Hid (R=(xs,3)):=HR3.out.symm
  obtain⟨_,o0,of,ol,r0,rf,rl⟩:=HOB.out.cells
  have HFE:Hid (∀x,TE (w.heap.size+3) (W4.setCell ⟨w.heap.size+2,0,none⟩ x) (.slice a1 n c1) ps∧Below w.heap.size w (W4.setCell ⟨w.heap.size+2,0,none⟩ x)):=fun x=>⟨HTE.out.setBox HOB.out.res x,HOB.out.bel.setCell (p:=⟨w.heap.size+2,0,none⟩) (by simp) x⟩
  clear hpl ho
  go_wp2_with fail
  exact bodyPost_ret (v:=.tuple #[.agg #[.slice a1 n c1],.int .i64 3]) (by simp[results,Tryz.results5,go_sem,r0,rl]) rfl ⟨_,by rw[HRE.out],⟨ps,(HFE.out _).1,by rw[HMAP.out,HRE.out]⟩,(HFE.out _).2⟩
 | some i =>
  obtain⟨hpl,hil⟩:=place_some ho
  rw[ho] at HR3
  rw[hpl]
  dsimp only at HR3
  have hip:i<ps.length:=by rw[HPL.out,←HN.out];exact hil
  obtain⟨g,off,rfl⟩:=te_some HTE.out (by rw[HPL.out];omega) i hip
  obtain rfl:=HTE.out.row.off0
  obtain⟨hbl,g0,g1,g2,g3,g4,g5,g6⟩:=HTE.out.cells (by rw[HPL.out];omega) i hip
  rw[Nat.zero_add] at g0 g1 g2 g3 g4 g5 g6
  obtain⟨⟨s,u⟩,hpk⟩:∃p,ps[i]=p:=⟨_,rfl⟩
  obtain⟨hss,hFs⟩:=HTE.out.els ps[i] (List.getElem_mem hip)
  rw[hpk] at g0 g1 g2 g3 g4 g5 g6 hss hFs
  dsimp only at g0 g1 g2 g3 g4 g5 g6 hss hFs
  obtain⟨ar,cr,rfl,_⟩:=hFs.form
  have hgd:xs.getD i sess0=s:=by rw[←HMAP.out,map_getD ps i hip,hpk]
  rw[hgd] at HR3
  have hin:(i:Int)<(n:Int):=by have:=HN.out;omega
  have hi0:¬(i:Int)<0:=by omega
  have hi00:(0:Int)≤(i:Int):=by omega
  obtain⟨sc,stag,sq,sp,sst,srows,scur⟩:=s
  dsimp only at g0 g1 g2 g3 g4 g5 g6 hss hFs
  obtain⟨nr,hnr⟩:∃m,srows.length=m:=⟨_,rfl⟩
  rw[hnr] at g5 hFs hpk
  have hnr2:nr≤100000:=by rw[←hnr];exact hss.2.2.1
  have HNR:=hide hnr
  have HSS:=hide hss
  have HFS:=hide hFs
  have HPK:=hide hpk
  have HIP:=hide hip
  obtain⟨X5,hX5⟩:∃x,W4.alloc (Obj.cells #[.int .i64 sc,.string stag,.string sq,.int .i64 sp,.int .i64 sst,.slice ar nr cr,.int .i64 scur] 41)=x:=⟨_,rfl⟩
  have b5:Below W4.heap.size W4 X5:=by rw[←hX5];exact alcB _ _
  have HBX5:Hid (Box X5 W4.heap.size 41 #[.int .i64 sc,.string stag,.string sq,.int .i64 sp,.int .i64 sst,.slice ar nr cr,.int .i64 scur]):=by rw[←hX5];exact Box.new _ _ _
  have HB5:=hide b5
  have HOB5:=hide (HOB.out.below b5)
  have HTE5:=hide (HTE.out.below b5)
  have HX5:=hide hX5
  obtain⟨_,o0,_,_,_,_,_⟩:=HOB.out.cells
  clear hpl ho hgd hss hFs hpk hnr b5 hX5
  go_upto_region 10 with fail
  (try rw[HX5.out])
  clear g0 g1 g2 g3 g4 g5 g6 o0
  obtain⟨_,o0,of,ol,r0,rf,rl⟩:=HOB5.out.cells
  obtain⟨q0,q1,q2,q3,q4,q5,q6⟩:=HCV.out X5 HOB5.out.chg
  have d0:X5.cell? ⟨W4.heap.size,0,none⟩=some (.int .i64 sc):=HBX5.out.cell 0 (by simp)
  have d1:X5.cell? ⟨W4.heap.size,1,none⟩=some (.string stag):=HBX5.out.cell 1 (by simp)
  have d2:X5.cell? ⟨W4.heap.size,2,none⟩=some (.string sq):=HBX5.out.cell 2 (by simp)
  have d3:X5.cell? ⟨W4.heap.size,3,none⟩=some (.int .i64 sp):=HBX5.out.cell 3 (by simp)
  have d4:X5.cell? ⟨W4.heap.size,4,none⟩=some (.int .i64 sst):=HBX5.out.cell 4 (by simp)
  have d5:X5.cell? ⟨W4.heap.size,5,none⟩=some (.slice ar nr cr):=HBX5.out.cell 5 (by simp)
  have d6:X5.cell? ⟨W4.heap.size,6,none⟩=some (.int .i64 scur):=HBX5.out.cell 6 (by simp)
  have e0:=HBX5.out.frozen 0
  have e1:=HBX5.out.frozen 1
  have e2:=HBX5.out.frozen 2
  have e3:=HBX5.out.frozen 3
  have e4:=HBX5.out.frozen 4
  have e5:=HBX5.out.frozen 5
  have e6:=HBX5.out.frozen 6
  have el:W4.heap.size<X5.heap.size:=HBX5.out.lt
  have HFE:Hid (∀x,TE (w.heap.size+3) (X5.setCell ⟨w.heap.size+2,0,none⟩ x) (.slice (some ⟨g,0,none⟩) n c1) ps∧Below w.heap.size w (X5.setCell ⟨w.heap.size+2,0,none⟩ x)):=fun x=>⟨HTE5.out.setBox HOB5.out.res x,HOB5.out.bel.setCell (p:=⟨w.heap.size+2,0,none⟩) (by simp) x⟩
  have HEND:Hid (∀(Z:World) (s':Sess) (u':Value),Below W4.heap.size W4 Z→SmS s'→FB tC 1 9 (w.heap.size+3) Z u' s'.rows→(∀b,u'.ownBlock=some b→(Value.slice ar nr cr).ownBlock=some b∨W4.heap.size≤b)→TE (w.heap.size+3) (put7 Z g (i * 7) s' u') (.slice (some ⟨g,0,none⟩) n c1) (ps.set i (s',u'))∧OB w B (.slice a n cap) (.slice (some ⟨g,0,none⟩) n c1) cv (put7 Z g (i * 7) s' u')∧(g<Z.heap.size∧(∀j,j<7→∃c,Z.cell? ⟨g,i * 7+j,none⟩=some c)∧∀j,Z.frozen? ⟨g,j,none⟩=false)):=fun Z s' u' hb hs' hF hu=>by
   have hOZ:=HOB.out.below hb
   have hTZ:=HTE.out.below hb
   refine⟨HTE.out.put HIP.out s' u' hs' hb.size (fun b h1 _=>hb.block b h1) hF (fun b hb'=>by rw[HPK.out];exact hu b hb') rfl,hOZ.only (put7_only _ _ _ _ _) (fun b hm=>?_),row7 hTZ.row (by rw[HPL.out];omega) i HIP.out⟩
   rw[List.mem_singleton.1 hm]
   exact⟨(HTE.out.row.own g (by simp[Value.ownBlock])).1,fun e=>HTE.out.apart HOB.out.out (by decide) (by decide) (.inl (by rw[←e];rfl))⟩
  rcases hkd with hkd|hkd|hkd|hkd|hkd|hkd
  ·exact absurd hkd hk1
  ·subst hkd
   clear hk1 hk1b
   have hnu2:nu≤200:=by rw[HNU.out];exact hcr1
   by_cases h1:sst=1
   ·subst h1
    by_cases h2:200<nr+nu
    ·have h2i:(nr:Int)+(nu:Int) > 200:=by omega
     have HRE:Hid (R=(xs,4)):=by have:=HR3.out;unfold stepS at this;rw[if_pos rfl,if_pos rfl,if_pos (by have:=HNR.out;have:=HNU.out;dsimp only at *;omega)] at this;exact this.symm
     go_wp2_with fail
     exact bodyPost_ret (v:=.tuple #[.agg #[.slice (some ⟨g,0,none⟩) n c1],.int .i64 4]) (by simp[results,Tryz.results5,go_sem,r0,rl]) rfl ⟨_,by rw[HRE.out],⟨ps,(HFE.out _).1,by rw[HMAP.out,HRE.out]⟩,(HFE.out _).2⟩
    ·have h2i:¬(nr:Int)+(nu:Int) > 200:=by omega
     have HUO:Hid (∀b,b∈(Value.slice ar nr cr).ownBlock.toList++[W4.heap.size]→w.heap.size+3≤b∧b≠B):=fun b hb=>by
      have hl:=HOB.out.lt
      have hl2:=HOB.out.out.lt
      rcases List.mem_append.1 hb with hb|hb
      ·refine⟨(HFS.out.own b hb).1,fun e=>HTE.out.apart HOB.out.out (by decide) (by decide) (.inr ⟨_,List.getElem_mem HIP.out,?_⟩)⟩
       rw[HPK.out,←e]
       simpa using hb
      ·rw[List.mem_singleton.1 hb]
       exact⟨by omega,by omega⟩
     go_wp2_with fail
     go_loopg [9] nu (fun q ii wr=>∃(k nq:Nat) (aq:Option Addr) (cq:Nat),k≤nu∧q=nu - k∧ii=.int .i64 (k:Int)∧nq=nr+k∧Box wr W4.heap.size 41 #[.int .i64 sc,.string stag,.string sq,.int .i64 sp,.int .i64 1,.slice aq nq cq,.int .i64 scur]∧FB tC 1 9 (w.heap.size+3) wr (.slice aq nq cq) (srows++rows.take k)∧Only ((Value.slice ar nr cr).ownBlock.toList++[W4.heap.size]) X5 wr∧∀b,(Value.slice aq nq cq).ownBlock=some b→(Value.slice ar nr cr).ownBlock=some b∨X5.heap.size≤b)
     case atStart=>exact⟨0,nr,ar,cr,zrL _,rfl,rfl,rfl,HBX5.out,by rw[List.take_zero,List.append_nil];exact HFS.out.below HB5.out,Only.refl _ _,fun b hb=>.inl hb⟩
     case round =>
      obtain⟨k,nq,aq,cq,hk,rfl,rfl,hnq,hBX,hF,hO,hw⟩:=hrel
      obtain⟨Y,rfl⟩:∃x,x=wr:=⟨_,rfl⟩
      have HBY:=hide hBX
      have HFY:=hide hF
      have HOY:=hide hO
      have HWY:=hide hw
      have HNQ:=hide hnq
      have hOB:=HOB5.out.only hO HUO.out
      have HOBY:=hide hOB
      clear hnq hBX hF hO hw o0 of ol r0 rf rl q0 q1 q2 q3 q4 q5 q6 d0 d1 d2 d3 d4 d5 d6 e0 e1 e2 e3 e4 e5 e6 el
      obtain⟨q0,q1,q2,q3,q4,q5,q6⟩:=HCV.out Y hOB.chg
      clear hOB
      by_cases hlt:k<nu
      ·have hki:(k:Int)<(nu:Int):=by omega
       have hk0:(0:Int)≤(k:Int):=by omega
       have hkl:k<rows.length:=by rw[←HNU.out];exact hlt
       obtain⟨a9,c9,ea,hel⟩:=At.form HRW.out
       injection ea with ea1 eaN ea3
       clear eaN
       subst ea1 ea3
       obtain⟨b,off,rfl,_,hbw,hcell,hz⟩:=hel k hkl
       obtain⟨t,ht⟩:∃t,rows[k]=t:=⟨_,rfl⟩
       rw[ht] at hcell hz
       have hcw:w.cell? ⟨b,off+k,none⟩=some (.string t):=by simpa using hcell
       have HTKK:Hid (srows++rows.take (k+1)=(srows++rows.take k)++[t]):=by show _=_;rw[List.take_succ_eq_append_getElem hkl,ht,List.append_assoc]
       have KS:Hid (∀U,Box U W4.heap.size 41 #[.int .i64 sc,.string stag,.string sq,.int .i64 sp,.int .i64 1,.slice aq nq cq,.int .i64 scur]→OB w B (.slice a n cap) (.slice (some ⟨g,0,none⟩) n c1) cv U→(fun U:World=>U.cell? ⟨W4.heap.size,5,none⟩=some (.slice aq nq cq)∧U.cell? ⟨w.heap.size+1,5,none⟩=some (.slice (some ⟨b,off,none⟩) nu cu)∧U.cell? ⟨b,off+k,none⟩=some (.string t)) U):=fun U h1 h2=>⟨h1.cell 5 (by simp),(HCV.out U h2.chg).2.2.2.2.2.1,(h2.bel.cell (p:=⟨b,off+k,none⟩) hbw).trans hcw⟩
       obtain⟨D,hDe⟩:∃D,Y.drew=D:=⟨_,rfl⟩
       have hD:Below Y.heap.size Y D:=by rw[←hDe];exact(Below.refl _ _).drew
       have hBD:=HBY.out.below hD
       have hOD:=HOBY.out.below hD
       have hFD:=HFY.out.below hD
       have hSd:(fun U:World=>U.cell? ⟨W4.heap.size,5,none⟩=some (.slice aq nq cq)∧U.cell? ⟨w.heap.size+1,5,none⟩=some (.slice (some ⟨b,off,none⟩) nu cu)∧U.cell? ⟨b,off+k,none⟩=some (.string t)) D:=KS.out D hBD hOD
       have hlen:(srows++rows.take k).length=nq:=by rw[List.length_append,List.length_take,HNR.out,HNQ.out];omega
       obtain⟨a8,c8,w8,hr8',hF8,ho8,hv8⟩:=row_more (C:=tC) (c:=1) (bytes:=16) (e:=9) Tryz.underlying26 tinfo rfl (by decide) hFD t rfl (fun z hz'=>by rw[List.mem_singleton.1 hz'];rfl) (by have:=hOD.out.lt;have:=hOD.lt;omega) hlen (by have:=HNQ.out;omega) (by decide)
       have hr8:(Builtin.append_ #[26,26] 26 #[.slice aq nq cq,.slice (some ⟨D.heap.size,0,none⟩) 1 1]).run Tryz.prog (D.alloc (.cells #[.string t] 9))=.ok (.slice a8 (nq+1) c8) w8:=hr8'
       have hne:∀d∈(Value.slice aq nq cq).ownBlock.toList,w.heap.size+3≤d∧d≠B∧d≠W4.heap.size:=fun d hd=>by
        obtain⟨cs,hcs⟩:=hFD.blk (b:=d) (by simpa using hd)
        refine⟨(hFD.own d hd).1,fun e=>?_,fun e=>?_⟩
        ·have hx:D.heap[B]?=some (.cells _ 25 (0,0)):=hOD.out
         rw[←e,hcs] at hx
         injection hx with hx
         injection hx with _ hx _
         exact absurd hx (by decide)
        ·have hx:D.heap[W4.heap.size]?=some (.cells _ 41 (0,0)):=hBD
         rw[←e,hcs] at hx
         injection hx with hx
         injection hx with _ hx _
         exact absurd hx (by decide)
       have hBA:=hBD.alloc (.cells #[.string t] 9)
       have hOA:=hOD.below ((Below.refl _ _).alloc (leR _) (Obj.cells #[.string t] 9))
       have hB8:=hBD.only ho8 (fun hm=>(hne _ hm).2.2 rfl)
       have hO8:=hOD.only ho8 (fun d hd=>⟨(hne d hd).1,(hne d hd).2.1⟩)
       have h8n:∀d∈(Value.slice a8 (nq+1) c8).ownBlock.toList,d≠W4.heap.size:=fun d hd e=>by
        obtain⟨cs,hcs⟩:=hF8.blk (b:=d) (by simpa using hd)
        have hx:w8.heap[W4.heap.size]?=some (.cells _ 41 (0,0)):=hB8
        rw[←e,hcs] at hx
        injection hx with hx
        injection hx with _ hx _
        exact absurd hx (by decide)
       have HB9:Hid (Box (w8.setCell ⟨W4.heap.size,5,none⟩ (.slice a8 (nq+1) c8)) W4.heap.size 41 #[.int .i64 sc,.string stag,.string sq,.int .i64 sp,.int .i64 1,.slice a8 (nq+1) c8,.int .i64 scur]):=hide (by have:=hB8.set 5 (.slice a8 (nq+1) c8);simpa using this)
       have HF9:Hid (FB tC 1 9 (w.heap.size+3) (w8.setCell ⟨W4.heap.size,5,none⟩ (.slice a8 (nq+1) c8)) (.slice a8 (nq+1) c8) (srows++rows.take (k+1))):=by
        rw[HTKK.out]
        exact hF8.keep fun d hd=>Deep.blk_setCell_other _ ⟨W4.heap.size,5,none⟩ _ d (by dsimp only;exact h8n d hd)
       have HO9:Hid (Only ((Value.slice ar nr cr).ownBlock.toList++[W4.heap.size]) X5 (w8.setCell ⟨W4.heap.size,5,none⟩ (.slice a8 (nq+1) c8))):=by
        have h1:=HOY.out
        have h2:Only ((Value.slice ar nr cr).ownBlock.toList++[W4.heap.size]) X5 w8:=⟨ho8.os.trans (hD.os.trans h1.os),ho8.tape.trans (hD.tape.trans h1.tape),ho8.output.trans (hD.output.trans h1.output),Nat.le_trans h1.size (Nat.le_trans hD.size ho8.size),fun d hd hn=>by
         have hdY:d<Y.heap.size:=Nat.lt_of_lt_of_le hd h1.size
         rw[ho8.block d (Nat.lt_of_lt_of_le hdY hD.size) (fun hm=>by
          rcases HWY.out d (by simpa using hm) with e|e
          ·exact hn (List.mem_append.2 (.inl (by rw[e];simp)))
          ·omega),hD.block d hdY]
         exact h1.block d hd hn⟩
        exact h2.setCell (by simp) _
       have HW9:Hid (∀d,(Value.slice a8 (nq+1) c8).ownBlock=some d→(Value.slice ar nr cr).ownBlock=some d∨X5.heap.size≤d):=fun d hd=>by
        rcases hv8 d hd with e|e
        ·exact HWY.out d e
        ·have:=HOY.out.size;have:=hD.size;exact .inr (by omega)
       have m0:w8.cell? ⟨W4.heap.size,5,none⟩=some (.slice aq nq cq):=hB8.cell 5 (by simp)
       have mf:w8.frozen? ⟨W4.heap.size,5,none⟩=false:=hB8.frozen 5
       have ml:W4.heap.size<w8.heap.size:=hB8.lt
       clear hcell hz ht hel hF8 ho8 hv8 hne h8n hr8' hlen hFD hkl
       go_upto_region 20 with fail
       refine wp_region_two (fun U:World=>U.cell? ⟨W4.heap.size,5,none⟩=some (.slice aq nq cq)∧U.cell? ⟨w.heap.size+1,5,none⟩=some (.slice (some ⟨b,off,none⟩) nu cu)∧U.cell? ⟨b,off+k,none⟩=some (.string t)) 9 (by kernel_rfl) ?_
       rw[hDe]
       clear hDe
       refine wpTwo_take (i:=0) (some 119) (v:=?v0_20) rfl rfl (by kernel_rfl) (by kernel_rfl) (by kernel_rfl) (by kernel_rfl) (fun _ _ _ h=>h) hSd (Or.inl ⟨by rfl,?hy0_20⟩) ?rest0_20
       case hy0_20=>(intro w hSw;(try dsimp only at hSw);go_simp;try with_reducible rfl)
       try simp only[Act.put,List.setIfInBounds_toArray,List.set_cons_zero,List.set_cons_succ]
       refine wpTwo_take (i:=1) (some 120) (v:=?v1_20) rfl rfl (by kernel_rfl) (by kernel_rfl) (by kernel_rfl) (by kernel_rfl) (fun _ _ _ h=>h) hSd (Or.inl ⟨by rfl,?hy1_20⟩) ?rest1_20
       case hy1_20=>(intro w hSw;(try dsimp only at hSw);go_simp;try with_reducible rfl)
       try simp only[Act.put,List.setIfInBounds_toArray,List.set_cons_zero,List.set_cons_succ]
       refine wpTwo_take (i:=2) (some 121) (v:=?v2_20) rfl rfl (by kernel_rfl) (by kernel_rfl) (by kernel_rfl) (by kernel_rfl) (fun _ _ _ h=>h) hSd (Or.inl ⟨by rfl,?hy2_20⟩) ?rest2_20
       case hy2_20=>(intro w hSw;(try dsimp only at hSw);go_simp;try with_reducible rfl)
       try simp only[Act.put,List.setIfInBounds_toArray,List.set_cons_zero,List.set_cons_succ]
       refine wpTwo_take (i:=3) (some 122) (v:=?v3_20) rfl rfl (by kernel_rfl) (by kernel_rfl) (by kernel_rfl) (by kernel_rfl) (fun _ _ _ h=>h) hSd (Or.inl ⟨by rfl,?hy3_20⟩) ?rest3_20
       case hy3_20=>(intro w hSw;(try dsimp only at hSw);go_simp;try with_reducible rfl)
       try simp only[Act.put,List.setIfInBounds_toArray,List.set_cons_zero,List.set_cons_succ]
       refine wpTwo_take (i:=4) (some 123) (v:=?v4_20) rfl rfl (by kernel_rfl) (by kernel_rfl) (by kernel_rfl) (by kernel_rfl) (fun _ _ _ h=>h) hSd (Or.inl ⟨by rfl,?hy4_20⟩) ?rest4_20
       case hy4_20=>(intro w hSw;(try dsimp only at hSw);go_simp;try with_reducible rfl)
       try simp only[Act.put,List.setIfInBounds_toArray,List.set_cons_zero,List.set_cons_succ]
       refine wpTwo_take (i:=5) (some 124) (v:=?v5_20) rfl rfl (by kernel_rfl) (by kernel_rfl) (by kernel_rfl) (by kernel_rfl) (fun _ _ _ h=>h) hSd (Or.inl ⟨by rfl,?hy5_20⟩) ?rest5_20
       case hy5_20=>(intro w hSw;(try dsimp only at hSw);go_simp;try with_reducible rfl)
       try simp only[Act.put,List.setIfInBounds_toArray,List.set_cons_zero,List.set_cons_succ]
       refine wpTwo_take (i:=6) (some 125) (v:=?v6_20) rfl rfl (by kernel_rfl) (by kernel_rfl) (by kernel_rfl) (by kernel_rfl) (fun _ _ _ h=>h) hSd (Or.inl ⟨by rfl,?hy6_20⟩) ?rest6_20
       case hy6_20=>(intro w hSw;(try dsimp only at hSw);go_simp;try with_reducible rfl)
       try simp only[Act.put,List.setIfInBounds_toArray,List.set_cons_zero,List.set_cons_succ]
       refine wpTwo_one (j:=7) (by kernel_rfl) rfl (fun K hK=>?_)
       go_simp
       refine hK.out _ _ (fun _=>KS.out _ hBA hOA) ?_
       clear hK K
       try simp only[Act.put,List.setIfInBounds_toArray,List.set_cons_zero,List.set_cons_succ]
       refine wpTwo_one (j:=8) (by kernel_rfl) rfl (fun K hK=>?_)
       refine step_app rfl _ _ 26 rfl hr8 (by first|rfl|simp[Act.eval,Act.put]) (by first|rfl|simp[Act.eval,Act.put]) ?_
       show K (Act.put _ (some 127) _) _
       refine hK.out _ _ (fun _=>KS.out _ hB8 hO8) ?_
       clear hK K
       try simp only[Act.put,List.setIfInBounds_toArray,List.set_cons_zero,List.set_cons_succ]
       refine wpTwo_one (j:=9) (by kernel_rfl) rfl (fun K hK=>?_)
       go_simp
       refine hK.out _ _ (fun h=>absurd h (by decide)) ?_
       clear hK K
       refine wpTwo_one (j:=10) (by kernel_rfl) rfl (fun K hK=>?_)
       go_simp
       refine hK.out _ _ (fun h=>absurd h (by decide)) ?_
       clear hK K
       refine wpTwo_done (by kernel_rfl) ?_ _
       clear hSd hBD hOD hBA hOA hB8 hO8 hr8 m0 mf ml hD
       go_wp2_with fail
       go_roundg (nu - (k+1))
       case measure=>omega
       case rel=>exact⟨k+1,nq+1,a8,c8,by omega,rfl,by go_num,by have:=HNQ.out;omega,HB9.out,HF9.out,HO9.out,HW9.out⟩
      ·have hki:¬(k:Int)<(nu:Int):=by omega
       obtain rfl:k=nu:=by omega
       have HFE2:Hid (FB tC 1 9 (w.heap.size+3) Y (.slice aq nq cq) (srows++rows)):=by have:=HFY.out;rw[HNU.out,List.take_length] at this;exact this
       have HSM2:Hid (SmS ⟨sc,stag,sq,sp,1,srows++rows,scur⟩):=⟨HSS.out.1,HSS.out.2.1,by rw[List.length_append,HNR.out,←HNU.out];omega,fun r hr=>by
        rcases List.mem_append.1 hr with hr|hr
        ·exact HSS.out.2.2.2 r hr
        ·have:=HCR2.out r hr;omega⟩
       have HYW:Hid (∀b,b<W4.heap.size→(Value.slice ar nr cr).ownBlock≠some b→Y.heap[b]?=W4.heap[b]?):=fun b hb hn=>by
        rw[HOY.out.block b (Nat.lt_of_lt_of_le hb HB5.out.size) (fun hm=>by
         rcases List.mem_append.1 hm with hm|hm
         ·exact hn (by simpa using hm)
         ·have:=List.mem_singleton.1 hm;omega)]
        exact HB5.out.block b hb
       have hgr:FB tsC 7 41 (w.heap.size+3) Y (.slice (some ⟨g,0,none⟩) n c1) ps:=HTE.out.row.keep fun b hb=>by
        have hb':(Value.slice (some ⟨g,0,none⟩) n c1).ownBlock=some b:=by simpa using hb
        refine HYW.out b (HTE.out.row.own b hb).2 fun e=>?_
        obtain⟨cs1,e1⟩:=HTE.out.row.blk hb'
        obtain⟨cs2,e2⟩:=HFS.out.blk e
        rw[e1] at e2
        injection e2 with e2
        injection e2 with _ e2 _
        exact absurd e2 (by decide)
       have HPUT:Hid (TE (w.heap.size+3) (put7 Y g (i * 7) ⟨sc,stag,sq,sp,1,srows++rows,scur⟩ (.slice aq nq cq)) (.slice (some ⟨g,0,none⟩) n c1) (ps.set i (⟨sc,stag,sq,sp,1,srows++rows,scur⟩,.slice aq nq cq))∧OB w B (.slice a n cap) (.slice (some ⟨g,0,none⟩) n c1) cv (put7 Y g (i * 7) ⟨sc,stag,sq,sp,1,srows++rows,scur⟩ (.slice aq nq cq))∧(g<Y.heap.size∧(∀j,j<7→∃c,Y.cell? ⟨g,i * 7+j,none⟩=some c)∧∀j,Y.frozen? ⟨g,j,none⟩=false)):=by
        refine⟨HTE.out.put HIP.out _ _ HSM2.out (Nat.le_trans HB5.out.size HOY.out.size) (fun b h1 h2=>HYW.out b h1 (by rw[HPK.out] at h2;exact h2)) HFE2.out (fun b hb'=>by rw[HPK.out];rcases HWY.out b hb' with h|h;exact .inl h;exact .inr (Nat.le_trans HB5.out.size h)) rfl,HOBY.out.only (put7_only _ _ _ _ _) (fun b hm=>?_),row7 hgr (by rw[HPL.out];omega) i HIP.out⟩
        rw[List.mem_singleton.1 hm]
        exact⟨(HTE.out.row.own g (by simp[Value.ownBlock])).1,fun e=>HTE.out.apart HOB.out.out (by decide) (by decide) (.inl (by rw[←e];rfl))⟩
       have HRE:Hid (R=(xs.set i ⟨sc,stag,sq,sp,1,srows++rows,scur⟩,0)):=by have:=HR3.out;unfold stepS at this;rw[if_pos rfl,if_pos rfl,if_neg (by have:=HNR.out;have:=HNU.out;dsimp only at *;omega)] at this;exact this.symm
       clear hgr
       obtain⟨_,o0,of,ol,r0,rf,rl⟩:=HOBY.out.cells
       have d0:Y.cell? ⟨W4.heap.size,0,none⟩=some (.int .i64 sc):=HBY.out.cell 0 (by simp)
       have d1:Y.cell? ⟨W4.heap.size,1,none⟩=some (.string stag):=HBY.out.cell 1 (by simp)
       have d2:Y.cell? ⟨W4.heap.size,2,none⟩=some (.string sq):=HBY.out.cell 2 (by simp)
       have d3:Y.cell? ⟨W4.heap.size,3,none⟩=some (.int .i64 sp):=HBY.out.cell 3 (by simp)
       have d4:Y.cell? ⟨W4.heap.size,4,none⟩=some (.int .i64 1):=HBY.out.cell 4 (by simp)
       have d5:Y.cell? ⟨W4.heap.size,5,none⟩=some (.slice aq nq cq):=HBY.out.cell 5 (by simp)
       have d6:Y.cell? ⟨W4.heap.size,6,none⟩=some (.int .i64 scur):=HBY.out.cell 6 (by simp)
       obtain⟨hT9,hO9,hgl,hgc,hgf⟩:=HPUT.out
       obtain⟨w0,hw0⟩:=hgc 0 (by omega)
       obtain⟨w1,hw1⟩:=hgc 1 (by omega)
       obtain⟨w2,hw2⟩:=hgc 2 (by omega)
       obtain⟨w3,hw3⟩:=hgc 3 (by omega)
       obtain⟨w4,hw4⟩:=hgc 4 (by omega)
       obtain⟨w5,hw5⟩:=hgc 5 (by omega)
       obtain⟨w6,hw6⟩:=hgc 6 (by omega)
       rw[Nat.add_zero] at hw0
       have hf0:=hgf (i * 7)
       have hf1:=hgf (i * 7+1)
       have hf2:=hgf (i * 7+2)
       have hf3:=hgf (i * 7+3)
       have hf4:=hgf (i * 7+4)
       have hf5:=hgf (i * 7+5)
       have hf6:=hgf (i * 7+6)
       obtain⟨X9,hX9⟩:∃x,((((((Y.setCell ⟨g,i * 7,none⟩ (.int .i64 sc)).setCell ⟨g,i * 7+1,none⟩ (.string stag)).setCell ⟨g,i * 7+2,none⟩ (.string sq)).setCell ⟨g,i * 7+3,none⟩ (.int .i64 sp)).setCell ⟨g,i * 7+4,none⟩ (.int .i64 1)).setCell ⟨g,i * 7+5,none⟩ (.slice aq nq cq)).setCell ⟨g,i * 7+6,none⟩ (.int .i64 scur)=x:=⟨_,rfl⟩
       have hT9':TE (w.heap.size+3) X9 (.slice (some ⟨g,0,none⟩) n c1) (ps.set i (⟨sc,stag,sq,sp,1,srows++rows,scur⟩,.slice aq nq cq)):=by rw[←hX9];exact hT9
       have hO9':OB w B (.slice a n cap) (.slice (some ⟨g,0,none⟩) n c1) cv X9:=by rw[←hX9];exact hO9
       have HO9:=hide hO9'
       have HFE9:Hid (∀x,TE (w.heap.size+3) (X9.setCell ⟨w.heap.size+2,0,none⟩ x) (.slice (some ⟨g,0,none⟩) n c1) (ps.set i (⟨sc,stag,sq,sp,1,srows++rows,scur⟩,.slice aq nq cq))∧Below w.heap.size w (X9.setCell ⟨w.heap.size+2,0,none⟩ x)):=fun x=>⟨hT9'.setBox hO9'.res x,hO9'.bel.setCell (p:=⟨w.heap.size+2,0,none⟩) (by simp) x⟩
       have HX9:=hide hX9
       clear hT9 hO9 hT9' hO9' hgc hgf hX9
       go_upto_region 30 with fail
       (try rw[HX9.out])
       clear hw0 hw1 hw2 hw3 hw4 hw5 hw6 hf0 hf1 hf2 hf3 hf4 hf5 hf6
       obtain⟨_,y0,_,_,z0,zf,zl⟩:=HO9.out.cells
       go_wp2_with fail
       exact bodyPost_ret (v:=.tuple #[.agg #[.slice (some ⟨g,0,none⟩) n c1],.int .i64 0]) (by simp[results,Tryz.results5,go_sem,z0,zl]) rfl ⟨_,by rw[HRE.out],⟨_,(HFE9.out _).1,by rw[HRE.out,List.map_set,HMAP.out]⟩,(HFE9.out _).2⟩
   ·have h1b:(sst == 1)=false:=by simpa using h1
    have HRE:Hid (R=(xs,3)):=by have:=HR3.out;unfold stepS at this;rw[if_pos rfl,if_neg h1] at this;exact this.symm
    go_wp2_with fail
    exact bodyPost_ret (v:=.tuple #[.agg #[.slice (some ⟨g,0,none⟩) n c1],.int .i64 3]) (by simp[results,Tryz.results5,go_sem,r0,rl]) rfl ⟨_,by rw[HRE.out],⟨ps,(HFE.out _).1,by rw[HMAP.out,HRE.out]⟩,(HFE.out _).2⟩
  ·subst hkd
   clear hk1 hk1b
   by_cases h1:sst=1
   ·subst h1
    obtain⟨Z,hZ⟩:∃x,X5.setCell ⟨W4.heap.size,4,none⟩ (.int .i64 2)=x:=⟨_,rfl⟩
    have HZB:Hid (Box Z W4.heap.size 41 #[.int .i64 sc,.string stag,.string sq,.int .i64 sp,.int .i64 2,.slice ar nr cr,.int .i64 scur]):=hide (by rw[←hZ];have:=(HBX5.out.set 4 (.int .i64 2));simpa using this)
    have HZL:Hid (Below W4.heap.size W4 Z):=by rw[←hZ];exact(HB5.out.setCell (p:=⟨W4.heap.size,4,none⟩) (leR _) (.int .i64 2))
    have HOZ:=hide (HOB.out.below HZL.out)
    have HZ:=hide hZ
    clear hZ
    go_upto_region 23 with fail
    (try rw[HZ.out])
    clear o0 of ol r0 rf rl q0 q1 q2 q3 q4 q5 q6 d0 d1 d2 d3 d4 d5 d6 e0 e1 e2 e3 e4 e5 e6 el
    obtain⟨_,o0,of,ol,r0,rf,rl⟩:=HOZ.out.cells
    obtain⟨q0,q1,q2,q3,q4,q5,q6⟩:=HCV.out Z HOZ.out.chg
    have d0:Z.cell? ⟨W4.heap.size,0,none⟩=some (.int .i64 sc):=HZB.out.cell 0 (by simp)
    have d1:Z.cell? ⟨W4.heap.size,1,none⟩=some (.string stag):=HZB.out.cell 1 (by simp)
    have d2:Z.cell? ⟨W4.heap.size,2,none⟩=some (.string sq):=HZB.out.cell 2 (by simp)
    have d3:Z.cell? ⟨W4.heap.size,3,none⟩=some (.int .i64 sp):=HZB.out.cell 3 (by simp)
    have d4:Z.cell? ⟨W4.heap.size,4,none⟩=some (.int .i64 2):=HZB.out.cell 4 (by simp)
    have d5:Z.cell? ⟨W4.heap.size,5,none⟩=some (.slice ar nr cr):=HZB.out.cell 5 (by simp)
    have d6:Z.cell? ⟨W4.heap.size,6,none⟩=some (.int .i64 scur):=HZB.out.cell 6 (by simp)
    have e0:=HZB.out.frozen 0
    have e1:=HZB.out.frozen 1
    have e2:=HZB.out.frozen 2
    have e3:=HZB.out.frozen 3
    have e4:=HZB.out.frozen 4
    have e5:=HZB.out.frozen 5
    have e6:=HZB.out.frozen 6
    have el:W4.heap.size<Z.heap.size:=HZB.out.lt
    have HPUT:=hide (HEND.out Z ⟨sc,stag,sq,sp,2,srows,scur⟩ (.slice ar nr cr) HZL.out HSS.out (by have:=HFS.out.below HZL.out;exact this) (fun b hb=>.inl hb))
    have HRE:Hid (R=(xs.set i ⟨sc,stag,sq,sp,2,srows,scur⟩,0)):=by have:=HR3.out;unfold stepS at this;rw[if_neg (by simp),if_pos rfl,if_pos rfl] at this;exact this.symm
    obtain⟨hT9,hO9,hgl,hgc,hgf⟩:=HPUT.out
    obtain⟨w0,hw0⟩:=hgc 0 (by omega)
    obtain⟨w1,hw1⟩:=hgc 1 (by omega)
    obtain⟨w2,hw2⟩:=hgc 2 (by omega)
    obtain⟨w3,hw3⟩:=hgc 3 (by omega)
    obtain⟨w4,hw4⟩:=hgc 4 (by omega)
    obtain⟨w5,hw5⟩:=hgc 5 (by omega)
    obtain⟨w6,hw6⟩:=hgc 6 (by omega)
    rw[Nat.add_zero] at hw0
    have hf0:=hgf (i * 7)
    have hf1:=hgf (i * 7+1)
    have hf2:=hgf (i * 7+2)
    have hf3:=hgf (i * 7+3)
    have hf4:=hgf (i * 7+4)
    have hf5:=hgf (i * 7+5)
    have hf6:=hgf (i * 7+6)
    obtain⟨X9,hX9⟩:∃x,((((((Z.setCell ⟨g,i * 7,none⟩ (.int .i64 sc)).setCell ⟨g,i * 7+1,none⟩ (.string stag)).setCell ⟨g,i * 7+2,none⟩ (.string sq)).setCell ⟨g,i * 7+3,none⟩ (.int .i64 sp)).setCell ⟨g,i * 7+4,none⟩ (.int .i64 2)).setCell ⟨g,i * 7+5,none⟩ (.slice ar nr cr)).setCell ⟨g,i * 7+6,none⟩ (.int .i64 scur)=x:=⟨_,rfl⟩
    have hT9':TE (w.heap.size+3) X9 (.slice (some ⟨g,0,none⟩) n c1) (ps.set i (⟨sc,stag,sq,sp,2,srows,scur⟩,.slice ar nr cr)):=by rw[←hX9];exact hT9
    have hO9':OB w B (.slice a n cap) (.slice (some ⟨g,0,none⟩) n c1) cv X9:=by rw[←hX9];exact hO9
    have HO9:=hide hO9'
    have HFE9:Hid (∀x,TE (w.heap.size+3) (X9.setCell ⟨w.heap.size+2,0,none⟩ x) (.slice (some ⟨g,0,none⟩) n c1) (ps.set i (⟨sc,stag,sq,sp,2,srows,scur⟩,.slice ar nr cr))∧Below w.heap.size w (X9.setCell ⟨w.heap.size+2,0,none⟩ x)):=fun x=>⟨hT9'.setBox hO9'.res x,hO9'.bel.setCell (p:=⟨w.heap.size+2,0,none⟩) (by simp) x⟩
    have HX9:=hide hX9
    clear hT9 hO9 hT9' hO9' hgc hgf hX9
    go_upto_region 30 with fail
    (try rw[HX9.out])
    clear hw0 hw1 hw2 hw3 hw4 hw5 hw6 hf0 hf1 hf2 hf3 hf4 hf5 hf6
    obtain⟨_,y0,_,_,z0,zf,zl⟩:=HO9.out.cells
    go_wp2_with fail
    exact bodyPost_ret (v:=.tuple #[.agg #[.slice (some ⟨g,0,none⟩) n c1],.int .i64 0]) (by simp[results,Tryz.results5,go_sem,z0,zl]) rfl ⟨_,by rw[HRE.out],⟨_,(HFE9.out _).1,by rw[HRE.out,List.map_set,HMAP.out]⟩,(HFE9.out _).2⟩
   ·have h1b:(sst == 1)=false:=by simpa using h1
    have HRE:Hid (R=(xs,3)):=by have:=HR3.out;unfold stepS at this;rw[if_neg (by simp),if_pos rfl,if_neg h1] at this;exact this.symm
    go_wp2_with fail
    exact bodyPost_ret (v:=.tuple #[.agg #[.slice (some ⟨g,0,none⟩) n c1],.int .i64 3]) (by simp[results,Tryz.results5,go_sem,r0,rl]) rfl ⟨_,by rw[HRE.out],⟨ps,(HFE.out _).1,by rw[HMAP.out,HRE.out]⟩,(HFE.out _).2⟩
  ·subst hkd
   clear hk1 hk1b
   by_cases h1:sst=2
   ·subst h1
    by_cases h2:(nr:Int)<n0
    ·have h2i:n0 > (nr:Int):=by omega
     have HRE:Hid (R=(xs,4)):=by have:=HR3.out;unfold stepS at this;rw[if_neg (by simp),if_neg (by simp),if_pos rfl,if_pos rfl,if_pos (by have:=HNR.out;dsimp only at *;omega)] at this;exact this.symm
     go_wp2_with fail
     exact bodyPost_ret (v:=.tuple #[.agg #[.slice (some ⟨g,0,none⟩) n c1],.int .i64 4]) (by simp[results,Tryz.results5,go_sem,r0,rl]) rfl ⟨_,by rw[HRE.out],⟨ps,(HFE.out _).1,by rw[HMAP.out,HRE.out]⟩,(HFE.out _).2⟩
    ·have h2i:¬n0 > (nr:Int):=by omega
     obtain⟨Z,hZ⟩:∃x,X5.setCell ⟨W4.heap.size,6,none⟩ (.int .i64 n0)=x:=⟨_,rfl⟩
     have HZB:Hid (Box Z W4.heap.size 41 #[.int .i64 sc,.string stag,.string sq,.int .i64 sp,.int .i64 2,.slice ar nr cr,.int .i64 n0]):=hide (by rw[←hZ];have:=(HBX5.out.set 6 (.int .i64 n0));simpa using this)
     have HZL:Hid (Below W4.heap.size W4 Z):=by rw[←hZ];exact(HB5.out.setCell (p:=⟨W4.heap.size,6,none⟩) (leR _) (.int .i64 n0))
     have HOZ:=hide (HOB.out.below HZL.out)
     have HZ:=hide hZ
     clear hZ
     go_upto_region 25 with fail
     (try rw[HZ.out])
     clear o0 of ol r0 rf rl q0 q1 q2 q3 q4 q5 q6 d0 d1 d2 d3 d4 d5 d6 e0 e1 e2 e3 e4 e5 e6 el
     obtain⟨_,o0,of,ol,r0,rf,rl⟩:=HOZ.out.cells
     obtain⟨q0,q1,q2,q3,q4,q5,q6⟩:=HCV.out Z HOZ.out.chg
     have d0:Z.cell? ⟨W4.heap.size,0,none⟩=some (.int .i64 sc):=HZB.out.cell 0 (by simp)
     have d1:Z.cell? ⟨W4.heap.size,1,none⟩=some (.string stag):=HZB.out.cell 1 (by simp)
     have d2:Z.cell? ⟨W4.heap.size,2,none⟩=some (.string sq):=HZB.out.cell 2 (by simp)
     have d3:Z.cell? ⟨W4.heap.size,3,none⟩=some (.int .i64 sp):=HZB.out.cell 3 (by simp)
     have d4:Z.cell? ⟨W4.heap.size,4,none⟩=some (.int .i64 2):=HZB.out.cell 4 (by simp)
     have d5:Z.cell? ⟨W4.heap.size,5,none⟩=some (.slice ar nr cr):=HZB.out.cell 5 (by simp)
     have d6:Z.cell? ⟨W4.heap.size,6,none⟩=some (.int .i64 n0):=HZB.out.cell 6 (by simp)
     have e0:=HZB.out.frozen 0
     have e1:=HZB.out.frozen 1
     have e2:=HZB.out.frozen 2
     have e3:=HZB.out.frozen 3
     have e4:=HZB.out.frozen 4
     have e5:=HZB.out.frozen 5
     have e6:=HZB.out.frozen 6
     have el:W4.heap.size<Z.heap.size:=HZB.out.lt
     have HPUT:=hide (HEND.out Z ⟨sc,stag,sq,sp,2,srows,n0⟩ (.slice ar nr cr) HZL.out HSS.out (by have:=HFS.out.below HZL.out;exact this) (fun b hb=>.inl hb))
     have HRE:Hid (R=(xs.set i ⟨sc,stag,sq,sp,2,srows,n0⟩,0)):=by have:=HR3.out;unfold stepS at this;rw[if_neg (by simp),if_neg (by simp),if_pos rfl,if_pos rfl,if_neg (by have:=HNR.out;dsimp only at *;omega)] at this;exact this.symm
     obtain⟨hT9,hO9,hgl,hgc,hgf⟩:=HPUT.out
     obtain⟨w0,hw0⟩:=hgc 0 (by omega)
     obtain⟨w1,hw1⟩:=hgc 1 (by omega)
     obtain⟨w2,hw2⟩:=hgc 2 (by omega)
     obtain⟨w3,hw3⟩:=hgc 3 (by omega)
     obtain⟨w4,hw4⟩:=hgc 4 (by omega)
     obtain⟨w5,hw5⟩:=hgc 5 (by omega)
     obtain⟨w6,hw6⟩:=hgc 6 (by omega)
     rw[Nat.add_zero] at hw0
     have hf0:=hgf (i * 7)
     have hf1:=hgf (i * 7+1)
     have hf2:=hgf (i * 7+2)
     have hf3:=hgf (i * 7+3)
     have hf4:=hgf (i * 7+4)
     have hf5:=hgf (i * 7+5)
     have hf6:=hgf (i * 7+6)
     obtain⟨X9,hX9⟩:∃x,((((((Z.setCell ⟨g,i * 7,none⟩ (.int .i64 sc)).setCell ⟨g,i * 7+1,none⟩ (.string stag)).setCell ⟨g,i * 7+2,none⟩ (.string sq)).setCell ⟨g,i * 7+3,none⟩ (.int .i64 sp)).setCell ⟨g,i * 7+4,none⟩ (.int .i64 2)).setCell ⟨g,i * 7+5,none⟩ (.slice ar nr cr)).setCell ⟨g,i * 7+6,none⟩ (.int .i64 n0)=x:=⟨_,rfl⟩
     have hT9':TE (w.heap.size+3) X9 (.slice (some ⟨g,0,none⟩) n c1) (ps.set i (⟨sc,stag,sq,sp,2,srows,n0⟩,.slice ar nr cr)):=by rw[←hX9];exact hT9
     have hO9':OB w B (.slice a n cap) (.slice (some ⟨g,0,none⟩) n c1) cv X9:=by rw[←hX9];exact hO9
     have HO9:=hide hO9'
     have HFE9:Hid (∀x,TE (w.heap.size+3) (X9.setCell ⟨w.heap.size+2,0,none⟩ x) (.slice (some ⟨g,0,none⟩) n c1) (ps.set i (⟨sc,stag,sq,sp,2,srows,n0⟩,.slice ar nr cr))∧Below w.heap.size w (X9.setCell ⟨w.heap.size+2,0,none⟩ x)):=fun x=>⟨hT9'.setBox hO9'.res x,hO9'.bel.setCell (p:=⟨w.heap.size+2,0,none⟩) (by simp) x⟩
     have HX9:=hide hX9
     clear hT9 hO9 hT9' hO9' hgc hgf hX9
     go_upto_region 30 with fail
     (try rw[HX9.out])
     clear hw0 hw1 hw2 hw3 hw4 hw5 hw6 hf0 hf1 hf2 hf3 hf4 hf5 hf6
     obtain⟨_,y0,_,_,z0,zf,zl⟩:=HO9.out.cells
     go_wp2_with fail
     exact bodyPost_ret (v:=.tuple #[.agg #[.slice (some ⟨g,0,none⟩) n c1],.int .i64 0]) (by simp[results,Tryz.results5,go_sem,z0,zl]) rfl ⟨_,by rw[HRE.out],⟨_,(HFE9.out _).1,by rw[HRE.out,List.map_set,HMAP.out]⟩,(HFE9.out _).2⟩
   ·have h1b:(sst == 2)=false:=by simpa using h1
    have HRE:Hid (R=(xs,3)):=by have:=HR3.out;unfold stepS at this;rw[if_neg (by simp),if_neg (by simp),if_pos rfl,if_neg h1] at this;exact this.symm
    go_wp2_with fail
    exact bodyPost_ret (v:=.tuple #[.agg #[.slice (some ⟨g,0,none⟩) n c1],.int .i64 3]) (by simp[results,Tryz.results5,go_sem,r0,rl]) rfl ⟨_,by rw[HRE.out],⟨ps,(HFE.out _).1,by rw[HMAP.out,HRE.out]⟩,(HFE.out _).2⟩
  ·subst hkd
   clear hk1 hk1b
   by_cases h1:sst=1
   ·subst h1
    obtain⟨Z,hZ⟩:∃x,((((((X5.setCell ⟨W4.heap.size,0,none⟩ (.int .i64 sc)).setCell ⟨W4.heap.size,1,none⟩ (.string stag)).setCell ⟨W4.heap.size,2,none⟩ (.string sq)).setCell ⟨W4.heap.size,3,none⟩ (.int .i64 sp)).setCell ⟨W4.heap.size,4,none⟩ (.int .i64 3)).setCell ⟨W4.heap.size,5,none⟩ (.slice none 0 0)).setCell ⟨W4.heap.size,6,none⟩ (.int .i64 0)=x:=⟨_,rfl⟩
    have HZB:Hid (Box Z W4.heap.size 41 #[.int .i64 sc,.string stag,.string sq,.int .i64 sp,.int .i64 3,.slice none 0 0,.int .i64 0]):=hide (by rw[←hZ];have:=(((((((HBX5.out.set 0 (.int .i64 sc)).set 1 (.string stag)).set 2 (.string sq)).set 3 (.int .i64 sp)).set 4 (.int .i64 3)).set 5 (.slice none 0 0)).set 6 (.int .i64 0));simpa using this)
    have HZL:Hid (Below W4.heap.size W4 Z):=by rw[←hZ];exact(((((((HB5.out.setCell (p:=⟨W4.heap.size,0,none⟩) (leR _) (.int .i64 sc)).setCell (p:=⟨W4.heap.size,1,none⟩) (leR _) (.string stag)).setCell (p:=⟨W4.heap.size,2,none⟩) (leR _) (.string sq)).setCell (p:=⟨W4.heap.size,3,none⟩) (leR _) (.int .i64 sp)).setCell (p:=⟨W4.heap.size,4,none⟩) (leR _) (.int .i64 3)).setCell (p:=⟨W4.heap.size,5,none⟩) (leR _) (.slice none 0 0)).setCell (p:=⟨W4.heap.size,6,none⟩) (leR _) (.int .i64 0))
    have HOZ:=hide (HOB.out.below HZL.out)
    have HZ:=hide hZ
    clear hZ
    go_upto_region 27 with fail
    (try rw[HZ.out])
    clear o0 of ol r0 rf rl q0 q1 q2 q3 q4 q5 q6 d0 d1 d2 d3 d4 d5 d6 e0 e1 e2 e3 e4 e5 e6 el
    obtain⟨_,o0,of,ol,r0,rf,rl⟩:=HOZ.out.cells
    obtain⟨q0,q1,q2,q3,q4,q5,q6⟩:=HCV.out Z HOZ.out.chg
    have d0:Z.cell? ⟨W4.heap.size,0,none⟩=some (.int .i64 sc):=HZB.out.cell 0 (by simp)
    have d1:Z.cell? ⟨W4.heap.size,1,none⟩=some (.string stag):=HZB.out.cell 1 (by simp)
    have d2:Z.cell? ⟨W4.heap.size,2,none⟩=some (.string sq):=HZB.out.cell 2 (by simp)
    have d3:Z.cell? ⟨W4.heap.size,3,none⟩=some (.int .i64 sp):=HZB.out.cell 3 (by simp)
    have d4:Z.cell? ⟨W4.heap.size,4,none⟩=some (.int .i64 3):=HZB.out.cell 4 (by simp)
    have d5:Z.cell? ⟨W4.heap.size,5,none⟩=some (.slice none 0 0):=HZB.out.cell 5 (by simp)
    have d6:Z.cell? ⟨W4.heap.size,6,none⟩=some (.int .i64 0):=HZB.out.cell 6 (by simp)
    have e0:=HZB.out.frozen 0
    have e1:=HZB.out.frozen 1
    have e2:=HZB.out.frozen 2
    have e3:=HZB.out.frozen 3
    have e4:=HZB.out.frozen 4
    have e5:=HZB.out.frozen 5
    have e6:=HZB.out.frozen 6
    have el:W4.heap.size<Z.heap.size:=HZB.out.lt
    have HPUT:=hide (HEND.out Z ⟨sc,stag,sq,sp,3,[],0⟩ (.slice none 0 0) HZL.out ⟨HSS.out.1,HSS.out.2.1,by simp,by simp⟩ (FB.nil _ _ _ _ _) (fun b hb=>by simp[Value.ownBlock] at hb))
    have HRE:Hid (R=(xs.set i ⟨sc,stag,sq,sp,3,[],0⟩,0)):=by have:=HR3.out;unfold stepS at this;rw[if_neg (by simp),if_neg (by simp),if_neg (by simp),if_pos rfl,if_pos rfl] at this;exact this.symm
    obtain⟨hT9,hO9,hgl,hgc,hgf⟩:=HPUT.out
    obtain⟨w0,hw0⟩:=hgc 0 (by omega)
    obtain⟨w1,hw1⟩:=hgc 1 (by omega)
    obtain⟨w2,hw2⟩:=hgc 2 (by omega)
    obtain⟨w3,hw3⟩:=hgc 3 (by omega)
    obtain⟨w4,hw4⟩:=hgc 4 (by omega)
    obtain⟨w5,hw5⟩:=hgc 5 (by omega)
    obtain⟨w6,hw6⟩:=hgc 6 (by omega)
    rw[Nat.add_zero] at hw0
    have hf0:=hgf (i * 7)
    have hf1:=hgf (i * 7+1)
    have hf2:=hgf (i * 7+2)
    have hf3:=hgf (i * 7+3)
    have hf4:=hgf (i * 7+4)
    have hf5:=hgf (i * 7+5)
    have hf6:=hgf (i * 7+6)
    obtain⟨X9,hX9⟩:∃x,((((((Z.setCell ⟨g,i * 7,none⟩ (.int .i64 sc)).setCell ⟨g,i * 7+1,none⟩ (.string stag)).setCell ⟨g,i * 7+2,none⟩ (.string sq)).setCell ⟨g,i * 7+3,none⟩ (.int .i64 sp)).setCell ⟨g,i * 7+4,none⟩ (.int .i64 3)).setCell ⟨g,i * 7+5,none⟩ (.slice none 0 0)).setCell ⟨g,i * 7+6,none⟩ (.int .i64 0)=x:=⟨_,rfl⟩
    have hT9':TE (w.heap.size+3) X9 (.slice (some ⟨g,0,none⟩) n c1) (ps.set i (⟨sc,stag,sq,sp,3,[],0⟩,.slice none 0 0)):=by rw[←hX9];exact hT9
    have hO9':OB w B (.slice a n cap) (.slice (some ⟨g,0,none⟩) n c1) cv X9:=by rw[←hX9];exact hO9
    have HO9:=hide hO9'
    have HFE9:Hid (∀x,TE (w.heap.size+3) (X9.setCell ⟨w.heap.size+2,0,none⟩ x) (.slice (some ⟨g,0,none⟩) n c1) (ps.set i (⟨sc,stag,sq,sp,3,[],0⟩,.slice none 0 0))∧Below w.heap.size w (X9.setCell ⟨w.heap.size+2,0,none⟩ x)):=fun x=>⟨hT9'.setBox hO9'.res x,hO9'.bel.setCell (p:=⟨w.heap.size+2,0,none⟩) (by simp) x⟩
    have HX9:=hide hX9
    clear hT9 hO9 hT9' hO9' hgc hgf hX9
    go_upto_region 30 with fail
    (try rw[HX9.out])
    clear hw0 hw1 hw2 hw3 hw4 hw5 hw6 hf0 hf1 hf2 hf3 hf4 hf5 hf6
    obtain⟨_,y0,_,_,z0,zf,zl⟩:=HO9.out.cells
    go_wp2_with fail
    exact bodyPost_ret (v:=.tuple #[.agg #[.slice (some ⟨g,0,none⟩) n c1],.int .i64 0]) (by simp[results,Tryz.results5,go_sem,z0,zl]) rfl ⟨_,by rw[HRE.out],⟨_,(HFE9.out _).1,by rw[HRE.out,List.map_set,HMAP.out]⟩,(HFE9.out _).2⟩
   ·have h1b:(sst == 1)=false:=by simpa using h1
    have HRE:Hid (R=(xs,3)):=by have:=HR3.out;unfold stepS at this;rw[if_neg (by simp),if_neg (by simp),if_neg (by simp),if_pos rfl,if_neg h1] at this;exact this.symm
    go_wp2_with fail
    exact bodyPost_ret (v:=.tuple #[.agg #[.slice (some ⟨g,0,none⟩) n c1],.int .i64 3]) (by simp[results,Tryz.results5,go_sem,r0,rl]) rfl ⟨_,by rw[HRE.out],⟨ps,(HFE.out _).1,by rw[HMAP.out,HRE.out]⟩,(HFE.out _).2⟩
  ·subst hkd
   clear hk1 hk1b
   cases hlive:liveB sst
   ·have HRE:Hid (R=(xs,3)):=by have:=HR3.out;unfold stepS at this;rw[if_neg (by simp),if_neg (by simp),if_neg (by simp),if_neg (by simp),if_neg (by dsimp only;rw[hlive];simp)] at this;exact this.symm
    go_wp2_with fail
    refine(l5Live_any _ _).mono ?_
    rintro e y ⟨rfl,hy⟩
    (try rw[hy])
    clear hy y
    rw[hlive]
    go_wp2_with fail
    exact bodyPost_ret (v:=.tuple #[.agg #[.slice (some ⟨g,0,none⟩) n c1],.int .i64 3]) (by simp[results,Tryz.results5,go_sem,r0,rl]) rfl ⟨_,by rw[HRE.out],⟨ps,(HFE.out _).1,by rw[HMAP.out,HRE.out]⟩,(HFE.out _).2⟩
   ·have HLV:=hide hlive
    go_wp2_with fail
    refine(l5Live_any _ _).mono ?_
    rintro e y ⟨rfl,hy⟩
    (try rw[hy])
    clear hy y
    rw[hlive]
    obtain⟨Z,hZ⟩:∃x,(((((((X5.setCell ⟨W4.heap.size,0,none⟩ (.int .i64 sc)).setCell ⟨W4.heap.size,1,none⟩ (.string stag)).setCell ⟨W4.heap.size,2,none⟩ (.string sq)).setCell ⟨W4.heap.size,3,none⟩ (.int .i64 sp)).setCell ⟨W4.heap.size,4,none⟩ (.int .i64 3)).setCell ⟨W4.heap.size,5,none⟩ (.slice none 0 0)).setCell ⟨W4.heap.size,6,none⟩ (.int .i64 0)).setCell ⟨W4.heap.size,4,none⟩ (.int .i64 4)=x:=⟨_,rfl⟩
    have HZB:Hid (Box Z W4.heap.size 41 #[.int .i64 sc,.string stag,.string sq,.int .i64 sp,.int .i64 4,.slice none 0 0,.int .i64 0]):=hide (by rw[←hZ];have:=((((((((HBX5.out.set 0 (.int .i64 sc)).set 1 (.string stag)).set 2 (.string sq)).set 3 (.int .i64 sp)).set 4 (.int .i64 3)).set 5 (.slice none 0 0)).set 6 (.int .i64 0)).set 4 (.int .i64 4));simpa using this)
    have HZL:Hid (Below W4.heap.size W4 Z):=by rw[←hZ];exact((((((((HB5.out.setCell (p:=⟨W4.heap.size,0,none⟩) (leR _) (.int .i64 sc)).setCell (p:=⟨W4.heap.size,1,none⟩) (leR _) (.string stag)).setCell (p:=⟨W4.heap.size,2,none⟩) (leR _) (.string sq)).setCell (p:=⟨W4.heap.size,3,none⟩) (leR _) (.int .i64 sp)).setCell (p:=⟨W4.heap.size,4,none⟩) (leR _) (.int .i64 3)).setCell (p:=⟨W4.heap.size,5,none⟩) (leR _) (.slice none 0 0)).setCell (p:=⟨W4.heap.size,6,none⟩) (leR _) (.int .i64 0)).setCell (p:=⟨W4.heap.size,4,none⟩) (leR _) (.int .i64 4))
    have HOZ:=hide (HOB.out.below HZL.out)
    have HZ:=hide hZ
    clear hZ
    go_upto_region 29 with fail
    (try rw[HZ.out])
    clear o0 of ol r0 rf rl q0 q1 q2 q3 q4 q5 q6 d0 d1 d2 d3 d4 d5 d6 e0 e1 e2 e3 e4 e5 e6 el
    obtain⟨_,o0,of,ol,r0,rf,rl⟩:=HOZ.out.cells
    obtain⟨q0,q1,q2,q3,q4,q5,q6⟩:=HCV.out Z HOZ.out.chg
    have d0:Z.cell? ⟨W4.heap.size,0,none⟩=some (.int .i64 sc):=HZB.out.cell 0 (by simp)
    have d1:Z.cell? ⟨W4.heap.size,1,none⟩=some (.string stag):=HZB.out.cell 1 (by simp)
    have d2:Z.cell? ⟨W4.heap.size,2,none⟩=some (.string sq):=HZB.out.cell 2 (by simp)
    have d3:Z.cell? ⟨W4.heap.size,3,none⟩=some (.int .i64 sp):=HZB.out.cell 3 (by simp)
    have d4:Z.cell? ⟨W4.heap.size,4,none⟩=some (.int .i64 4):=HZB.out.cell 4 (by simp)
    have d5:Z.cell? ⟨W4.heap.size,5,none⟩=some (.slice none 0 0):=HZB.out.cell 5 (by simp)
    have d6:Z.cell? ⟨W4.heap.size,6,none⟩=some (.int .i64 0):=HZB.out.cell 6 (by simp)
    have e0:=HZB.out.frozen 0
    have e1:=HZB.out.frozen 1
    have e2:=HZB.out.frozen 2
    have e3:=HZB.out.frozen 3
    have e4:=HZB.out.frozen 4
    have e5:=HZB.out.frozen 5
    have e6:=HZB.out.frozen 6
    have el:W4.heap.size<Z.heap.size:=HZB.out.lt
    have HPUT:=hide (HEND.out Z ⟨sc,stag,sq,sp,4,[],0⟩ (.slice none 0 0) HZL.out ⟨HSS.out.1,HSS.out.2.1,by simp,by simp⟩ (FB.nil _ _ _ _ _) (fun b hb=>by simp[Value.ownBlock] at hb))
    have HRE:Hid (R=(xs.set i ⟨sc,stag,sq,sp,4,[],0⟩,0)):=by have:=HR3.out;unfold stepS at this;rw[if_neg (by simp),if_neg (by simp),if_neg (by simp),if_neg (by simp),if_pos (by dsimp only;exact HLV.out)] at this;exact this.symm
    obtain⟨hT9,hO9,hgl,hgc,hgf⟩:=HPUT.out
    obtain⟨w0,hw0⟩:=hgc 0 (by omega)
    obtain⟨w1,hw1⟩:=hgc 1 (by omega)
    obtain⟨w2,hw2⟩:=hgc 2 (by omega)
    obtain⟨w3,hw3⟩:=hgc 3 (by omega)
    obtain⟨w4,hw4⟩:=hgc 4 (by omega)
    obtain⟨w5,hw5⟩:=hgc 5 (by omega)
    obtain⟨w6,hw6⟩:=hgc 6 (by omega)
    rw[Nat.add_zero] at hw0
    have hf0:=hgf (i * 7)
    have hf1:=hgf (i * 7+1)
    have hf2:=hgf (i * 7+2)
    have hf3:=hgf (i * 7+3)
    have hf4:=hgf (i * 7+4)
    have hf5:=hgf (i * 7+5)
    have hf6:=hgf (i * 7+6)
    obtain⟨X9,hX9⟩:∃x,((((((Z.setCell ⟨g,i * 7,none⟩ (.int .i64 sc)).setCell ⟨g,i * 7+1,none⟩ (.string stag)).setCell ⟨g,i * 7+2,none⟩ (.string sq)).setCell ⟨g,i * 7+3,none⟩ (.int .i64 sp)).setCell ⟨g,i * 7+4,none⟩ (.int .i64 4)).setCell ⟨g,i * 7+5,none⟩ (.slice none 0 0)).setCell ⟨g,i * 7+6,none⟩ (.int .i64 0)=x:=⟨_,rfl⟩
    have hT9':TE (w.heap.size+3) X9 (.slice (some ⟨g,0,none⟩) n c1) (ps.set i (⟨sc,stag,sq,sp,4,[],0⟩,.slice none 0 0)):=by rw[←hX9];exact hT9
    have hO9':OB w B (.slice a n cap) (.slice (some ⟨g,0,none⟩) n c1) cv X9:=by rw[←hX9];exact hO9
    have HO9:=hide hO9'
    have HFE9:Hid (∀x,TE (w.heap.size+3) (X9.setCell ⟨w.heap.size+2,0,none⟩ x) (.slice (some ⟨g,0,none⟩) n c1) (ps.set i (⟨sc,stag,sq,sp,4,[],0⟩,.slice none 0 0))∧Below w.heap.size w (X9.setCell ⟨w.heap.size+2,0,none⟩ x)):=fun x=>⟨hT9'.setBox hO9'.res x,hO9'.bel.setCell (p:=⟨w.heap.size+2,0,none⟩) (by simp) x⟩
    have HX9:=hide hX9
    clear hT9 hO9 hT9' hO9' hgc hgf hX9
    go_upto_region 30 with fail
    (try rw[HX9.out])
    clear hw0 hw1 hw2 hw3 hw4 hw5 hw6 hf0 hf1 hf2 hf3 hf4 hf5 hf6
    obtain⟨_,y0,_,_,z0,zf,zl⟩:=HO9.out.cells
    go_wp2_with fail
    exact bodyPost_ret (v:=.tuple #[.agg #[.slice (some ⟨g,0,none⟩) n c1],.int .i64 0]) (by simp[results,Tryz.results5,go_sem,z0,zl]) rfl ⟨_,by rw[HRE.out],⟨_,(HFE9.out _).1,by rw[HRE.out,List.map_set,HMAP.out]⟩,(HFE9.out _).2⟩
end Go.Proofs.YtglcdcekkglmiaaGreatDoor.Msg
