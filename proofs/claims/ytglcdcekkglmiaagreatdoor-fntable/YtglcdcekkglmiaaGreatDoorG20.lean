import Derived.Test.YtglcdcekkglmiaaGreatDoorG19
import Derived.Deep.LoopGhost
import Derived.Deep.DeepCutAuto
namespace Go.Proofs.YtglcdcekkglmiaaGreatDoor.Msg
open Go.ChangeShapes Go.WideShapes Go.ChangeAt Go.RowKit
set_option linter.unusedVariables false
set_option linter.unusedSimpArgs false
theorem map_getD (ps:List (Sess × Value)) (i:Nat) (h:i<ps.length):(ps.map Prod.fst).getD i sess0=ps[i].1:=by
 rw[List.getD_eq_getElem?_getD,List.getElem?_map,List.getElem?_eq_getElem h];rfl
theorem map_erase:∀(ps:List (Sess × Value)) (i:Nat),(ps.eraseIdx i).map Prod.fst=(ps.map Prod.fst).eraseIdx i
 | [],i=>by simp
 | p :: ps,0=>by simp
 | p :: ps,i+1=>by simp[map_erase ps i]
theorem te_some {base:Nat} {X:World} {a:Option Addr} {n c:Nat} {ps:List (Sess × Value)} (h:TE base X (.slice a n c) ps) (hz:ps.length≤9223372036854775807) (k:Nat) (hk:k<ps.length):∃b off,a=some ⟨b,off,none⟩:=by
 obtain⟨_,_,e,hc⟩:=At.form (h.sesss hz)
 injection e with e _ _
 obtain⟨b,off,e2,_⟩:=hc k (by rw[List.length_map];exact hk)
 exact⟨b,off,by rw[e,e2]⟩
set_option maxRecDepth 100000 in
set_option maxHeartbeats 32000000 in
theorem openS_any (xs:List Sess) (v:Value) (c:Chg) (au:Option Addr) (nu cu:Nat) (w:World) {lo:Nat} (hv:SesssAt lo w v xs) (hn:xs.length≤16) (hsm:∀s∈xs,SmS s) (hc1:c.tag.size≤9223372036854775807) (hc2:c.query.size≤9223372036854775807) :
  Calls Tryz.prog 24 #[.agg #[v],chgV c (.slice au nu cu)] w fun e w'=>∃t,e=.returned (.tuple #[.agg #[t],.int .i64 (openP xs c).2])∧(∃qs,TE (w.heap.size+3) w' t qs∧qs.map Prod.fst=(openP xs c).1)∧Below w.heap.size w w':=by
 have HSN:Hid (SmS (newS c)):=⟨hc1,hc2,by simp[newS],by simp[newS]⟩
 have HNS:Hid (newS c=⟨c.client,c.tag,c.query,c.page,1,[],0⟩):=rfl
 obtain⟨R,hR⟩:∃R,openP xs c=R:=⟨_,rfl⟩
 have HR:=hide hR
 rw[hR]
 unfold openP at HR
 obtain⟨ns,hns⟩:∃s,newS c=s:=⟨_,rfl⟩
 have HFN:Hid (∀ys,openFin xs ys c=if 16≤(roomP ys).length then (xs,2) else (roomP ys++[ns],0)):=fun ys=>by unfold openFin;rw[hns]
 obtain⟨kind,client,tag,query,page,rows,n0⟩:=c
 unfold chgV
 dsimp only at HR HNS ⊢
 rw[hns] at HSN HNS
 have HV:=hide hv
 obtain⟨a,cap,rfl,_⟩:=At.form hv
 obtain⟨n,hnn⟩:∃n,xs.length=n:=⟨_,rfl⟩
 have HN:=hide hnn
 rw[hnn] at hn ⊢
 obtain⟨x3,hx3⟩:∃x,((w.alloc (Obj.cells #[.slice a n cap] 25)).alloc (Obj.cells #[.int .i64 kind,.int .i64 client,.string tag,.string query,.int .i64 page,.slice au nu cu,.int .i64 n0] 28)).alloc (Obj.cells #[.slice none 0 0] 25)=x:=⟨_,rfl⟩
 have s3:x3.heap.size=w.heap.size+3:=by rw[←hx3];simp
 have HO3:Hid (Box x3 w.heap.size 25 #[.slice a n cap]∧Box x3 (w.heap.size+1) 28 #[.int .i64 kind,.int .i64 client,.string tag,.string query,.int .i64 page,.slice au nu cu,.int .i64 n0]∧Box x3 (w.heap.size+2) 25 #[.slice none 0 0]∧Below w.heap.size w x3):=by
  rw[←hx3]
  refine⟨((Box.new w _ _).alloc _).alloc _,?_,?_,?_⟩
  ·have:=(Box.new (w.alloc (Obj.cells #[.slice a n cap] 25)) 28 #[.int .i64 kind,.int .i64 client,.string tag,.string query,.int .i64 page,.slice au nu cu,.int .i64 n0]).alloc (Obj.cells #[.slice none 0 0] 25)
   rw[Deep.nblk_alloc] at this
   exact this
  ·have:=Box.new ((w.alloc (Obj.cells #[.slice a n cap] 25)).alloc (Obj.cells #[.int .i64 kind,.int .i64 client,.string tag,.string query,.int .i64 page,.slice au nu cu,.int .i64 n0] 28)) 25 #[.slice none 0 0]
   rw[Deep.nblk_alloc,Deep.nblk_alloc] at this
   exact this
  ·have h1:=(Below.refl w.heap.size w).alloc (leR _) (Obj.cells #[.slice a n cap] 25)
   have h2:=h1.alloc h1.size (Obj.cells #[.int .i64 kind,.int .i64 client,.string tag,.string query,.int .i64 page,.slice au nu cu,.int .i64 n0] 28)
   exact h2.alloc h2.size _
 have HCP:=hide (fun W (h:Below w.heap.size w W)=>copyTbl_any xs (.slice a xs.length cap) W (At.kept kept_sess HV.out h) (by rw[hnn];omega) hsm)
 rw[hnn] at HCP
 have HX3:=hide hx3
 have HS3:=hide s3
 obtain⟨cv,hcv⟩:∃x:Array Value,#[.int .i64 kind,.int .i64 client,.string tag,.string query,.int .i64 page,.slice au nu cu,.int .i64 n0]=x:=⟨_,rfl⟩
 have HCV:Hid (∀X,Box X (w.heap.size+1) 28 cv→X.cell? ⟨w.heap.size+1,1,none⟩=some (.int .i64 client)∧X.cell? ⟨w.heap.size+1,2,none⟩=some (.string tag)∧X.cell? ⟨w.heap.size+1,3,none⟩=some (.string query)∧X.cell? ⟨w.heap.size+1,4,none⟩=some (.int .i64 page)):=fun X h=>by
  rw[←hcv] at h
  exact⟨h.cell 1 (by simp),h.cell 2 (by simp),h.cell 3 (by simp),h.cell 4 (by simp)⟩
 rw[hcv] at HO3
 clear hv hnn hx3 s3 hcv hsm hc1 hc2 hR hns
 go_enter Tryz.func24,Tryz.ntmps24
 go_wp2_with fail
 (try rw[HX3.out])
 refine(HCP.out x3 HO3.out.2.2.2).mono ?_
 rintro e W1 ⟨t1,rfl,⟨ps,hTB⟩,hb1⟩
 obtain⟨hTE,hmap⟩:=hTB.te
 obtain⟨a1,c1,rfl,hc1a,hc1b⟩:=hTE.form
 have hpl:ps.length=n:=by rw[←HN.out,←hmap,List.length_map]
 rw[hpl] at hTE ⊢
 obtain⟨X4,hX4⟩:∃x,W1.alloc (Obj.cells #[.slice a1 n c1] 25)=x:=⟨_,rfl⟩
 have b4:Below W1.heap.size W1 X4:=by rw[←hX4];exact alcB _ _
 obtain⟨B,hBe⟩:∃B,W1.heap.size=B:=⟨_,rfl⟩
 have HOB4:Hid (OB w B (.slice a n cap) (.slice a1 n c1) cv X4):=by
  obtain⟨o1,o2,o3,ob⟩:=HO3.out
  have hb:=bjoin b4 hb1
  refine⟨o1.below hb,o2.below hb,o3.below hb,by rw[←hX4,←hBe];exact Box.new _ _ _,bjoin hb ob,?_⟩
  have:=hb1.size
  have:=HS3.out
  omega
 have HTE4:Hid (TE (w.heap.size+3) X4 (.slice a1 n c1) ps):=(hTE.below b4).low (by have:=HS3.out;omega)
 have HMAP:=hide hmap
 have HPL:=hide hpl
 have HBB:Hid (w.heap.size+3≤B):=by have:=hb1.size;have:=HS3.out;show _≤_;omega
 clear hTB hTE hb1 b4 hmap hpl hc1a hc1b
 go_upto_region 2 with fail
 (try rw[hX4])
 (try rw[hBe])
 clear hX4 hBe
 obtain⟨_,o0,_,_,_,_,_⟩:=HOB4.out.cells
 obtain⟨q1,q2,_,_⟩:=HCV.out X4 HOB4.out.chg
 have HAT:=hide (l5At_any xs (.slice a1 n c1) client tag X4 (lo:=w.heap.size+3) (by have:=HTE4.out.sesss (by rw[HPL.out];omega);rw[HMAP.out] at this;exact this))
 go_wp2_with fail
 refine HAT.out.mono ?_
 rintro e W2 ⟨rfl,hb2⟩
 have HOB:=hide (HOB4.out.below hb2)
 have HTE:=hide (HTE4.out.below hb2)
 clear hb2 o0 q1 q2 HOB4 HTE4
 have HCASE:Hid (∃o,xs.findIdx? (keyB client tag)=o):=⟨_,rfl⟩
 obtain⟨o,ho⟩:=HCASE.out
 cases o with
 | some i =>
  obtain⟨hpl,hil⟩:=place_some ho
  rw[ho] at HR
  rw[hpl]
  dsimp only at HR
  have hip:i<ps.length:=by rw[HPL.out,←HN.out];exact hil
  obtain⟨b,off,rfl⟩:=te_some HTE.out (by rw[HPL.out];omega) i hip
  obtain⟨hbl,_,_,_,_,g4,_⟩:=HTE.out.cells (by rw[HPL.out];omega) i hip
  obtain⟨s,hs⟩:∃s,ps[i].1=s:=⟨_,rfl⟩
  rw[hs] at g4
  have hgd:xs.getD i sess0=s:=by rw[←HMAP.out,map_getD ps i hip,hs]
  rw[hgd] at HR
  have hin:(i:Int)<(n:Int):=by have:=HN.out;omega
  have hi0:(i:Int) ≥ 0:=by omega
  obtain⟨_,o0,of,ol,r0,rf,rl⟩:=HOB.out.cells
  cases hlive:liveB s.state
  ·have HFR:Hid (openFin xs (xs.eraseIdx i) ⟨kind,client,tag,query,page,rows,n0⟩=R):=by have:=HR.out;rw[hlive,if_neg (by decide)] at this;exact this
   have HWO:=hide (without_any (.slice (some ⟨b,off,none⟩) n c1) ps i W2 HTE.out (by have:=HOB.out.out.lt;have:=HBB.out;omega) (by rw[HPL.out];omega))
   obtain⟨ys,hys⟩:∃y,xs.eraseIdx i=y:=⟨_,rfl⟩
   have HYM:Hid (ys.length≤16):=by rw[←hys,List.length_eraseIdx,if_pos hil,HN.out];show _≤_;omega
   have HMX0:Hid ((ps.eraseIdx i).map Prod.fst=ys):=by rw[map_erase,HMAP.out];exact hys
   rw[hys] at HFR
   clear hs hgd hpl ho hys
   go_wp2_with fail
   refine(l5Live_any _ _).mono ?_
   rintro e y ⟨rfl,hy⟩
   (try rw[hy])
   clear hy y
   rw[hlive]
   go_wp2_with fail
   refine HWO.out.mono ?_
   rintro e Z ⟨t9,rfl,hT9,hb9⟩
   obtain⟨ao0,co0,rfl,_⟩:=hT9.form
   obtain⟨mo0,hm9⟩:∃m,(ps.eraseIdx i).length=m:=⟨_,rfl⟩
   rw[hm9] at hT9 ⊢
   have hOB9:=HOB.out.below hb9
   obtain⟨_,p0,pf,pl,_,_,_⟩:=hOB9.cells
   obtain⟨XX,hXX⟩:∃x,Z.setCell ⟨B,0,none⟩ (.slice ao0 mo0 co0)=x:=⟨_,rfl⟩
   have HOBX:Hid (OB w B (.slice a n cap) (.slice ao0 mo0 co0) cv XX):=by rw[←hXX];exact hOB9.set (.slice ao0 mo0 co0)
   have HTEX:Hid (TE (w.heap.size+3) XX (.slice ao0 mo0 co0) (ps.eraseIdx i)):=by rw[←hXX];exact hT9.setBox (o:=0) hOB9.out (.slice ao0 mo0 co0)
   have HML0:=hide hm9
   obtain⟨qs0,hq0⟩:∃q,ps.eraseIdx i=q:=⟨_,rfl⟩
   rw[hq0] at HTEX HML0 HMX0
   have HMX:=hide HMX0.out
   clear hT9 hb9 hOB9 hm9 o0 of ol r0 rf rl g4 hq0
   go_wp2_with fail
   (try rw[hXX])
   (try clear hXX)
   go_loopg [8] 17 (fun q i wr=>∃(k mo:Nat) (ao:Option Addr) (co:Nat) (qs:List (Sess × Value)),k≤16∧q=17 - k∧i=.int .i64 (k:Int)∧OB w B (.slice a n cap) (.slice ao mo co) cv wr∧TE (w.heap.size+3) wr (.slice ao mo co) qs∧qs.length=mo∧RoomAt ys (qs.map Prod.fst) k∧mo≤16)
   case atStart=>exact⟨0,mo0,ao0,co0,qs0,by omega,rfl,rfl,HOBX.out,HTEX.out,HML0.out,by rw[HMX.out];exact room_start ys,by rw[←HML0.out,←List.length_map (f:=Prod.fst),HMX.out];exact HYM.out⟩
   case round =>
    obtain⟨k,mo,ao,co,qs,hk,rfl,rfl,hOB,hTE,hml,hra,hmo⟩:=hrel
    obtain⟨Y,rfl⟩:∃x,x=wr:=⟨_,rfl⟩
    have HOBY:=hide hOB
    have HTEY:=hide hTE
    have HML:=hide hml
    have HRA:=hide hra
    clear hOB hTE hml hra
    by_cases hkm:k<mo
    ·have hkmi:(k:Int)<(mo:Int):=by omega
     by_cases h16r:16≤mo
     ·have h16ri:(mo:Int) ≥ 16:=by omega
      have hkq:k<qs.length:=by rw[HML.out];exact hkm
      obtain⟨b,off,rfl⟩:=te_some HTEY.out (by rw[HML.out];omega) k hkq
      obtain⟨hbl,_,_,_,_,g4,_⟩:=HTEY.out.cells (by rw[HML.out];omega) k hkq
      obtain⟨s,hs⟩:∃s,qs[k].1=s:=⟨_,rfl⟩
      rw[hs] at g4
      have hgd:(qs.map Prod.fst).getD k sess0=s:=by rw[map_getD qs k hkq,hs]
      obtain⟨_,o0,of,ol,r0,rf,rl⟩:=HOBY.out.cells
      cases hlive:liveB s.state
      ·have HRA2:=hide (room_dead HRA.out (by rw[List.length_map];exact hkq) (by rw[List.length_map,HML.out];exact h16r) HYM.out (by rw[hgd];unfold deadB;rw[hlive];rfl))
       have HWO:=hide (without_any (.slice (some ⟨b,off,none⟩) mo co) qs k Y HTEY.out (by have:=HOBY.out.out.lt;have:=HBB.out;omega) (by rw[HML.out];omega))
       clear hs hgd
       go_wp2_with fail
       refine(l5Live_any _ _).mono ?_
       rintro e y ⟨rfl,hy⟩
       (try rw[hy])
       clear hy y
       rw[hlive]
       go_wp2_with fail
       refine HWO.out.mono ?_
       rintro e Z ⟨t9,rfl,hT9,hb9⟩
       obtain⟨a9,c9,rfl,_⟩:=hT9.form
       obtain⟨m9,hm9⟩:∃m,(qs.eraseIdx k).length=m:=⟨_,rfl⟩
       have hm9l:m9≤16:=by rw[←hm9,List.length_eraseIdx,if_pos hkq,HML.out];omega
       rw[hm9] at hT9 ⊢
       have hOB9:=HOBY.out.below hb9
       obtain⟨_,p0,pf,pl,_,_,_⟩:=hOB9.cells
       have HOB9:=hide (hOB9.set (.slice a9 m9 c9))
       have HT9:=hide (hT9.setBox (o:=0) hOB9.out (.slice a9 m9 c9))
       have HM9:=hide hm9
       clear hT9 hb9 hOB9 hm9 o0 of ol r0 rf rl g4
       go_wp2_with fail
       go_roundg (17 - (k+1))
       case measure=>omega
       case rel=>exact⟨k+1,m9,a9,c9,qs.eraseIdx k,by omega,rfl,by go_num,HOB9.out,HT9.out,HM9.out,by rw[map_erase];exact HRA2.out,hm9l⟩
      ·have HRA2:=hide (room_live HRA.out (by rw[List.length_map];exact hkq) (by rw[List.length_map,HML.out];exact h16r) (by rw[hgd];unfold deadB;rw[hlive];rfl))
       clear hs hgd
       go_wp2_with fail
       refine(l5Live_any _ _).mono ?_
       rintro e y ⟨rfl,hy⟩
       (try rw[hy])
       clear hy y
       rw[hlive]
       go_wp2_with fail
       go_roundg (17 - (k+1))
       case measure=>omega
       case rel=>exact⟨k+1,mo,_,co,qs,by omega,rfl,by go_num,HOBY.out,HTEY.out,HML.out,HRA2.out,hmo⟩
     ·have h16ri:¬(mo:Int) ≥ 16:=by omega
      have HRP:=hide (room_end HRA.out (by rw[List.length_map,HML.out];omega))
      obtain⟨_,o0,of,ol,r0,rf,rl⟩:=HOBY.out.cells
      have HYL:=hide (room_len ys HYM.out)
      by_cases h16:16≤mo
      ·have h16i:(mo:Int) ≥ 16:=by omega
       exact absurd h16 h16r
      ·have h16i:¬(mo:Int) ≥ 16:=by omega
       have HRE:Hid (R=(qs.map Prod.fst++[ns],0)):=by rw[←HFR.out,HFN.out,←HRP.out,if_neg (by rw[List.length_map,HML.out];exact h16)];trivial
       obtain⟨q1,q2,q3,q4⟩:=HCV.out Y HOBY.out.chg
       obtain⟨Z,hZ⟩:∃x,Y.alloc (Obj.cells #[.int .i64 client,.string tag,.string query,.int .i64 page,.int .i64 1,.slice none 0 0,.int .i64 0] 41)=x:=⟨_,rfl⟩
       have bZ:Below Y.heap.size Y Z:=by rw[←hZ];exact alcB _ _
       have oZ:Box Z Y.heap.size 41 #[.int .i64 client,.string tag,.string query,.int .i64 page,.int .i64 1,.slice none 0 0,.int .i64 0]:=by rw[←hZ];exact Box.new _ _ _
       have hOBZ:=HOBY.out.below bZ
       have hTEZ:=HTEY.out.below bZ
       obtain⟨a8,c8,w8,hr8',hT8,ho8⟩:=hTEZ.new (n:=mo) ns HSN.out (by rw[HNS.out]) (by have:=HOBY.out.out.lt;have:=bZ.size;have:=HBB.out;omega) HML.out (by omega)
       rw[HNS.out] at hr8'
       have hr8:(Builtin.append_ #[23,23] 23 #[.slice ao mo co,.slice (some ⟨Z.heap.size,0,none⟩) 1 1]).run Tryz.prog (Z.alloc (.cells #[.int .i64 client,.string tag,.string query,.int .i64 page,.int .i64 1,.slice none 0 0,.int .i64 0] 41))=.ok (.slice a8 (mo+1) c8) w8:=hr8'
       have hOB8:=hOBZ.only ho8 (fun b hb=>⟨(hTEZ.row.own b hb).1,fun e=>hTEZ.apart hOBZ.out (by decide) (by decide) (.inl (by rw[←e];simpa using hb))⟩)
       obtain⟨_,p0,pf,pl,_,_,_⟩:=hOB8.cells
       have hOB9:=hOB8.set (.slice a8 (mo+1) c8)
       have hT9:=hT8.setBox (o:=0) hOB8.out (.slice a8 (mo+1) c8)
       obtain⟨X9,hX9⟩:∃x,w8.setCell ⟨B,0,none⟩ (.slice a8 (mo+1) c8)=x:=⟨_,rfl⟩
       rw[hX9] at hOB9 hT9
       have HFE:Hid (∀x,TE (w.heap.size+3) (X9.setCell ⟨w.heap.size+2,0,none⟩ x) (.slice a8 (mo+1) c8) (qs++[(ns,.slice none 0 0)])∧Below w.heap.size w (X9.setCell ⟨w.heap.size+2,0,none⟩ x)):=fun x=>⟨hT9.setBox hOB9.res x,hOB9.bel.setCell (p:=⟨w.heap.size+2,0,none⟩) (by simp) x⟩
       have HOB9:=hide hOB9
       have HOBZ:=hide hOBZ
       have HOZ:=hide oZ
       have HZ:=hide hZ
       clear hOBZ hTEZ hr8' hT8 ho8 hOB8 hOB9 hT9 bZ oZ hZ
       go_upto_region 15 with fail
       (try rw[HZ.out])
       clear o0 of ol r0 rf rl q1 q2 q3 q4
       obtain⟨_,o0,of,ol,_,_,_⟩:=HOBZ.out.cells
       have k0:Z.cell? ⟨Y.heap.size,0,none⟩=some (.int .i64 client):=HOZ.out.cell 0 (by simp)
       have k1:Z.cell? ⟨Y.heap.size,1,none⟩=some (.string tag):=HOZ.out.cell 1 (by simp)
       have k2:Z.cell? ⟨Y.heap.size,2,none⟩=some (.string query):=HOZ.out.cell 2 (by simp)
       have k3:Z.cell? ⟨Y.heap.size,3,none⟩=some (.int .i64 page):=HOZ.out.cell 3 (by simp)
       have k4:Z.cell? ⟨Y.heap.size,4,none⟩=some (.int .i64 1):=HOZ.out.cell 4 (by simp)
       have k5:Z.cell? ⟨Y.heap.size,5,none⟩=some (.slice none 0 0):=HOZ.out.cell 5 (by simp)
       have k6:Z.cell? ⟨Y.heap.size,6,none⟩=some (.int .i64 0):=HOZ.out.cell 6 (by simp)
       go_upto_region 16 with(first|(at_builtin;refine wpList_app rfl _ _ 23 rfl hr8 (by first|rfl|simp[Act.eval,Act.put]) (by first|rfl|simp[Act.eval,Act.put]) ?_))
       (try rw[hX9])
       clear hX9 o0 of ol k0 k1 k2 k3 k4 k5 k6 p0 pf pl hr8
       obtain⟨_,o0,_,_,z0,zf,zl⟩:=HOB9.out.cells
       go_wp2_with fail
       skip
       exact bodyPost_ret (v:=.tuple #[.agg #[.slice a8 (mo+1) c8],.int .i64 0]) (by simp[results,Tryz.results24,go_sem,z0,zl]) rfl ⟨_,by rw[HRE.out],⟨_,(HFE.out _).1,by rw[HRE.out,List.map_append];rfl⟩,(HFE.out _).2⟩
    ·have hkmi:¬(k:Int)<(mo:Int):=by omega
     have HRP:=hide (room_end HRA.out (by rw[List.length_map,HML.out];omega))
     obtain⟨_,o0,of,ol,r0,rf,rl⟩:=HOBY.out.cells
     have HYL:=hide (room_len ys HYM.out)
     by_cases h16:16≤mo
     ·have h16i:(mo:Int) ≥ 16:=by omega
      have HRE:Hid (R=(xs,2)):=by rw[←HFR.out,HFN.out,if_pos (by rw[←HRP.out,List.length_map,HML.out];exact h16)];trivial
      have g0:=HOBY.out.arg.cell 0 (by simp)
      have g0':Y.cell? ⟨w.heap.size,0,none⟩=some (.slice a n cap):=by simpa using g0
      clear g0 o0 of ol r0 rf rl
      obtain⟨_,o0,of,ol,r0,rf,rl⟩:=HOBY.out.cells
      go_wp2_with fail
      refine(HCP.out Y HOBY.out.bel).mono ?_
      rintro e Z ⟨t9,rfl,⟨ps9,hTB9⟩,hb9⟩
      obtain⟨hTE9,hmap9⟩:=hTB9.te
      obtain⟨a9,c9,rfl,_⟩:=hTE9.form
      obtain⟨m9,hm9⟩:∃m,ps9.length=m:=⟨_,rfl⟩
      rw[hm9] at hTE9 ⊢
      have hOB9:=HOBY.out.below hb9
      obtain⟨_,_,_,_,z0,zf,zl⟩:=hOB9.cells
      have HFE:Hid (∀x,TE (w.heap.size+3) (Z.setCell ⟨w.heap.size+2,0,none⟩ x) (.slice a9 m9 c9) ps9∧Below w.heap.size w (Z.setCell ⟨w.heap.size+2,0,none⟩ x)):=fun x=>⟨(hTE9.setBox hOB9.res x).low (by have:=HOBY.out.out.lt;have:=HOBY.out.lt;omega),hOB9.bel.setCell (p:=⟨w.heap.size+2,0,none⟩) (by simp) x⟩
      have HM9:=hide hmap9
      clear hTB9 hTE9 hb9 hOB9 o0 of ol r0 rf rl g0' hm9 hmap9
      go_wp2_with fail
      exact bodyPost_ret (v:=.tuple #[.agg #[.slice a9 m9 c9],.int .i64 2]) (by simp[results,Tryz.results24,go_sem,z0,zl]) rfl ⟨_,by rw[HRE.out],⟨ps9,(HFE.out _).1,by rw[HM9.out,HRE.out]⟩,(HFE.out _).2⟩
     ·have h16i:¬(mo:Int) ≥ 16:=by omega
      have HRE:Hid (R=(qs.map Prod.fst++[ns],0)):=by rw[←HFR.out,HFN.out,←HRP.out,if_neg (by rw[List.length_map,HML.out];exact h16)];trivial
      obtain⟨q1,q2,q3,q4⟩:=HCV.out Y HOBY.out.chg
      obtain⟨Z,hZ⟩:∃x,Y.alloc (Obj.cells #[.int .i64 client,.string tag,.string query,.int .i64 page,.int .i64 1,.slice none 0 0,.int .i64 0] 41)=x:=⟨_,rfl⟩
      have bZ:Below Y.heap.size Y Z:=by rw[←hZ];exact alcB _ _
      have oZ:Box Z Y.heap.size 41 #[.int .i64 client,.string tag,.string query,.int .i64 page,.int .i64 1,.slice none 0 0,.int .i64 0]:=by rw[←hZ];exact Box.new _ _ _
      have hOBZ:=HOBY.out.below bZ
      have hTEZ:=HTEY.out.below bZ
      obtain⟨a8,c8,w8,hr8',hT8,ho8⟩:=hTEZ.new (n:=mo) ns HSN.out (by rw[HNS.out]) (by have:=HOBY.out.out.lt;have:=bZ.size;have:=HBB.out;omega) HML.out (by omega)
      rw[HNS.out] at hr8'
      have hr8:(Builtin.append_ #[23,23] 23 #[.slice ao mo co,.slice (some ⟨Z.heap.size,0,none⟩) 1 1]).run Tryz.prog (Z.alloc (.cells #[.int .i64 client,.string tag,.string query,.int .i64 page,.int .i64 1,.slice none 0 0,.int .i64 0] 41))=.ok (.slice a8 (mo+1) c8) w8:=hr8'
      have hOB8:=hOBZ.only ho8 (fun b hb=>⟨(hTEZ.row.own b hb).1,fun e=>hTEZ.apart hOBZ.out (by decide) (by decide) (.inl (by rw[←e];simpa using hb))⟩)
      obtain⟨_,p0,pf,pl,_,_,_⟩:=hOB8.cells
      have hOB9:=hOB8.set (.slice a8 (mo+1) c8)
      have hT9:=hT8.setBox (o:=0) hOB8.out (.slice a8 (mo+1) c8)
      obtain⟨X9,hX9⟩:∃x,w8.setCell ⟨B,0,none⟩ (.slice a8 (mo+1) c8)=x:=⟨_,rfl⟩
      rw[hX9] at hOB9 hT9
      have HFE:Hid (∀x,TE (w.heap.size+3) (X9.setCell ⟨w.heap.size+2,0,none⟩ x) (.slice a8 (mo+1) c8) (qs++[(ns,.slice none 0 0)])∧Below w.heap.size w (X9.setCell ⟨w.heap.size+2,0,none⟩ x)):=fun x=>⟨hT9.setBox hOB9.res x,hOB9.bel.setCell (p:=⟨w.heap.size+2,0,none⟩) (by simp) x⟩
      have HOB9:=hide hOB9
      have HOBZ:=hide hOBZ
      have HOZ:=hide oZ
      have HZ:=hide hZ
      clear hOBZ hTEZ hr8' hT8 ho8 hOB8 hOB9 hT9 bZ oZ hZ
      go_upto_region 15 with fail
      (try rw[HZ.out])
      clear o0 of ol r0 rf rl q1 q2 q3 q4
      obtain⟨_,o0,of,ol,_,_,_⟩:=HOBZ.out.cells
      have k0:Z.cell? ⟨Y.heap.size,0,none⟩=some (.int .i64 client):=HOZ.out.cell 0 (by simp)
      have k1:Z.cell? ⟨Y.heap.size,1,none⟩=some (.string tag):=HOZ.out.cell 1 (by simp)
      have k2:Z.cell? ⟨Y.heap.size,2,none⟩=some (.string query):=HOZ.out.cell 2 (by simp)
      have k3:Z.cell? ⟨Y.heap.size,3,none⟩=some (.int .i64 page):=HOZ.out.cell 3 (by simp)
      have k4:Z.cell? ⟨Y.heap.size,4,none⟩=some (.int .i64 1):=HOZ.out.cell 4 (by simp)
      have k5:Z.cell? ⟨Y.heap.size,5,none⟩=some (.slice none 0 0):=HOZ.out.cell 5 (by simp)
      have k6:Z.cell? ⟨Y.heap.size,6,none⟩=some (.int .i64 0):=HOZ.out.cell 6 (by simp)
      go_upto_region 16 with(first|(at_builtin;refine wpList_app rfl _ _ 23 rfl hr8 (by first|rfl|simp[Act.eval,Act.put]) (by first|rfl|simp[Act.eval,Act.put]) ?_))
      (try rw[hX9])
      clear hX9 o0 of ol k0 k1 k2 k3 k4 k5 k6 p0 pf pl hr8
      obtain⟨_,o0,_,_,z0,zf,zl⟩:=HOB9.out.cells
      go_wp2_with fail
      skip
      exact bodyPost_ret (v:=.tuple #[.agg #[.slice a8 (mo+1) c8],.int .i64 0]) (by simp[results,Tryz.results24,go_sem,z0,zl]) rfl ⟨_,by rw[HRE.out],⟨_,(HFE.out _).1,by rw[HRE.out,List.map_append];rfl⟩,(HFE.out _).2⟩
  ·have HRE:Hid (R=(xs,1)):=by have:=HR.out;rw[hlive,if_pos rfl] at this;exact this.symm
   have HFE:Hid (∀x,TE (w.heap.size+3) (W2.setCell ⟨w.heap.size+2,0,none⟩ x) (.slice (some ⟨b,off,none⟩) n c1) ps∧Below w.heap.size w (W2.setCell ⟨w.heap.size+2,0,none⟩ x)):=fun x=>⟨HTE.out.setBox HOB.out.res x,HOB.out.bel.setCell (p:=⟨w.heap.size+2,0,none⟩) (by simp) x⟩
   clear hs hgd hpl ho
   go_wp2_with fail
   refine(l5Live_any _ _).mono ?_
   rintro e y ⟨rfl,hy⟩
   (try rw[hy])
   clear hy y
   rw[hlive]
   go_wp2_with fail
   exact bodyPost_ret (v:=.tuple #[.agg #[.slice (some ⟨b,off,none⟩) n c1],.int .i64 1]) (by simp[results,Tryz.results24,go_sem,r0,rl]) rfl ⟨_,by rw[HRE.out],⟨ps,(HFE.out _).1,by rw[HMAP.out,HRE.out]⟩,(HFE.out _).2⟩
 | none =>
  have hpl:=place_no ho
  rw[ho] at HR
  rw[hpl]
  dsimp only at HR
  obtain⟨ys,hys⟩:∃y,xs=y:=⟨_,rfl⟩
  have HFR:Hid (openFin xs ys ⟨kind,client,tag,query,page,rows,n0⟩=R):=by rw[←hys];exact HR.out
  have HYM:Hid (ys.length≤16):=by rw[←hys,HN.out];exact hn
  have HMX:Hid (ps.map Prod.fst=ys):=by rw[HMAP.out];exact hys
  have HOBX:=hide HOB.out
  have HTEX:=hide HTE.out
  obtain⟨ao0,hao⟩:∃q,a1=q:=⟨_,rfl⟩
  obtain⟨mo0,hmo0⟩:∃q,n=q:=⟨_,rfl⟩
  obtain⟨co0,hco⟩:∃q,c1=q:=⟨_,rfl⟩
  have HOBX:Hid (OB w B (.slice a n cap) (.slice ao0 mo0 co0) cv W2):=by rw[←hao,←hmo0,←hco];exact HOB.out
  have HTEX:Hid (TE (w.heap.size+3) W2 (.slice ao0 mo0 co0) ps):=by rw[←hao,←hmo0,←hco];exact HTE.out
  have HML0:Hid (ps.length=mo0):=by rw[←hmo0];exact HPL.out
  obtain⟨qs0,hq0⟩:∃q,ps=q:=⟨_,rfl⟩
  rw[hq0] at HTEX HML0 HMX
  clear hpl ho hys hao hmo0 hco hq0
  go_wp2_with fail
  (try rw[hXX])
  (try clear hXX)
  go_loopg [8] 17 (fun q i wr=>∃(k mo:Nat) (ao:Option Addr) (co:Nat) (qs:List (Sess × Value)),k≤16∧q=17 - k∧i=.int .i64 (k:Int)∧OB w B (.slice a n cap) (.slice ao mo co) cv wr∧TE (w.heap.size+3) wr (.slice ao mo co) qs∧qs.length=mo∧RoomAt ys (qs.map Prod.fst) k∧mo≤16)
  case atStart=>exact⟨0,mo0,ao0,co0,qs0,by omega,rfl,rfl,HOBX.out,HTEX.out,HML0.out,by rw[HMX.out];exact room_start ys,by rw[←HML0.out,←List.length_map (f:=Prod.fst),HMX.out];exact HYM.out⟩
  case round =>
   obtain⟨k,mo,ao,co,qs,hk,rfl,rfl,hOB,hTE,hml,hra,hmo⟩:=hrel
   obtain⟨Y,rfl⟩:∃x,x=wr:=⟨_,rfl⟩
   have HOBY:=hide hOB
   have HTEY:=hide hTE
   have HML:=hide hml
   have HRA:=hide hra
   clear hOB hTE hml hra
   by_cases hkm:k<mo
   ·have hkmi:(k:Int)<(mo:Int):=by omega
    by_cases h16r:16≤mo
    ·have h16ri:(mo:Int) ≥ 16:=by omega
     have hkq:k<qs.length:=by rw[HML.out];exact hkm
     obtain⟨b,off,rfl⟩:=te_some HTEY.out (by rw[HML.out];omega) k hkq
     obtain⟨hbl,_,_,_,_,g4,_⟩:=HTEY.out.cells (by rw[HML.out];omega) k hkq
     obtain⟨s,hs⟩:∃s,qs[k].1=s:=⟨_,rfl⟩
     rw[hs] at g4
     have hgd:(qs.map Prod.fst).getD k sess0=s:=by rw[map_getD qs k hkq,hs]
     obtain⟨_,o0,of,ol,r0,rf,rl⟩:=HOBY.out.cells
     cases hlive:liveB s.state
     ·have HRA2:=hide (room_dead HRA.out (by rw[List.length_map];exact hkq) (by rw[List.length_map,HML.out];exact h16r) HYM.out (by rw[hgd];unfold deadB;rw[hlive];rfl))
      have HWO:=hide (without_any (.slice (some ⟨b,off,none⟩) mo co) qs k Y HTEY.out (by have:=HOBY.out.out.lt;have:=HBB.out;omega) (by rw[HML.out];omega))
      clear hs hgd
      go_wp2_with fail
      refine(l5Live_any _ _).mono ?_
      rintro e y ⟨rfl,hy⟩
      (try rw[hy])
      clear hy y
      rw[hlive]
      go_wp2_with fail
      refine HWO.out.mono ?_
      rintro e Z ⟨t9,rfl,hT9,hb9⟩
      obtain⟨a9,c9,rfl,_⟩:=hT9.form
      obtain⟨m9,hm9⟩:∃m,(qs.eraseIdx k).length=m:=⟨_,rfl⟩
      have hm9l:m9≤16:=by rw[←hm9,List.length_eraseIdx,if_pos hkq,HML.out];omega
      rw[hm9] at hT9 ⊢
      have hOB9:=HOBY.out.below hb9
      obtain⟨_,p0,pf,pl,_,_,_⟩:=hOB9.cells
      have HOB9:=hide (hOB9.set (.slice a9 m9 c9))
      have HT9:=hide (hT9.setBox (o:=0) hOB9.out (.slice a9 m9 c9))
      have HM9:=hide hm9
      clear hT9 hb9 hOB9 hm9 o0 of ol r0 rf rl g4
      go_wp2_with fail
      go_roundg (17 - (k+1))
      case measure=>omega
      case rel=>exact⟨k+1,m9,a9,c9,qs.eraseIdx k,by omega,rfl,by go_num,HOB9.out,HT9.out,HM9.out,by rw[map_erase];exact HRA2.out,hm9l⟩
     ·have HRA2:=hide (room_live HRA.out (by rw[List.length_map];exact hkq) (by rw[List.length_map,HML.out];exact h16r) (by rw[hgd];unfold deadB;rw[hlive];rfl))
      clear hs hgd
      go_wp2_with fail
      refine(l5Live_any _ _).mono ?_
      rintro e y ⟨rfl,hy⟩
      (try rw[hy])
      clear hy y
      rw[hlive]
      go_wp2_with fail
      go_roundg (17 - (k+1))
      case measure=>omega
      case rel=>exact⟨k+1,mo,_,co,qs,by omega,rfl,by go_num,HOBY.out,HTEY.out,HML.out,HRA2.out,hmo⟩
    ·have h16ri:¬(mo:Int) ≥ 16:=by omega
     have HRP:=hide (room_end HRA.out (by rw[List.length_map,HML.out];omega))
     obtain⟨_,o0,of,ol,r0,rf,rl⟩:=HOBY.out.cells
     have HYL:=hide (room_len ys HYM.out)
     by_cases h16:16≤mo
     ·have h16i:(mo:Int) ≥ 16:=by omega
      exact absurd h16 h16r
     ·have h16i:¬(mo:Int) ≥ 16:=by omega
      have HRE:Hid (R=(qs.map Prod.fst++[ns],0)):=by rw[←HFR.out,HFN.out,←HRP.out,if_neg (by rw[List.length_map,HML.out];exact h16)];trivial
      obtain⟨q1,q2,q3,q4⟩:=HCV.out Y HOBY.out.chg
      obtain⟨Z,hZ⟩:∃x,Y.alloc (Obj.cells #[.int .i64 client,.string tag,.string query,.int .i64 page,.int .i64 1,.slice none 0 0,.int .i64 0] 41)=x:=⟨_,rfl⟩
      have bZ:Below Y.heap.size Y Z:=by rw[←hZ];exact alcB _ _
      have oZ:Box Z Y.heap.size 41 #[.int .i64 client,.string tag,.string query,.int .i64 page,.int .i64 1,.slice none 0 0,.int .i64 0]:=by rw[←hZ];exact Box.new _ _ _
      have hOBZ:=HOBY.out.below bZ
      have hTEZ:=HTEY.out.below bZ
      obtain⟨a8,c8,w8,hr8',hT8,ho8⟩:=hTEZ.new (n:=mo) ns HSN.out (by rw[HNS.out]) (by have:=HOBY.out.out.lt;have:=bZ.size;have:=HBB.out;omega) HML.out (by omega)
      rw[HNS.out] at hr8'
      have hr8:(Builtin.append_ #[23,23] 23 #[.slice ao mo co,.slice (some ⟨Z.heap.size,0,none⟩) 1 1]).run Tryz.prog (Z.alloc (.cells #[.int .i64 client,.string tag,.string query,.int .i64 page,.int .i64 1,.slice none 0 0,.int .i64 0] 41))=.ok (.slice a8 (mo+1) c8) w8:=hr8'
      have hOB8:=hOBZ.only ho8 (fun b hb=>⟨(hTEZ.row.own b hb).1,fun e=>hTEZ.apart hOBZ.out (by decide) (by decide) (.inl (by rw[←e];simpa using hb))⟩)
      obtain⟨_,p0,pf,pl,_,_,_⟩:=hOB8.cells
      have hOB9:=hOB8.set (.slice a8 (mo+1) c8)
      have hT9:=hT8.setBox (o:=0) hOB8.out (.slice a8 (mo+1) c8)
      obtain⟨X9,hX9⟩:∃x,w8.setCell ⟨B,0,none⟩ (.slice a8 (mo+1) c8)=x:=⟨_,rfl⟩
      rw[hX9] at hOB9 hT9
      have HFE:Hid (∀x,TE (w.heap.size+3) (X9.setCell ⟨w.heap.size+2,0,none⟩ x) (.slice a8 (mo+1) c8) (qs++[(ns,.slice none 0 0)])∧Below w.heap.size w (X9.setCell ⟨w.heap.size+2,0,none⟩ x)):=fun x=>⟨hT9.setBox hOB9.res x,hOB9.bel.setCell (p:=⟨w.heap.size+2,0,none⟩) (by simp) x⟩
      have HOB9:=hide hOB9
      have HOBZ:=hide hOBZ
      have HOZ:=hide oZ
      have HZ:=hide hZ
      clear hOBZ hTEZ hr8' hT8 ho8 hOB8 hOB9 hT9 bZ oZ hZ
      go_upto_region 15 with fail
      (try rw[HZ.out])
      clear o0 of ol r0 rf rl q1 q2 q3 q4
      obtain⟨_,o0,of,ol,_,_,_⟩:=HOBZ.out.cells
      have k0:Z.cell? ⟨Y.heap.size,0,none⟩=some (.int .i64 client):=HOZ.out.cell 0 (by simp)
      have k1:Z.cell? ⟨Y.heap.size,1,none⟩=some (.string tag):=HOZ.out.cell 1 (by simp)
      have k2:Z.cell? ⟨Y.heap.size,2,none⟩=some (.string query):=HOZ.out.cell 2 (by simp)
      have k3:Z.cell? ⟨Y.heap.size,3,none⟩=some (.int .i64 page):=HOZ.out.cell 3 (by simp)
      have k4:Z.cell? ⟨Y.heap.size,4,none⟩=some (.int .i64 1):=HOZ.out.cell 4 (by simp)
      have k5:Z.cell? ⟨Y.heap.size,5,none⟩=some (.slice none 0 0):=HOZ.out.cell 5 (by simp)
      have k6:Z.cell? ⟨Y.heap.size,6,none⟩=some (.int .i64 0):=HOZ.out.cell 6 (by simp)
      go_upto_region 16 with(first|(at_builtin;refine wpList_app rfl _ _ 23 rfl hr8 (by first|rfl|simp[Act.eval,Act.put]) (by first|rfl|simp[Act.eval,Act.put]) ?_))
      (try rw[hX9])
      clear hX9 o0 of ol k0 k1 k2 k3 k4 k5 k6 p0 pf pl hr8
      obtain⟨_,o0,_,_,z0,zf,zl⟩:=HOB9.out.cells
      go_wp2_with fail
      skip
      exact bodyPost_ret (v:=.tuple #[.agg #[.slice a8 (mo+1) c8],.int .i64 0]) (by simp[results,Tryz.results24,go_sem,z0,zl]) rfl ⟨_,by rw[HRE.out],⟨_,(HFE.out _).1,by rw[HRE.out,List.map_append];rfl⟩,(HFE.out _).2⟩
   ·have hkmi:¬(k:Int)<(mo:Int):=by omega
    have HRP:=hide (room_end HRA.out (by rw[List.length_map,HML.out];omega))
    obtain⟨_,o0,of,ol,r0,rf,rl⟩:=HOBY.out.cells
    have HYL:=hide (room_len ys HYM.out)
    by_cases h16:16≤mo
    ·have h16i:(mo:Int) ≥ 16:=by omega
     have HRE:Hid (R=(xs,2)):=by rw[←HFR.out,HFN.out,if_pos (by rw[←HRP.out,List.length_map,HML.out];exact h16)];trivial
     have g0:=HOBY.out.arg.cell 0 (by simp)
     have g0':Y.cell? ⟨w.heap.size,0,none⟩=some (.slice a n cap):=by simpa using g0
     clear g0 o0 of ol r0 rf rl
     obtain⟨_,o0,of,ol,r0,rf,rl⟩:=HOBY.out.cells
     go_wp2_with fail
     refine(HCP.out Y HOBY.out.bel).mono ?_
     rintro e Z ⟨t9,rfl,⟨ps9,hTB9⟩,hb9⟩
     obtain⟨hTE9,hmap9⟩:=hTB9.te
     obtain⟨a9,c9,rfl,_⟩:=hTE9.form
     obtain⟨m9,hm9⟩:∃m,ps9.length=m:=⟨_,rfl⟩
     rw[hm9] at hTE9 ⊢
     have hOB9:=HOBY.out.below hb9
     obtain⟨_,_,_,_,z0,zf,zl⟩:=hOB9.cells
     have HFE:Hid (∀x,TE (w.heap.size+3) (Z.setCell ⟨w.heap.size+2,0,none⟩ x) (.slice a9 m9 c9) ps9∧Below w.heap.size w (Z.setCell ⟨w.heap.size+2,0,none⟩ x)):=fun x=>⟨(hTE9.setBox hOB9.res x).low (by have:=HOBY.out.out.lt;have:=HOBY.out.lt;omega),hOB9.bel.setCell (p:=⟨w.heap.size+2,0,none⟩) (by simp) x⟩
     have HM9:=hide hmap9
     clear hTB9 hTE9 hb9 hOB9 o0 of ol r0 rf rl g0' hm9 hmap9
     go_wp2_with fail
     exact bodyPost_ret (v:=.tuple #[.agg #[.slice a9 m9 c9],.int .i64 2]) (by simp[results,Tryz.results24,go_sem,z0,zl]) rfl ⟨_,by rw[HRE.out],⟨ps9,(HFE.out _).1,by rw[HM9.out,HRE.out]⟩,(HFE.out _).2⟩
    ·have h16i:¬(mo:Int) ≥ 16:=by omega
     have HRE:Hid (R=(qs.map Prod.fst++[ns],0)):=by rw[←HFR.out,HFN.out,←HRP.out,if_neg (by rw[List.length_map,HML.out];exact h16)];trivial
     obtain⟨q1,q2,q3,q4⟩:=HCV.out Y HOBY.out.chg
     obtain⟨Z,hZ⟩:∃x,Y.alloc (Obj.cells #[.int .i64 client,.string tag,.string query,.int .i64 page,.int .i64 1,.slice none 0 0,.int .i64 0] 41)=x:=⟨_,rfl⟩
     have bZ:Below Y.heap.size Y Z:=by rw[←hZ];exact alcB _ _
     have oZ:Box Z Y.heap.size 41 #[.int .i64 client,.string tag,.string query,.int .i64 page,.int .i64 1,.slice none 0 0,.int .i64 0]:=by rw[←hZ];exact Box.new _ _ _
     have hOBZ:=HOBY.out.below bZ
     have hTEZ:=HTEY.out.below bZ
     obtain⟨a8,c8,w8,hr8',hT8,ho8⟩:=hTEZ.new (n:=mo) ns HSN.out (by rw[HNS.out]) (by have:=HOBY.out.out.lt;have:=bZ.size;have:=HBB.out;omega) HML.out (by omega)
     rw[HNS.out] at hr8'
     have hr8:(Builtin.append_ #[23,23] 23 #[.slice ao mo co,.slice (some ⟨Z.heap.size,0,none⟩) 1 1]).run Tryz.prog (Z.alloc (.cells #[.int .i64 client,.string tag,.string query,.int .i64 page,.int .i64 1,.slice none 0 0,.int .i64 0] 41))=.ok (.slice a8 (mo+1) c8) w8:=hr8'
     have hOB8:=hOBZ.only ho8 (fun b hb=>⟨(hTEZ.row.own b hb).1,fun e=>hTEZ.apart hOBZ.out (by decide) (by decide) (.inl (by rw[←e];simpa using hb))⟩)
     obtain⟨_,p0,pf,pl,_,_,_⟩:=hOB8.cells
     have hOB9:=hOB8.set (.slice a8 (mo+1) c8)
     have hT9:=hT8.setBox (o:=0) hOB8.out (.slice a8 (mo+1) c8)
     obtain⟨X9,hX9⟩:∃x,w8.setCell ⟨B,0,none⟩ (.slice a8 (mo+1) c8)=x:=⟨_,rfl⟩
     rw[hX9] at hOB9 hT9
     have HFE:Hid (∀x,TE (w.heap.size+3) (X9.setCell ⟨w.heap.size+2,0,none⟩ x) (.slice a8 (mo+1) c8) (qs++[(ns,.slice none 0 0)])∧Below w.heap.size w (X9.setCell ⟨w.heap.size+2,0,none⟩ x)):=fun x=>⟨hT9.setBox hOB9.res x,hOB9.bel.setCell (p:=⟨w.heap.size+2,0,none⟩) (by simp) x⟩
     have HOB9:=hide hOB9
     have HOBZ:=hide hOBZ
     have HOZ:=hide oZ
     have HZ:=hide hZ
     clear hOBZ hTEZ hr8' hT8 ho8 hOB8 hOB9 hT9 bZ oZ hZ
     go_upto_region 15 with fail
     (try rw[HZ.out])
     clear o0 of ol r0 rf rl q1 q2 q3 q4
     obtain⟨_,o0,of,ol,_,_,_⟩:=HOBZ.out.cells
     have k0:Z.cell? ⟨Y.heap.size,0,none⟩=some (.int .i64 client):=HOZ.out.cell 0 (by simp)
     have k1:Z.cell? ⟨Y.heap.size,1,none⟩=some (.string tag):=HOZ.out.cell 1 (by simp)
     have k2:Z.cell? ⟨Y.heap.size,2,none⟩=some (.string query):=HOZ.out.cell 2 (by simp)
     have k3:Z.cell? ⟨Y.heap.size,3,none⟩=some (.int .i64 page):=HOZ.out.cell 3 (by simp)
     have k4:Z.cell? ⟨Y.heap.size,4,none⟩=some (.int .i64 1):=HOZ.out.cell 4 (by simp)
     have k5:Z.cell? ⟨Y.heap.size,5,none⟩=some (.slice none 0 0):=HOZ.out.cell 5 (by simp)
     have k6:Z.cell? ⟨Y.heap.size,6,none⟩=some (.int .i64 0):=HOZ.out.cell 6 (by simp)
     go_upto_region 16 with(first|(at_builtin;refine wpList_app rfl _ _ 23 rfl hr8 (by first|rfl|simp[Act.eval,Act.put]) (by first|rfl|simp[Act.eval,Act.put]) ?_))
     (try rw[hX9])
     clear hX9 o0 of ol k0 k1 k2 k3 k4 k5 k6 p0 pf pl hr8
     obtain⟨_,o0,_,_,z0,zf,zl⟩:=HOB9.out.cells
     go_wp2_with fail
     skip
     exact bodyPost_ret (v:=.tuple #[.agg #[.slice a8 (mo+1) c8],.int .i64 0]) (by simp[results,Tryz.results24,go_sem,z0,zl]) rfl ⟨_,by rw[HRE.out],⟨_,(HFE.out _).1,by rw[HRE.out,List.map_append];rfl⟩,(HFE.out _).2⟩
end Go.Proofs.YtglcdcekkglmiaaGreatDoor.Msg
