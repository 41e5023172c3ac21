import Derived.Deep.LoopGhost
import Derived.Test.YtfdihjnlgdiioaaGreatDoorG10
namespace Go.Proofs.YtfdihjnlgdiioaaGreatDoor.dB
open Go.ChangeShapes Go.WideShapes Go.ChangeAt Go.RowKit
set_option linter.unusedVariables false
set_option linter.unusedSimpArgs false
set_option maxHeartbeats 2000000 in
theorem Cv (xs:List ByteArray) (v u:Value) (w:World) {lo lo2:Nat} (hv:bq lo w v xs) (hu:bq lo2 w u xs) :
  Calls Tryz.prog 23 #[v,u] w fun e w'=>e=.returned (.bool true)∧Below w.heap.size w w':=by
 have hl1:=hv.1
 obtain⟨a,cap,rfl,hc⟩:=hv.form
 obtain⟨a2,cap2,rfl,hc2⟩:=hu.form
 clear hv hu
 obtain⟨n,hn⟩:∃n,xs.length=n:=⟨_,rfl⟩
 rw[hn]
 rw[hn] at hl1
 have HC:Hid (∀k (h1:k<xs.length),∃b off b2 off2,a=some ⟨b,off,none⟩∧a2=some ⟨b2,off2,none⟩∧b<w.heap.size∧b2<w.heap.size∧w.cell? ⟨b,off+k,none⟩=some (.string (xs[k]))∧w.cell? ⟨b2,off2+k,none⟩=some (.string (xs[k]))):=fun k h1=>by
  obtain⟨b,off,e1,_,l1,r1⟩:=hc k h1
  obtain⟨b2,off2,e2,_,l2,r2⟩:=hc2 k h1
  exact⟨b,off,b2,off2,e1,e2,l1,l2,by simpa using r1.1,by simpa using r2.1⟩
 have HN:=hide hn
 clear hc hc2 hn
 go_enter Tryz.func23,Tryz.ntmps23
 go_wp2_with fail
 go_loopg [5] n (fun q i wr=>∃k:Nat,k≤n∧q=n - k∧i=.int .i64 (k:Int)∧Below w.heap.size w wr)
 case atStart=>exact⟨0,eH _,rfl,rfl,Below.refl _ _⟩
 case round =>
  obtain⟨k,hk,rfl,rfl,hb⟩:=hrel
  by_cases hlt:k<n
  ·have hki:(k:Int)<(n:Int):=by omega
   have k1:k<xs.length:=by have:=HN.out;omega
   obtain⟨b,off,b2,off2,rfl,rfl,l1,l2,r1,r2⟩:=HC.out k k1
   have h1:=(hb.cell (p:=⟨b,off+k,none⟩) l1).trans r1
   have h2:=(hb.cell (p:=⟨b2,off2+k,none⟩) l2).trans r2
   obtain⟨x,hx⟩:∃x,xs[k]=x:=⟨_,rfl⟩
   rw[hx] at h1 h2
   clear r1 r2 hx k1
   go_wp2_with fail
   go_quiet (fail)
   go_wp2_with fail
   go_roundg (n - (k+1))
   case measure=>omega
   case rel=>exact⟨k+1,by omega,rfl,by go_num,below_drewN hb _⟩
  ·have hki:¬(k:Int)<(n:Int):=by omega
   go_wp2_with fail
   go_ret
   exact⟨rfl,hb⟩
set_option maxRecDepth 100000 in
set_option maxHeartbeats 8000000 in
theorem Jo (xs:List Seg) (v u:Value) (w:World) {lo lo2:Nat} (hv:aX lo w v xs) (hu:aX lo2 w u xs) :
  Calls Tryz.prog 6 #[.agg #[v],.agg #[u]] w fun e w'=>e=.returned (.bool true)∧Below w.heap.size w w':=by
 have hl1:=hv.1
 obtain⟨w2,hw2⟩:∃w2,(w.alloc (Obj.cells #[v] 28)).alloc (Obj.cells #[u] 28)=w2:=⟨_,rfl⟩
 have hb0:Below w.heap.size w w2:=by rw[←hw2];exact((Below.refl w.heap.size w).alloc (aS _) _).alloc (by simp) _
 have c0:w2.cell? ⟨w.heap.size,0,none⟩=some v:=by rw[←hw2];simp
 have c1:w2.cell? ⟨w.heap.size+1,0,none⟩=some u:=by rw[←hw2];simp
 have hs2:w2.heap.size=w.heap.size+2:=by rw[←hw2];simp
 have hv2:=At.kept bA hv hb0
 have hu2:=At.kept bA hu hb0
 obtain⟨a,cap,rfl,hc⟩:=hv2.form
 obtain⟨a2,cap2,rfl,hc2⟩:=hu2.form
 have HB0:=hide hb0
 have HW2:=hide hw2
 clear hv hu hv2 hu2 hb0 hw2
 obtain⟨n,hn⟩:∃n,xs.length=n:=⟨_,rfl⟩
 have HN:=hide hn
 rw[hn] at c0 c1 hl1 HW2 ⊢
 have KB:Hid (∀X,Below w2.heap.size w2 X→X.cell? ⟨w.heap.size,0,none⟩=some (.slice a n cap)∧X.cell? ⟨w.heap.size+1,0,none⟩=some (.slice a2 n cap2)):=fun X h =>
  ⟨(h.cell (p:=⟨w.heap.size,0,none⟩) (by rw[hs2];simp)).trans c0,(h.cell (p:=⟨w.heap.size+1,0,none⟩) (by rw[hs2];simp)).trans c1⟩
 have HC:Hid (∀k (h1:k<xs.length),∃b off b2 off2 ve ue,a=some ⟨b,off,none⟩∧a2=some ⟨b2,off2,none⟩∧b<w2.heap.size∧b2<w2.heap.size∧(w2.cell? ⟨b,off+k * 2,none⟩=some (.string (xs[k]).name)∧w2.cell? ⟨b,off+k * 2+1,none⟩=some ve)∧(w2.cell? ⟨b2,off2+k * 2,none⟩=some (.string (xs[k]).name)∧w2.cell? ⟨b2,off2+k * 2+1,none⟩=some ue)∧aG lo w2 ve (xs[k]).fields∧aG lo2 w2 ue (xs[k]).fields):=fun k h1=>by
  obtain⟨b,off,e1,_,l1,r0,_,ve,r1,s1⟩:=hc k h1
  obtain⟨b2,off2,e2,_,l2,q0,_,ue,q1,s2⟩:=hc2 k h1
  exact⟨b,off,b2,off2,ve,ue,e1,e2,l1,l2,⟨r0,r1⟩,⟨q0,q1⟩,s1,s2⟩
 have hw2:=HW2.out
 clear hc hc2 hn HW2
 go_enter Tryz.func6,Tryz.ntmps6
 go_wp2_with fail
 go_loopg [5] n (fun q i wr=>∃k:Nat,k≤n∧q=n - k∧i=.int .i64 (k:Int)∧Below w2.heap.size w2 wr)
 case atStart=>exact⟨0,eH _,rfl,rfl,Below.refl _ _⟩
 case round =>
  obtain⟨k,hk,rfl,rfl,hb⟩:=hrel
  clear c0 c1
  obtain⟨Y,rfl⟩:∃x,x=wr:=⟨_,rfl⟩
  obtain⟨c0,c1⟩:=KB.out Y hb
  have GZ:=hide hb
  clear hb
  by_cases hlt:k<n
  ·have hki:(k:Int)<(n:Int):=by omega
   have k1:k<xs.length:=by have:=HN.out;omega
   obtain⟨b,off,b2,off2,ve,ue,rfl,rfl,l1,l2,⟨r0,r1⟩,⟨q0,q1⟩,s1,s2⟩:=HC.out k k1
   obtain⟨⟨nm,fs⟩,hsg⟩:∃s,xs[k]=s:=⟨_,rfl⟩
   rw[hsg] at r0 q0 s1 s2
   dsimp only at r0 q0 s1 s2
   have hlf:=s1.1
   obtain⟨af,cf,rfl,hcf⟩:=s1.form
   obtain⟨Zt,VR,rfl,abJ⟩:=s2.form
   obtain⟨nf,hnf⟩:∃n,fs.length=n:=⟨_,rfl⟩
   have PW:=hide hnf
   rw[hnf] at r1 q1 hlf
   have g0:Y.cell? ⟨b,off+k * 2,none⟩=some (.string nm):=(GZ.out.cell (p:=⟨b,off+k * 2,none⟩) l1).trans r0
   have g1:Y.cell? ⟨b,off+k * 2+1,none⟩=some (.slice af nf cf):=(GZ.out.cell (p:=⟨b,off+k * 2+1,none⟩) l1).trans r1
   obtain⟨Y1,Aq⟩:∃x,Y.alloc (Obj.cells #[.string nm,.slice af nf cf] 54)=x:=⟨_,rfl⟩
   have OU:Below w2.heap.size w2 Y1:=by rw[←Aq];exact GZ.out.alloc GZ.out.size _
   have d0:Y1.cell? ⟨w.heap.size+1,0,none⟩=some (.slice (some ⟨b2,off2,none⟩) n cap2):=(KB.out Y1 OU).2
   have d1:Y1.cell? ⟨b2,off2+k * 2,none⟩=some (.string nm):=(OU.cell (p:=⟨b2,off2+k * 2,none⟩) l2).trans q0
   have d2:Y1.cell? ⟨b2,off2+k * 2+1,none⟩=some (.slice Zt nf VR):=(OU.cell (p:=⟨b2,off2+k * 2+1,none⟩) l2).trans q1
   obtain⟨Y2,hY2⟩:∃x,Y1.alloc (Obj.cells #[.string nm,.slice Zt nf VR] 54)=x:=⟨_,rfl⟩
   have abK:Below w2.heap.size w2 Y2:=by rw[←hY2];exact OU.alloc OU.size _
   have Zu:Y1.heap.size=Y.heap.size+1:=by rw[←Aq];simp
   have sY2:Y2.heap.size=Y.heap.size+2:=by rw[←hY2];simp[Zu]
   have o1:aU Y2 Y.heap.size 54 #[.string nm,.slice af nf cf]:=by rw[←hY2,←Aq];exact(aU.new _ _ _).alloc _
   have o2:aU Y2 (Y.heap.size+1) 54 #[.string nm,.slice Zt nf VR]:=by rw[←hY2,←Zu];exact aU.new _ _ _
   have e0:Y2.cell? ⟨Y.heap.size,0,none⟩=some (.string nm):=o1.cell 0 (by simp)
   have e1:Y2.cell? ⟨Y.heap.size,1,none⟩=some (.slice af nf cf):=o1.cell 1 (by simp)
   have e2:Y2.cell? ⟨Y.heap.size+1,0,none⟩=some (.string nm):=o2.cell 0 (by simp)
   have e3:Y2.cell? ⟨Y.heap.size+1,1,none⟩=some (.slice Zt nf VR):=o2.cell 1 (by simp)
   have KF:Hid (∀X,Below Y2.heap.size Y2 X→X.cell? ⟨Y.heap.size,1,none⟩=some (.slice af nf cf)∧X.cell? ⟨Y.heap.size+1,1,none⟩=some (.slice Zt nf VR)):=fun X h =>
    ⟨(h.cell (p:=⟨Y.heap.size,1,none⟩) (by dsimp only;omega)).trans e1,(h.cell (p:=⟨Y.heap.size+1,1,none⟩) (by dsimp only;omega)).trans e3⟩
   have HCF:Hid (∀j (h1:j<fs.length),∃b off b2 off2 ve ue,af=some ⟨b,off,none⟩∧Zt=some ⟨b2,off2,none⟩∧b<w2.heap.size∧b2<w2.heap.size∧w2.cell? ⟨b,off+j,none⟩=some ve∧w2.cell? ⟨b2,off2+j,none⟩=some ue∧gL lo w2 ve (fs[j])∧gL lo2 w2 ue (fs[j])):=fun j h1=>by
    obtain⟨b,off,e1,_,l1,ve,r1,s1⟩:=hcf j h1
    obtain⟨b2,off2,e2,_,l2,ue,q1,s2⟩:=abJ j h1
    exact⟨b,off,b2,off2,ve,ue,e1,e2,l1,l2,by simpa using r1,by simpa using q1,s1,s2⟩
   have HYY:Hid ((Y.alloc (Obj.cells #[.string nm,.slice af nf cf] 54)).alloc (Obj.cells #[.string nm,.slice Zt nf VR] 54)=Y2):=by rw[Aq];exact hY2
   have Ls:=hide abK
   have HSY:=hide sY2
   rw[←HYY.out] at e0 e1 e2 e3
   rw[←Aq] at d0 d1 d2
   clear hcf abJ s1 s2 r0 r1 q0 q1 hsg hnf o1 o2 OU abK Aq hY2 k1 Zu sY2
   have Zu:(Y.alloc (Obj.cells #[.string nm,.slice af nf cf] 54)).heap.size=Y.heap.size+1:=by simp
   go_wp2_with fail
   rw[HYY.out]
   rw[HYY.out] at e0 e1 e2 e3
   clear d0 d1 d2 Zu g0 g1 c0 c1 e0 e1 e2 e3
   go_loopg [8] nf (fun q j wr=>∃kf:Nat,kf≤nf∧q=nf - kf∧j=.int .i64 (kf:Int)∧Below Y2.heap.size Y2 wr)
   case atStart=>exact⟨0,eH _,rfl,rfl,Below.refl _ _⟩
   case round =>
    obtain⟨kf,hkf,rfl,rfl,hb⟩:=hrel
    obtain⟨Z,rfl⟩:∃x,x=wr:=⟨_,rfl⟩
    have sU:=hide hb
    clear hb
    obtain⟨e1,e3⟩:=KF.out Z sU.out
    by_cases hlt2:kf<nf
    ·have RY:(kf:Int)<(nf:Int):=by omega
     obtain⟨b3,mq,b4,wC,vr,ur,rfl,rfl,l3,l4,r3,r4,s3,s4⟩:=HCF.out kf (by have:=PW.out;omega)
     obtain⟨f,hf⟩:∃f,fs[kf]'(by have:=PW.out;omega)=f:=⟨_,rfl⟩
     rw[hf] at s3 s4
     have hlr:=s3.1
     obtain⟨ar,cr,rfl,hcr⟩:=s3.form
     obtain⟨ar2,cr2,rfl,abL⟩:=s4.form
     obtain⟨nr,hnr⟩:∃n,f.length=n:=⟨_,rfl⟩
     have sF:=hide hnr
     rw[hnr] at r3 r4 hlr
     have KR:Hid (∀X,Below Y2.heap.size Y2 X→X.cell? ⟨Y.heap.size,1,none⟩=some (.slice (some ⟨b3,mq,none⟩) nf cf)∧X.cell? ⟨Y.heap.size+1,1,none⟩=some (.slice (some ⟨b4,wC,none⟩) nf VR)∧X.cell? ⟨b3,mq+kf,none⟩=some (.slice ar nr cr)∧X.cell? ⟨b4,wC+kf,none⟩=some (.slice ar2 nr cr2)):=fun X h =>
      ⟨(KF.out X h).1,(KF.out X h).2,((aj h Ls.out).cell (p:=⟨b3,mq+kf,none⟩) l3).trans r3,((aj h Ls.out).cell (p:=⟨b4,wC+kf,none⟩) l4).trans r4⟩
     have HCR:Hid (∀j (h1:j<f.length),∃b off b2 off2 ve ue,ar=some ⟨b,off,none⟩∧ar2=some ⟨b2,off2,none⟩∧b<w2.heap.size∧b2<w2.heap.size∧w2.cell? ⟨b,off+j,none⟩=some ve∧w2.cell? ⟨b2,off2+j,none⟩=some ue∧bq lo w2 ve (f[j])∧bq lo2 w2 ue (f[j])):=fun j h1=>by
      obtain⟨b,off,e1,_,l1,ve,r1,s1⟩:=hcr j h1
      obtain⟨b2,off2,e2,_,l2,ue,q1,s2⟩:=abL j h1
      exact⟨b,off,b2,off2,ve,ue,e1,e2,l1,l2,by simpa using r1,by simpa using q1,s1,s2⟩
     clear hcr abL s3 s4 r3 r4 hf hnr e1 e3
     obtain⟨e1,e3,e5,e7⟩:=KR.out Z sU.out
     go_wp2_with fail
     go_quiet (fail)
     clear e1 e3 e5 e7
     go_wp2_with fail
     go_loopg [9] nr (fun q j wr=>∃kr:Nat,kr≤nr∧q=nr - kr∧j=.int .i64 (kr:Int)∧Below Y2.heap.size Y2 wr)
     case atStart=>exact⟨0,eH _,rfl,rfl,below_drewN sU.out _⟩
     case round =>
      obtain⟨kr,hkr,rfl,rfl,hb⟩:=hrel
      obtain⟨U,rfl⟩:∃x,x=wr:=⟨_,rfl⟩
      have HBU:=hide hb
      clear hb
      obtain⟨e1,e3,e5,e7⟩:=KR.out U HBU.out
      by_cases hlt3:kr<nr
      ·have Zf:(kr:Int)<(nr:Int):=by omega
       obtain⟨b5,R9,b6,Sc,vs,us,rfl,rfl,l5,l6,r5,r6,s5,s6⟩:=HCR.out kr (by have:=sF.out;omega)
       obtain⟨rp,Sd⟩:∃f',f[kr]'(by have:=sF.out;omega)=f':=⟨_,rfl⟩
       rw[Sd] at s5 s6
       have KS:Hid (∀X,Below Y2.heap.size Y2 X→X.cell? ⟨Y.heap.size,1,none⟩=some (.slice (some ⟨b3,mq,none⟩) nf cf)∧X.cell? ⟨Y.heap.size+1,1,none⟩=some (.slice (some ⟨b4,wC,none⟩) nf VR)∧X.cell? ⟨b3,mq+kf,none⟩=some (.slice (some ⟨b5,R9,none⟩) nr cr)∧X.cell? ⟨b4,wC+kf,none⟩=some (.slice (some ⟨b6,Sc,none⟩) nr cr2)∧X.cell? ⟨b5,R9+kr,none⟩=some vs∧X.cell? ⟨b6,Sc+kr,none⟩=some us):=fun X h =>
        ⟨(KR.out X h).1,(KR.out X h).2.1,(KR.out X h).2.2.1,(KR.out X h).2.2.2,((aj h Ls.out).cell (p:=⟨b5,R9+kr,none⟩) l5).trans r5,((aj h Ls.out).cell (p:=⟨b6,Sc+kr,none⟩) l6).trans r6⟩
       have HST:=hide (fun X (h:Below Y2.heap.size Y2 X)=>Cv rp vs us X (At.kept bE s5 (aj h Ls.out)) (At.kept bE s6 (aj h Ls.out)))
       obtain⟨D,hDe⟩:∃D,U.drew=D:=⟨_,rfl⟩
       have hD0:Below Y2.heap.size Y2 U.drew:=HBU.out.drew
       have hD:Below Y2.heap.size Y2 D:=by rw[←hDe];exact hD0
       clear Sd s5 s6 r5 r6
       go_wp2_with fail
       go_region_held3 (fun X=>X.cell? ⟨Y.heap.size,1,none⟩=some (.slice (some ⟨b3,mq,none⟩) nf cf)∧X.cell? ⟨Y.heap.size+1,1,none⟩=some (.slice (some ⟨b4,wC,none⟩) nf VR)∧X.cell? ⟨b3,mq+kf,none⟩=some (.slice (some ⟨b5,R9,none⟩) nr cr)∧X.cell? ⟨b4,wC+kf,none⟩=some (.slice (some ⟨b6,Sc,none⟩) nr cr2)∧X.cell? ⟨b5,R9+kr,none⟩=some vs∧X.cell? ⟨b6,Sc+kr,none⟩=some us)
        (first|with_reducible exact KS.out _ hD0|with_reducible exact KS.out _ hD|with_reducible exact KS.out _ nX)
        ((go_at_call 23;refine(HST.out _ hD).mono ?_;rintro e W9 ⟨rfl,ou⟩;have nX:Below Y2.heap.size Y2 W9:=aj ou hD))
       go_wp2_with fail
       go_roundg (nr - (kr+1))
       case measure=>omega
       case rel=>exact⟨kr+1,by omega,rfl,by go_num,nX⟩
      ·have Zf:¬(kr:Int)<(nr:Int):=by omega
       go_wp2_with fail
       go_roundg (nf - (kf+1))
       case measure=>omega
       case rel=>exact⟨kf+1,by omega,rfl,by go_num,HBU.out⟩
    ·have RY:¬(kf:Int)<(nf:Int):=by omega
     have HBB:=hide (aj sU.out Ls.out)
     go_wp2_with fail
     go_roundg (n - (k+1))
     case measure=>omega
     case rel=>exact⟨k+1,by omega,rfl,by go_num,HBB.out⟩
  ·have hki:¬(k:Int)<(n:Int):=by omega
   go_wp2_with fail
   go_ret
   exact⟨rfl,aj GZ.out HB0.out⟩
end Go.Proofs.YtfdihjnlgdiioaaGreatDoor.dB
