import Derived.Test.YtfdihjnlgdiioaaGreatDoorG12
namespace Go.Proofs.YtfdihjnlgdiioaaGreatDoor.dB
open Go.ChangeShapes Go.WideShapes Go.ChangeAt Go.RowKit
set_option linter.unusedVariables false
set_option linter.unusedSimpArgs false
theorem IZ {xs ys:List Seg} {i:Nat} (h1:i<xs.length) (h2:i<ys.length) (h:¬xs[i].name=ys[i].name):¬xs=ys:=fun e=>h (by subst e;rfl)
theorem Eb {xs ys:List Seg} {i:Nat} (h1:i<xs.length) (h2:i<ys.length) (h:¬xs[i].fields=ys[i].fields):¬xs=ys:=fun e=>h (by subst e;rfl)
theorem Rf {fs gs:List Field} {j:Nat} (h1:j<fs.length) (h2:j<gs.length) (h:¬fs[j]=gs[j]):¬fs=gs:=fun e=>h (by subst e;rfl)
set_option maxRecDepth 100000 in
set_option maxHeartbeats 8000000 in
theorem Ot (xs ys:List Seg) (v u:Value) (w:World) {lo lo2:Nat} (hv:aX lo w v xs) (hu:aX lo2 w u ys) :
  Calls Tryz.prog 49 #[.agg #[v],.agg #[u]] w (Rc (xs=ys) w):=by
 have hl1:=hv.1
 have hl2:=hu.1
 obtain⟨w2,hw2⟩:∃w2,(w.alloc (Obj.cells #[v] 28)).alloc (Obj.cells #[u] 28)=w2:=⟨_,rfl⟩
 have hb0:Below w.heap.size w w2:=by rw[←hw2];exact((Below.refl w.heap.size w).alloc (aS _) _).alloc (by simp) _
 have c0:w2.cell? ⟨w.heap.size,0,none⟩=some v:=by rw[←hw2];simp
 have c1:w2.cell? ⟨w.heap.size+1,0,none⟩=some u:=by rw[←hw2];simp
 have hs2:w2.heap.size=w.heap.size+2:=by rw[←hw2];simp
 have hv2:=At.kept bA hv hb0
 have hu2:=At.kept bA hu hb0
 obtain⟨a,cap,rfl,hc⟩:=hv2.form
 obtain⟨a2,cap2,rfl,hc2⟩:=hu2.form
 have HB0:=hide hb0
 have HW2:=hide hw2
 clear hv hu hv2 hu2 hb0 hw2
 by_cases hl:xs.length=ys.length
 ·obtain⟨n,hn⟩:∃n,xs.length=n:=⟨_,rfl⟩
  have hn2:ys.length=n:=by omega
  have HN:=hide (And.intro hn hn2)
  have KB:Hid (∀X,Below w2.heap.size w2 X→X.cell? ⟨w.heap.size,0,none⟩=some (.slice a n cap)∧X.cell? ⟨w.heap.size+1,0,none⟩=some (.slice a2 n cap2)):=fun X h=>by
   rw[←hn]
   refine⟨(h.cell (p:=⟨w.heap.size,0,none⟩) (by rw[hs2];simp)).trans c0,?_⟩
   rw[hn,←hn2]
   exact(h.cell (p:=⟨w.heap.size+1,0,none⟩) (by rw[hs2];simp)).trans c1
  have HC:Hid (∀k (h1:k<xs.length) (h2:k<ys.length),∃b off b2 off2 a5 k5 a6 k6,a=some ⟨b,off,none⟩∧a2=some ⟨b2,off2,none⟩∧b<w2.heap.size∧b2<w2.heap.size∧w2.cell? ⟨b,off+k * 2,none⟩=some (.string xs[k].name)∧w2.cell? ⟨b2,off2+k * 2,none⟩=some (.string ys[k].name)∧w2.cell? ⟨b,off+k * 2+1,none⟩=some (.slice a5 xs[k].fields.length k5)∧w2.cell? ⟨b2,off2+k * 2+1,none⟩=some (.slice a6 ys[k].fields.length k6)∧aG lo w2 (.slice a5 xs[k].fields.length k5) xs[k].fields∧aG lo2 w2 (.slice a6 ys[k].fields.length k6) ys[k].fields):=fun k h1 h2=>by
   obtain⟨b,off,e1,_,l1,r1,_,ve,q1,s1⟩:=hc k h1
   obtain⟨b2,off2,e2,_,l2,r2,_,ue,q2,s2⟩:=hc2 k h2
   obtain⟨a5,k5,rfl,_⟩:=s1.form
   obtain⟨a6,k6,rfl,_⟩:=s2.form
   exact⟨b,off,b2,off2,a5,k5,a6,k6,e1,e2,l1,l2,r1,r2,q1,q2,s1,s2⟩
  have hw2:=HW2.out
  rw[hn] at c0 hw2 ⊢
  rw[hn2] at c1 hw2 ⊢
  rw[hn] at hl1
  clear hc hc2 hl hl2 hn hn2 HW2
  go_enter Tryz.func49,Tryz.ntmps49
  go_wp2_with fail
  go_loopg [5] n (fun q i wr=>∃k:Nat,k≤n∧q=n - k∧i=.int .i64 (k:Int)∧xs.take k=ys.take k∧Below w2.heap.size w2 wr)
  case atStart=>exact⟨0,eH _,rfl,rfl,rfl,Below.refl _ _⟩
  case round =>
   obtain⟨k,hk,rfl,rfl,htk,hb⟩:=hrel
   have HT:=hide htk
   clear htk c0 c1
   obtain⟨c0,c1⟩:=KB.out wr hb
   have GZ:=hide hb
   by_cases hlt:k<n
   ·have hki:(k:Int)<(n:Int):=by omega
    have k1:k<xs.length:=by have:=HN.out.1;omega
    have k2:k<ys.length:=by have:=HN.out.2;omega
    obtain⟨b,off,b2,off2,a5,k5,a6,k6,rfl,rfl,l1,l2,r1,r2,q1,q2,s1,s2⟩:=HC.out k k1 k2
    have I4:=hide (fun h=>IZ k1 k2 h)
    have Rh:=hide (fun h=>Eb k1 k2 h)
    have HT2:=hide (fun e=>uS k1 k2 HT.out e)
    obtain⟨s,hs⟩:∃s,xs[k]=s:=⟨_,rfl⟩
    obtain⟨t,ht⟩:∃t,ys[k]=t:=⟨_,rfl⟩
    rw[hs] at r1 q1 s1 I4 Rh HT2
    rw[ht] at r2 q2 s2 I4 Rh HT2
    obtain⟨nm,fs⟩:=s
    obtain⟨MW,gs⟩:=t
    simp only at r1 q1 s1 r2 q2 s2 I4 Rh
    have KS:Hid (∀X,Below w2.heap.size w2 X→X.cell? ⟨w.heap.size,0,none⟩=some (.slice (some ⟨b,off,none⟩) n cap)∧X.cell? ⟨w.heap.size+1,0,none⟩=some (.slice (some ⟨b2,off2,none⟩) n cap2)∧X.cell? ⟨b,off+k * 2,none⟩=some (.string nm)∧X.cell? ⟨b2,off2+k * 2,none⟩=some (.string MW)∧X.cell? ⟨b,off+k * 2+1,none⟩=some (.slice a5 fs.length k5)∧X.cell? ⟨b2,off2+k * 2+1,none⟩=some (.slice a6 gs.length k6)):=fun X h =>
     ⟨(KB.out X h).1,(KB.out X h).2,(h.cell (p:=⟨b,off+k * 2,none⟩) l1).trans r1,(h.cell (p:=⟨b2,off2+k * 2,none⟩) l2).trans r2,(h.cell (p:=⟨b,off+k * 2+1,none⟩) l1).trans q1,(h.cell (p:=⟨b2,off2+k * 2+1,none⟩) l2).trans q2⟩
    clear r1 r2 q1 q2 hs ht c0 c1 k1 k2
    obtain⟨c0,c1,g0,g1,g2,g3⟩:=KS.out wr hb
    by_cases hnm:nm=MW
    ·subst hnm
     by_cases hfl:fs.length=gs.length
     ·obtain⟨m,hm⟩:∃m,fs.length=m:=⟨_,rfl⟩
      have hm2:gs.length=m:=by omega
      have HM:=hide (And.intro hm hm2)
      obtain⟨a5',k5',e5,hf1⟩:=s1.form
      injection e5 with e5a _ e5c
      subst e5a e5c
      obtain⟨a6',k6',e6,hf2⟩:=s2.form
      injection e6 with e6a _ e6c
      subst e6a e6c
      have HF:Hid (∀j (h1:j<fs.length) (h2:j<gs.length),∃b5 o5 b6 o6 ve ue,a5=some ⟨b5,o5,none⟩∧a6=some ⟨b6,o6,none⟩∧b5<w2.heap.size∧b6<w2.heap.size∧w2.cell? ⟨b5,o5+j,none⟩=some ve∧w2.cell? ⟨b6,o6+j,none⟩=some ue∧gL lo w2 ve fs[j]∧gL lo2 w2 ue gs[j]):=fun j h1 h2=>by
       obtain⟨b5,o5,e1,_,l1,ve,r1,s1⟩:=hf1 j h1
       obtain⟨b6,o6,e2,_,l2,ue,r2,s2⟩:=hf2 j h2
       exact⟨b5,o5,b6,o6,ve,ue,e1,e2,l1,l2,by simpa using r1,by simpa using r2,s1,s2⟩
      have hml:=s1.1
      rw[hm] at hml g2 KS
      rw[hm2] at g3 KS
      clear hf1 hf2 s1 s2 hfl hm hm2 I4
      go_wp2_with fail
      go_quiet (fail)
      go_wp2_with fail
      go_loopg [6] m (fun q i wx=>∃j:Nat,j≤m∧q=m - j∧i=.int .i64 (j:Int)∧fs.take j=gs.take j∧Below w2.heap.size w2 wx)
      case atStart=>exact⟨0,eH _,rfl,rfl,rfl,below_drewN hb _⟩
      case round =>
       obtain⟨j,hj,rfl,rfl,htj,hbj⟩:=hrel
       obtain⟨Wj,rfl⟩:∃x,x=wr:=⟨_,rfl⟩
       have HTJ:=hide htj
       have HBJ:=hide hbj
       clear htj c0 c1 g0 g1 g2 g3
       obtain⟨c0,c1,g0,g1,g2,g3⟩:=KS.out Wj hbj
       by_cases hjl:j<m
       ·have hji:(j:Int)<(m:Int):=by omega
        have j1:j<fs.length:=by have:=HM.out.1;omega
        have j2:j<gs.length:=by have:=HM.out.2;omega
        obtain⟨b5,o5,b6,o6,ve,ue,rfl,rfl,l5,l6,r5,r6,p1,p2⟩:=HF.out j j1 j2
        have PW:=hide (fun h=>Rh.out (Rf j1 j2 h))
        have YP:=hide (fun e=>uS j1 j2 HTJ.out e)
        obtain⟨f,hf⟩:∃f,fs[j]=f:=⟨_,rfl⟩
        obtain⟨g,hg⟩:∃g,gs[j]=g:=⟨_,rfl⟩
        rw[hf] at p1 PW YP
        rw[hg] at p2 PW YP
        have KS2:Hid (∀X,Below w2.heap.size w2 X→X.cell? ⟨w.heap.size,0,none⟩=some (.slice (some ⟨b,off,none⟩) n cap)∧X.cell? ⟨w.heap.size+1,0,none⟩=some (.slice (some ⟨b2,off2,none⟩) n cap2)∧X.cell? ⟨b,off+k * 2+1,none⟩=some (.slice (some ⟨b5,o5,none⟩) m k5)∧X.cell? ⟨b2,off2+k * 2+1,none⟩=some (.slice (some ⟨b6,o6,none⟩) m k6)∧X.cell? ⟨b5,o5+j,none⟩=some ve∧X.cell? ⟨b6,o6+j,none⟩=some ue):=fun X h =>
         ⟨(KS.out X h).1,(KS.out X h).2.1,(KS.out X h).2.2.2.2.1,(KS.out X h).2.2.2.2.2,(h.cell (p:=⟨b5,o5+j,none⟩) l5).trans r5,(h.cell (p:=⟨b6,o6+j,none⟩) l6).trans r6⟩
        have HSF:=hide (fun X (h:Below w2.heap.size w2 X)=>IY f g ve ue X (At.kept iQ p1 h) (At.kept iQ p2 h))
        obtain⟨D,hDe⟩:∃D,Wj.drew=D:=⟨_,rfl⟩
        have hD0:Below w2.heap.size w2 Wj.drew:=hbj.drew
        have hD:Below w2.heap.size w2 D:=by rw[←hDe];exact hD0
        clear hf hg j1 j2 r5 r6 p1 p2 hbj g0 g1
        go_wp2_with fail
        go_region_held3 (fun X=>X.cell? ⟨w.heap.size,0,none⟩=some (.slice (some ⟨b,off,none⟩) n cap)∧X.cell? ⟨w.heap.size+1,0,none⟩=some (.slice (some ⟨b2,off2,none⟩) n cap2)∧X.cell? ⟨b,off+k * 2+1,none⟩=some (.slice (some ⟨b5,o5,none⟩) m k5)∧X.cell? ⟨b2,off2+k * 2+1,none⟩=some (.slice (some ⟨b6,o6,none⟩) m k6)∧X.cell? ⟨b5,o5+j,none⟩=some ve∧X.cell? ⟨b6,o6+j,none⟩=some ue)
         (first|with_reducible exact KS2.out _ hD0|with_reducible exact KS2.out _ hD|with_reducible exact KS2.out _ nX)
         ((go_at_call 77;refine(HSF.out _ hD).mono ?_;rintro e W9 ⟨bb,rfl,hbb,ou⟩;have nX:Below w2.heap.size w2 W9:=aj ou hD))
        have hcc:bb=true∨bb=false:=by cases bb;exact .inr rfl;exact .inl rfl
        rcases hcc with hcc|hcc
        ·subst hcc
         have Vn:=hide (YP.out (hbb.1 rfl))
         have YQ:Below w2.heap.size w2 W9:=aj ou hD
         go_wp2_with fail
         go_roundg (m - (j+1))
         case measure=>omega
         case rel=>exact⟨j+1,by omega,rfl,by go_num,Vn.out,YQ⟩
        ·subst hcc
         have Vn:=hide (PW.out (fun e=>by have:=hbb.2 e;cases this))
         have YQ:Below w2.heap.size w2 W9:=aj ou hD
         go_wp2_with fail
         go_ret
         exact⟨false,rfl,⟨fun h=>(by cases h),fun h=>absurd h Vn.out⟩,aj YQ HB0.out⟩
       ·have hji:¬(j:Int)<(m:Int):=by omega
        have HXF:Hid (fs=gs):=by
         have h1:=HM.out
         have:j=fs.length:=by omega
         have h2:=HTJ.out
         rw[this] at h2
         exact xQ (by omega) h2
        have Vn:=hide (HT2.out (by rw[HXF.out]))
        clear hbj
        go_wp2_with fail
        go_roundg (n - (k+1))
        case measure=>omega
        case rel=>exact⟨k+1,by omega,rfl,by go_num,Vn.out,HBJ.out⟩
     ·have hfi:¬(fs.length:Int)=(gs.length:Int):=by omega
      have hfb:((fs.length:Int) == (gs.length:Int))=false:=by simpa using hfi
      have HX:Hid (¬xs=ys):=Rh.out (fun e=>hfl (by rw[e]))
      have q1:=s1.1
      have q2:=s2.1
      clear hfl s1 s2
      go_wp2_with fail
      go_quiet (fail)
      go_wp2_with fail
      go_ret
      exact⟨false,rfl,⟨fun h=>(by cases h),fun h=>absurd h HX.out⟩,aj (below_drewN hb _) HB0.out⟩
    ·obtain⟨e1,e2⟩:=EX hnm
     have HX:Hid (¬xs=ys):=I4.out hnm
     have q1:=s1.1
     have q2:=s2.1
     clear hnm s1 s2
     go_wp2_with fail
     go_quiet (fail)
     go_wp2_with fail
     go_ret
     exact⟨false,rfl,⟨fun h=>(by cases h),fun h=>absurd h HX.out⟩,aj (below_drewN hb _) HB0.out⟩
   ·have hki:¬(k:Int)<(n:Int):=by omega
    have HX:Hid (xs=ys):=by
     have h1:=HN.out
     have:k=xs.length:=by omega
     have h2:=HT.out
     rw[this] at h2
     exact xQ (by omega) h2
    go_wp2_with fail
    go_ret
    exact⟨true,rfl,⟨fun _=>HX.out,fun _=>rfl⟩,aj GZ.out HB0.out⟩
 ·have hli:¬(xs.length:Int)=(ys.length:Int):=by omega
  have hlb:((xs.length:Int) == (ys.length:Int))=false:=by simpa using hli
  have HX:Hid (¬xs=ys):=fun e=>hl (by rw[e])
  have hw2:=HW2.out
  clear hc hc2 hl HW2
  go_enter Tryz.func49,Tryz.ntmps49
  go_wp2_with fail
  go_ret
  exact⟨false,rfl,⟨fun h=>(by cases h),fun h=>absurd h HX.out⟩,HB0.out⟩
end Go.Proofs.YtfdihjnlgdiioaaGreatDoor.dB
