import Derived.Test.YtfdihjnlgdiioaaGreatDoorG4
import Derived.Deep.DeepCutAuto
namespace Go.Proofs.YtfdihjnlgdiioaaGreatDoor.dB
open Go.ChangeShapes Go.WideShapes Go.ChangeAt Go.RowKit
set_option linter.unusedVariables false
set_option linter.unusedSimpArgs false
theorem Qy {e:TypeId} {base:Nat} {w:World} {xs:List lW} {vs:List Value} {bss:List (List Nat)} (h1:vs.length=xs.length) (h2:bss.length=xs.length) (h:∀i (h:i<xs.length) (h1:i<vs.length) (h2:i<bss.length),fV w vs[i] xs[i] bss[i]):Lens vs xs :=
 ⟨h1,fun i h3 h4=>by
  obtain⟨a,c,e,_⟩:=(bS.pO xu (h i h4 h3 (by omega)) (lo:=0) (fun _ _=>eH _)).form
  exact⟨a,c,e⟩⟩
theorem Hz {e:TypeId} {base:Nat} {w:World} {xs:List Field} {vs:List Value} {bss:List (List Nat)} (h1:vs.length=xs.length) (h2:bss.length=xs.length) (h:∀i (h:i<xs.length) (h1:i<vs.length) (h2:i<bss.length),bP w vs[i] xs[i] bss[i]):Lens vs xs :=
 ⟨h1,fun i h3 h4=>by
  obtain⟨a,c,e,_⟩:=(bS.pO oC (h i h4 h3 (by omega)) (lo:=0) (fun _ _=>eH _)).form
  exact⟨a,c,e⟩⟩
theorem Br {α:Type} {O:World→Value→α→List Nat→Prop} (hkeep:∀w w' v x bs,O w v x bs→w.heap.size≤w'.heap.size→(∀d∈bs,w'.heap[d]?=w.heap[d]?)→O w' v x bs)
  {e:TypeId} {base:Nat} {w w':World} {v u:Value} {xs:List α} {vs:List Value} {bss:List (List Nat)} (h1:vs.length=xs.length) (h2:bss.length=xs.length) (h4:bss.flatten.Nodup)
  (h5:∀i (h:i<xs.length) (h1:i<vs.length) (h2:i<bss.length),O w vs[i] xs[i] bss[i]∧∀b∈bss[i],base≤b∧b<w.heap.size∧v.ownBlock≠some b)
  (hbase:base≤w.heap.size) {k:Nat} (hk:k≤xs.length) (hu:w'.ownsRow w.heap.size e 1 u k (vs.take k)) (hb:Below w.heap.size w w'):pQ O e base w' u (xs.take k):=by
 have hl:(xs.take k).length=k:=by rw[List.length_take];omega
 refine⟨vs.take k,bss.take k,by rw[List.length_take,List.length_take,h1],by rw[List.length_take,List.length_take,h2],by rw[hl];exact qE hu hbase,?_,fun i hi g1 g2=>?_⟩
 ·have hsub:bss.flatten=(bss.take k).flatten++(bss.drop k).flatten:=by rw[←List.flatten_append,List.take_append_drop]
  rw[hsub,List.nodup_append] at h4
  exact h4.1
 ·rw[hl] at hi
  rw[List.getElem_take,List.getElem_take,List.getElem_take]
  obtain⟨k1,k2⟩:=h5 i (by omega) (by omega) (by omega)
  refine⟨hkeep _ _ _ _ _ k1 hb.size fun d hd=>hb.block d (k2 d hd).2.1,fun b hb'=>⟨(k2 b hb').1,Nat.lt_of_lt_of_le (k2 b hb').2.1 hb.size,fun e=>?_⟩⟩
  have:=(oH hu e).1
  have:=(k2 b hb').2.1
  omega
theorem MJ {α β:Type} {f:List α→List β} (hf:∀x,(f x).length=x.length) {vs:List Value} {ys:List (List α)} (h:Lens vs (ys.map f)):Lens vs ys :=
 ⟨by have:=h.1;rwa [List.length_map] at this,fun i h1 h2=>by
  obtain⟨a,c,e⟩:=h.2 i h1 (by rw[List.length_map];exact h2)
  rw[List.getElem_map,hf] at e
  exact⟨a,c,e⟩⟩
def gy (d0 d1 d2:UInt8) (l:List UInt8):List (List (List (List UInt8))):=ay List.isEmpty (((bI d0 l).drop 1).map (dX d1 d2))
set_option maxRecDepth 100000 in
set_option maxHeartbeats 8000000 in
theorem Bt (name r d:ByteArray) (w:World) (hr:r.size≤40000) (hd:d.size=5) (hm:Mx w) :
  Calls Tryz.prog 59 #[.string name,.string r,.string d] w fun e w'=>∃u,e=.returned (.agg #[.string name,u])∧∃bs,aN w' u ((gy d[0] d[1] d[2] r.data.toList).map bL) bs∧bs.Nodup∧(∀b∈bs,w.heap.size≤b)∧Below w.heap.size w w':=by
 obtain⟨i1,hi1,hy0,hy1,hy2⟩:=gV sZ
 obtain⟨i2,hi2,hx0,hx1,hx2⟩:=gV kL
 have hd0:(0:Int)<(d.size:Int):=by omega
 have hd1:(1:Int)<(d.size:Int):=by omega
 have hd2:(2:Int)<(d.size:Int):=by omega
 have hb0:=(Below.refl w.heap.size w).alloc (aS _) (Obj.cells #[.string ByteArray.empty,.slice none 0 0] 54)
 have HB0:=hide hb0
 have hm0:=hm.kept hb0
 have HMP:=hide hm.pos
 have HMX:=hide hm0
 clear hb0 hm
 have hsl:r.data.toList.length=r.size:=by simp
 have hlen:(bI d[0] r.data.toList).length≤40001:=by have:=lX d[0] r.data.toList;omega
 have hpos:=jC d[0] r.data.toList
 have nC:Hid (∀p∈bI d[0] r.data.toList,p.length≤40000):=fun p hp=>by have:=jQ d[0] r.data.toList p hp;omega
 obtain⟨ps,hps⟩:∃ps,bI d[0] r.data.toList=ps:=⟨_,rfl⟩
 have AJ:=hide hps
 rw[hps] at hlen hpos nC
 clear hsl hm0 hps
 go_enter Tryz.func59,Tryz.ntmps59
 go_upto_region 2 with fail
 go_cut [17,18,19] (fun s17 s18 s19 wx=>∃(g:Nat) (A:Option Addr) (c:Nat),s17=.slice A (ps.length - 1) c∧(1<ps.length→A=some ⟨g,1,none⟩)∧s18=.int .i64 ((ps.length - 1:Nat):Int)∧s19=.int .i64 0∧g<wx.heap.size∧(∀i (hi:i<ps.length),wx.cell? ⟨g,i,none⟩=some (.string (txt ps[i])))∧Below (w.heap.size+1) (w.alloc (Obj.cells #[.string ByteArray.empty,.slice none 0 0] 54)) wx)
 case first =>
  go_wp2_with fail
  refine(lG r d[0] _ (by omega) HMX.out).mono ?_
  rintro e Wb ⟨u,rfl,hu,hb1⟩
  rw[AJ.out] at hu
  obtain⟨g,cap,rfl,hg,hgl,hcap,hcm,hcell⟩:=lu hu hpos
  have HC:=hide hcell
  have nA:Hid (Below (w.heap.size+1) (w.alloc (Obj.cells #[.string ByteArray.empty,.slice none 0 0] 54)) Wb):=by have:=hb1;simp at this;exact this
  have HCAP:=hide hcap
  clear hu hcell hb1
  go_wp2_with fail
  ·go_meet
   case rel=>exact⟨g,_,_,rfl,fun h=>by have:=HCAP.out;omega,rfl,rfl,hgl,fun i hi=>(HC.out i hi).1,nA.out⟩
  ·go_meet
   case rel=>exact⟨g,_,_,rfl,fun h=>rfl,rfl,rfl,hgl,fun i hi=>(HC.out i hi).1,nA.out⟩
 case rest =>
  obtain⟨g,A,c,rfl,hA,rfl,rfl,hgl,hcell,hbx⟩:=hcut
  obtain⟨Wb,rfl⟩:∃x,x=wc:=⟨_,rfl⟩
  have HA:=hide hA
  have HC:=hide hcell
  have jr:=hide hbx
  have Uj:=hide (HMX.out.below (B:=w.heap.size+1) (by have:=HMP.out;omega) hbx)
  have hsb:w.heap.size<Wb.heap.size:=by have:=hbx.size;simp at this;omega
  clear hA hcell hbx
  have hln:ps.length - 1≤40000:=by omega
  obtain⟨N,hN⟩:∃N,ps.length - 1=N:=⟨_,rfl⟩
  have HN:=hide hN
  rw[hN] at hln ⊢
  clear hN
  have MK:Hid (∀k (h:k<N),Wb.cell? ⟨g,1+k,none⟩=some (.string (txt (ps[1+k]'(by have:=HN.out;omega))))∧A=some ⟨g,1,none⟩∧(ps[1+k]'(by have:=HN.out;omega)).length≤40000):=fun k h=>by
   have hN:=HN.out
   exact⟨HC.out (1+k) (by omega),HA.out (by omega),nC.out _ (List.getElem_mem _)⟩
  have UW:Hid ((ps.drop 1).length=N):=by rw[List.length_drop];exact HN.out
  have HDR:Hid (∀k (h:k<N),(ps.drop 1)[k]'(by rw[UW.out];exact h)=ps[1+k]'(by have:=HN.out;omega)):=fun k h=>List.getElem_drop
  clear HA HC nC
  go_wp2_with fail
  go_loopg [7,19] N (fun n v i wr=>∃k:Nat,k≤N∧n=N - k∧i=.int .i64 k∧pQ bP 57 Wb.heap.size wr v (((ps.drop 1).take k).map (fun p=>bL (dX d[1] d[2] p)))∧Below Wb.heap.size Wb wr∧(k=0→v=.slice none 0 0))
  case atStart=>exact⟨0,eH _,by simp,rfl,by simpa using pQ.nil bP 57 Wb.heap.size Wb,Below.refl _ _,fun _=>rfl⟩
  case round =>
   obtain⟨k,hk,rfl,rfl,hL,hb,hnil⟩:=hrel
   obtain⟨W1,rfl⟩:∃x,x=wr:=⟨_,rfl⟩
   obtain⟨V1,rfl⟩:∃x,x=u7:=⟨_,rfl⟩
   have HL:=hide hL
   have HB:=hide hb
   have aea:=hide hnil
   have Yn:=hide (Uj.out.kept hb)
   have Bu:=hb.size
   clear hL hb hnil
   by_cases hlt:k<N
   ·obtain⟨hc0,rfl,hp0⟩:=MK.out k hlt
    obtain⟨p,hp⟩:∃p,ps[1+k]'(by have:=HN.out;omega)=p:=⟨_,rfl⟩
    have Uk:Hid ((ps.drop 1)[k]'(by rw[UW.out];exact hlt)=p):=by rw[HDR.out k hlt,hp];trivial
    rw[hp] at hc0 hp0
    clear hp
    have hc1:W1.cell? ⟨g,1+k,none⟩=some (.string (txt p)):=by rw[HB.out.cell (p:=⟨g,1+k,none⟩) hgl];exact hc0
    have ags:(txt p).size≤40000:=by rw[dn];exact hp0
    obtain⟨qs,hqs⟩:∃qs,bI d[2] p=qs:=⟨_,rfl⟩
    have HQS:=hide hqs
    have aa5:0<qs.length:=by rw[←hqs];exact jC d[2] p
    have afT:qs.length≤40001:=by rw[←hqs];have:=lX d[2] p;omega
    have HQZ:Hid (∀x∈qs,x.length≤40000):=fun x hx=>by rw[←hqs] at hx;have:=jQ d[2] p x hx;omega
    clear hqs hc0
    go_wp2_with fail
    refine(lG (txt p) d[2] _ (by omega) Yn.out).mono ?_
    rintro e W2 ⟨u2,rfl,hu2,hb2⟩
    rw[eU,HQS.out] at hu2
    obtain⟨g2,cap2,rfl,hg2,aeb,hcap2,hcm2,hcell2⟩:=lu hu2 aa5
    have HC2:=hide hcell2
    have HB2:=hide hb2
    have HM2:=hide (Yn.out.kept hb2)
    have D9:=hb2.size
    clear hu2 hcell2 hb2 hc1
    go_wp2_with fail
    go_loopg [10,28] qs.length (fun n v i wr=>∃q:Nat,q≤qs.length∧n=qs.length - q∧i=.int .i64 q∧pQ fV 60 W2.heap.size wr v ((qs.take q).map (fun x=>jR (dF d[1] x)))∧Below W2.heap.size W2 wr)
    case atStart=>exact⟨0,eH _,by simp,rfl,by simpa using pQ.nil fV 60 W2.heap.size W2,Below.refl _ _⟩
    case round =>
     obtain⟨q,hq,rfl,rfl,hL2,hb3⟩:=hrel
     obtain⟨W3,rfl⟩:∃x,x=wr:=⟨_,rfl⟩
     obtain⟨V3,rfl⟩:∃x,x=u10:=⟨_,rfl⟩
     have HL2:=hide hL2
     have HB3:=hide hb3
     have HM3:=hide (HM2.out.kept hb3)
     have Kv:=hb3.size
     clear hL2 hb3
     by_cases hq2:q<qs.length
     ·have hc3:W3.cell? ⟨g2,q,none⟩=some (.string (txt qs[q])):=by rw[HB3.out.cell (p:=⟨g2,q,none⟩) aeb];exact(HC2.out q hq2).1
      have hqz:=HQZ.out qs[q] (List.getElem_mem hq2)
      have agt:(txt qs[q]).size≤40000:=by rw[dn];exact hqz
      have aa6:=jC d[1] qs[q]
      have aa7:(bI d[1] qs[q]).length≤40001:=by have:=lX d[1] qs[q];omega
      have HTZ:Hid (∀x∈bI d[1] qs[q],x.length≤1048576):=fun x hx=>by have:=jQ d[1] qs[q] x hx;omega
      go_wp2_with fail
      refine(lG (txt qs[q]) d[1] _ (by omega) HM3.out).mono ?_
      rintro e W4 ⟨u4,rfl,Kw,hb4⟩
      rw[eU] at Kw
      have aec:=hb4.size
      go_wp2_with fail
      refine(oJ (bI d[1] qs[q]) _ _ _ Kw aa6 aa7 HTZ.out).mono ?_
      rintro e W5 ⟨u5,rfl,hu5,hb5⟩
      have agu:=hb5.size
      have hcl:(dF d[1] qs[q]).length≤40001:=by
       have h1:dF d[1] qs[q]=ay List.isEmpty (bI d[1] qs[q]):=rfl
       rw[h1];unfold ay;rw[List.length_take];omega
      obtain⟨a5,cap5,Bv,Xm,qF,Bw,Ag⟩:=oG.strs (xs:=jR (dF d[1] qs[q])) hu5 (by unfold jR;rw[List.length_map];omega) (fun c hc=>by
       unfold jR at hc
       rw[List.mem_map] at hc
       obtain⟨x,hx,rfl⟩:=hc
       rw[dn]
       have:=HTZ.out x (mJ hx)
       omega)
      subst Bv
      obtain⟨vs,bss,hv1,hv2,hv3,hv4,hv5⟩:=HL2.out
      have aa8:Below W3.heap.size W3 W5:=aJ hb5 hb4
      have gI:Below W3.heap.size W3 (W5.alloc (Obj.cells #[.slice a5 (jR (dF d[1] qs[q])).length cap5] 60)):=aa8.alloc aa8.size _
      have Kh:=bS.kept d9 qF (w':=W5.alloc (Obj.cells #[.slice a5 (jR (dF d[1] qs[q])).length cap5] 60)) (by simp) (fun c hc=>Deep.blk_alloc_lt _ _ _ (bS.lt jy qF c hc))
      have gZ:=own_below hv3 gI
      have hvl:((qs.take q).map (fun x=>jR (dF d[1] x))).length=q:=by rw[List.length_map,List.length_take];omega
      have Qz:=hide hvl
      have NQ:=hide hv3
      have AB:=hide gI
      have NR:=hide Kh
      have GX:=hide Bw
      have sQ:Hid (∀b∈Xm,W3.heap.size≤b):=fun b hb=>by have:=Ag b hb;omega
      rw[hvl] at gZ
      clear hv1 hv2 hv3 hv4 hv5 gI Kh Bw Ag qF Kw hu5 hb4 hb5 hc3 hvl
      go_wp2_with (first
       | (at_builtin;refine wpList_append_own_at _ rfl _ _ 55 rfl W2.heap.size 60 i1 (.agg #[.slice none 0 0]) 1 24 Tryz.underlying55 hi1 hy0 hy1 hy2 rfl (by decide) _ _ _ rfl gZ ⟨W5.heap.size,0,none⟩ 1 1 [.slice a5 (jR (dF d[1] qs[q])).length cap5] rfl rfl ?c1 ?c2 ?c3 ?c4 ?c5 ?_)
       | fail)
      case c1=>exact gH _ _ _
      case c2=>exact qz _ _ _
      case c3=>unfold maxLen;omega
      case c4=>omega
      case c5=>simp;omega
      intro v' w6 hown' hgrow hnil hat
      have QA:=hide (pQ.push (O:=fV) (fun _ _ _ _ _ h s d=>bS.kept d9 h s d) (fun _ _ _ _ h=>bS.lt jy h) HL2.out Kv AB.out NR.out sQ.out GX.out NQ.out Qz.out.symm hown' hgrow (by simpa using hat))
      have Bz:Hid (Below W2.heap.size W2 w6):=(HB3.out.trans (AB.out.mono Kv)).grown hgrow (by simp;omega) (fun b hb'=>(oH gZ hb').1)
      have QB:Hid ((qs.take q).map (fun x=>jR (dF d[1] x))++[jR (dF d[1] qs[q])]=(qs.take (q+1)).map (fun x=>jR (dF d[1] x))):=by rw[List.take_succ_eq_append_getElem hq2,List.map_append];rfl
      clear hown' hgrow hnil hat gZ
      go_wp2_with fail
      go_roundg (qs.length - (q+1))
      case measure=>omega
      case rel=>exact⟨q+1,by omega,rfl,by go_num,by rw[←QB.out];exact QA.out,Bz.out⟩
     ·obtain rfl:q=qs.length:=by omega
      obtain⟨vs,bss,hv1,hv2,hv3,hv4,hv5⟩:=HL2.out
      have HXE:Hid ((qs.take qs.length).map (fun x=>jR (dF d[1] x))=(qs.map (dF d[1])).map jR):=by rw[List.take_length,List.map_map];rfl
      have hvl:vs.length=qs.length:=by rw[hv1,List.length_map,List.length_take];omega
      have H6:Lens vs (qs.map (dF d[1])):=MJ (f:=jR) (fun x=>by unfold jR;rw[List.length_map]) (by
       have:=Qy (e:=60) (base:=0) hv1 hv2 (fun i h h1 h2=>(hv5 i h h1 h2).1)
       rwa [HXE.out] at this)
      have Yo:=kE List.isEmpty (qs.map (dF d[1]))
      rw[List.length_map] at Yo
      have hrow:W3.ownsRow W2.heap.size 60 1 V3 vs.length vs:=by rw[hv1];exact hv3
      have NS:Hid (bL (dX d[1] d[2] p)=((qs.take qs.length).map (fun x=>jR (dF d[1] x))).take (aK List.isEmpty (qs.map (dF d[1])))):=by
       rw[HXE.out]
       show (dX d[1] d[2] p).map jR=_
       have h1:dX d[1] d[2] p=ay List.isEmpty ((bI d[2] p).map (dF d[1])):=rfl
       rw[h1,HQS.out]
       unfold ay
       rw[List.map_take]
      have HMV:=hide (fun(w':World) (u:Value) (hu:w'.ownsRow W3.heap.size 60 1 u (aK List.isEmpty (qs.map (dF d[1]))) (vs.take (aK List.isEmpty (qs.map (dF d[1]))))) (hb:Below W3.heap.size W3 w') =>
       Br (O:=fV) (e:=60) (base:=W2.heap.size) (v:=V3) (fun _ _ _ _ _ h s d=>bS.kept d9 h s d) hv1 hv2 hv4 hv5 Kv (by rw[List.length_map,List.length_take];omega) hu hb)
      clear hv1 hv2 hv3 hv4 hv5
      go_wp2_with fail
      refine(og (qs.map (dF d[1])) vs W2.heap.size V3 _ hrow H6 (by omega) (by omega) (fun x hx=>by
       rw[List.mem_map] at hx
       obtain⟨y,hy,rfl⟩:=hx
       have h1:dF d[1] y=ay List.isEmpty (bI d[1] y):=rfl
       have h2:=lX d[1] y
       have h3:=HQZ.out y hy
       rw[h1];unfold ay;rw[List.length_take];omega)).mono ?_
      rintro e W4 ⟨u4,rfl,Kw,hb4⟩
      have aec:=hb4.size
      have Yp:=HMV.out W4 u4 Kw hb4
      rw[←NS.out] at Yp
      have hfl:(bL (dX d[1] d[2] p)).length≤40001:=by rw[NS.out,List.length_take,List.length_map,List.length_take];omega
      obtain⟨a5,cap5,Bv,_,_,Xm,qF,Bw,Ag⟩:=pQ.take (R:=Km) (fun w b off x bs v h1 h2=>⟨v,h1,h2⟩) Yp (by omega) (n:=(bL (dX d[1] d[2] p)).length) (aS _)
      rw[List.take_length] at qF
      subst Bv
      obtain⟨vs1,agv,hw1,hw2,hw3,hw4,NT⟩:=HL.out
      have aa9:Below W1.heap.size W1 W4:=aJ hb4 (aJ HB3.out HB2.out)
      have gI:Below W1.heap.size W1 (W4.alloc (Obj.cells #[.slice a5 (bL (dX d[1] d[2] p)).length cap5] 57)):=aa9.alloc aa9.size _
      have Kh:=bS.kept fD qF (w':=W4.alloc (Obj.cells #[.slice a5 (bL (dX d[1] d[2] p)).length cap5] 57)) (by simp) (fun c hc=>Deep.blk_alloc_lt _ _ _ (bS.lt dJ qF c hc))
      have gZ:=own_below hw3 gI
      have Yq:(((ps.drop 1).take k).map (fun p=>bL (dX d[1] d[2] p))).length=k:=by rw[List.length_map,List.length_take,UW.out];omega
      have Qz:=hide Yq
      have NQ:=hide hw3
      have AB:=hide gI
      have NR:=hide Kh
      have GX:=hide Bw
      have sQ:Hid (∀b∈Xm,W1.heap.size≤b):=fun b hb=>by have:=Ag b hb;omega
      rw[Yq] at gZ
      clear hw1 hw2 hw3 hw4 NT gI Kh Bw Ag qF Kw hb4 Yp Yq hrow H6
      go_wp2_with (first
       | (at_builtin;refine wpList_append_own_at _ rfl _ _ 52 rfl Wb.heap.size 57 i2 (.agg #[.slice none 0 0]) 1 24 Tryz.underlying52 hi2 hx0 hx1 hx2 rfl (by decide) _ _ _ rfl gZ ⟨W4.heap.size,0,none⟩ 1 1 [.slice a5 (bL (dX d[1] d[2] p)).length cap5] rfl rfl ?c1 ?c2 ?c3 ?c4 ?c5 ?_)
       | fail)
      case c1=>exact gH _ _ _
      case c2=>exact qz _ _ _
      case c3=>unfold maxLen;omega
      case c4=>omega
      case c5=>simp;omega
      intro v' w6 hown' hgrow hnil hat
      have QA:=hide (pQ.push (O:=bP) (fun _ _ _ _ _ h s d=>bS.kept fD h s d) (fun _ _ _ _ h=>bS.lt dJ h) HL.out Bu AB.out NR.out sQ.out GX.out NQ.out Qz.out.symm hown' hgrow (by simpa using hat))
      have Bz:Hid (Below Wb.heap.size Wb w6):=(HB.out.trans (AB.out.mono Bu)).grown hgrow (by simp;omega) (fun b hb'=>(oH gZ hb').1)
      have QB:Hid (((ps.drop 1).take k).map (fun p=>bL (dX d[1] d[2] p))++[bL (dX d[1] d[2] p)]=((ps.drop 1).take (k+1)).map (fun p=>bL (dX d[1] d[2] p))):=by
       rw[List.take_succ_eq_append_getElem (by rw[UW.out];exact hlt),List.map_append,List.map_cons,Uk.out];rfl
      clear hown' hgrow hnil hat gZ
      go_wp2_with fail
      go_roundg (N - (k+1))
      case measure=>omega
      case rel=>exact⟨k+1,by omega,rfl,by go_num,by rw[←QB.out];exact QA.out,Bz.out,fun h=>absurd h (by omega)⟩
   ·obtain rfl:k=N:=by omega
    obtain⟨vs,bss,hv1,hv2,hv3,hv4,hv5⟩:=HL.out
    have HXE:Hid (((ps.drop 1).take k).map (fun p=>bL (dX d[1] d[2] p))=((ps.drop 1).map (dX d[1] d[2])).map bL):=by rw[List.take_of_length_le (by rw[UW.out];omega),List.map_map];rfl
    have hvl:vs.length=k:=by rw[hv1,List.length_map,List.length_take,UW.out];omega
    have H6:Lens vs ((ps.drop 1).map (dX d[1] d[2])):=MJ (f:=bL) (fun x=>by unfold bL;rw[List.length_map]) (by
     have:=Hz (e:=57) (base:=0) hv1 hv2 (fun i h h1 h2=>(hv5 i h h1 h2).1)
     rwa [HXE.out] at this)
    have Yo:=kE List.isEmpty ((ps.drop 1).map (dX d[1] d[2]))
    rw[List.length_map,UW.out] at Yo
    have hrow:W1.ownsRow Wb.heap.size 57 1 V1 vs.length vs:=by rw[hv1];exact hv3
    have NS:Hid ((gy d[0] d[1] d[2] r.data.toList).map bL=(((ps.drop 1).take k).map (fun p=>bL (dX d[1] d[2] p))).take (aK List.isEmpty ((ps.drop 1).map (dX d[1] d[2])))):=by
     rw[HXE.out]
     unfold gy
     rw[AJ.out]
     unfold ay
     rw[List.map_take];trivial
    have HMV:=hide (fun(w':World) (u:Value) (hu:w'.ownsRow W1.heap.size 57 1 u (aK List.isEmpty ((ps.drop 1).map (dX d[1] d[2]))) (vs.take (aK List.isEmpty ((ps.drop 1).map (dX d[1] d[2]))))) (hb:Below W1.heap.size W1 w') =>
     Br (O:=bP) (e:=57) (base:=Wb.heap.size) (v:=V1) (fun _ _ _ _ _ h s d=>bS.kept fD h s d) hv1 hv2 hv4 hv5 Bu (by rw[List.length_map,List.length_take,UW.out];omega) hu hb)
    clear hv1 hv2 hv3 hv4 hv5
    go_wp2_with fail
    refine(oK name ((ps.drop 1).map (dX d[1] d[2])) vs Wb.heap.size V1 _ hrow H6 (fun h=>aea.out (by omega)) (by omega) (fun x hx=>by
     rw[List.mem_map] at hx
     obtain⟨y,hy,rfl⟩:=hx
     have h1:dX d[1] d[2] y=ay List.isEmpty ((bI d[2] y).map (dF d[1])):=rfl
     have h2:=lX d[2] y
     obtain⟨i,hi,rfl⟩:=List.getElem_of_mem hy
     have hik:i<k:=by rw[UW.out] at hi;exact hi
     have h3:=(MK.out i hik).2.2
     rw[HDR.out i hik] at h2 h1
     rw[HDR.out i hik,h1];unfold ay;rw[List.length_take,List.length_map];omega)).mono ?_
    rintro e W4 ⟨u4,rfl,Kw,hb4⟩
    have Yp:=HMV.out W4 u4 Kw hb4
    rw[←NS.out] at Yp
    have hfl:((gy d[0] d[1] d[2] r.data.toList).map bL).length≤40001:=by rw[NS.out,List.length_take,List.length_map,List.length_take];omega
    obtain⟨a5,cap5,Bv,_,_,Xm,qF,Bw,Ag⟩:=pQ.take (R:=qZ) (fun w b off x bs v h1 h2=>⟨v,h1,h2⟩) Yp (by omega) (n:=((gy d[0] d[1] d[2] r.data.toList).map bL).length) (aS _)
    rw[List.take_length] at qF
    subst Bv
    have dP:Below (w.heap.size+1) (w.alloc (Obj.cells #[.string ByteArray.empty,.slice none 0 0] 54)) W4:=jr.out.trans ((HB.out.trans (hb4.mono Bu)).mono (by omega))
    have hs4:w.heap.size<W4.heap.size:=by have:=dP.size;simp at this;omega
    have hc2:W4.cell? ⟨w.heap.size,0,none⟩=some (.string ByteArray.empty):=by rw[dP.cell (p:=⟨w.heap.size,0,none⟩) (by simp)];simp
    have hf2:W4.frozen? ⟨w.heap.size,0,none⟩=false:=by rw[dP.frozen (p:=⟨w.heap.size,0,none⟩) (by simp)];simp
    have hc3:W4.cell? ⟨w.heap.size,1,none⟩=some (.slice none 0 0):=by rw[dP.cell (p:=⟨w.heap.size,1,none⟩) (by simp)];simp
    have hf3:W4.frozen? ⟨w.heap.size,1,none⟩=false:=by rw[dP.frozen (p:=⟨w.heap.size,1,none⟩) (by simp)];simp
    have jH:Hid (∀x y,Below w.heap.size w ((W4.setCell ⟨w.heap.size,0,none⟩ x).setCell ⟨w.heap.size,1,none⟩ y)):=fun x y=>((HB0.out.trans (dP.mono (by omega))).setCell (p:=⟨w.heap.size,0,none⟩) (by simp) x).setCell (p:=⟨w.heap.size,1,none⟩) (by simp) y
    have GY:Hid (∀x y,aN ((W4.setCell ⟨w.heap.size,0,none⟩ x).setCell ⟨w.heap.size,1,none⟩ y) (.slice a5 ((gy d[0] d[1] d[2] r.data.toList).map bL).length cap5) ((gy d[0] d[1] d[2] r.data.toList).map bL) Xm):=fun x y =>
     bS.kept bQ qF (by rw[Deep.nblk_setCell,Deep.nblk_setCell];exact aS _) (fun c hc=>by
      have:=Ag c hc
      rw[Deep.blk_setCell_other _ _ _ _ (by simp;omega),Deep.blk_setCell_other _ _ _ _ (by simp;omega)])
    have sQ:Hid (∀b∈Xm,w.heap.size≤b):=fun b hb=>by have:=Ag b hb;omega
    have GX:=hide Bw
    clear Yp qF Bw Ag Kw hb4 dP hrow H6
    go_wp2_with fail
    exact bodyPost_ret (v:=.agg #[.string name,.slice a5 ((gy d[0] d[1] d[2] r.data.toList).map bL).length cap5]) (by simp[results,Tryz.results59,go_sem,hc2,hf2,hs4,hc3,hf3]) rfl ⟨_,rfl,Xm,GY.out _ _,GX.out,sQ.out,jH.out _ _⟩
end Go.Proofs.YtfdihjnlgdiioaaGreatDoor.dB
