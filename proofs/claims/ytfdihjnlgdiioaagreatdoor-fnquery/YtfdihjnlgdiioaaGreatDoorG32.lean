import Derived.Test.YtfdihjnlgdiioaaGreatDoorG28
namespace Go.Proofs.YtfdihjnlgdiioaaGreatDoor.dB
open Go.ChangeShapes Go.WideShapes Go.ChangeAt Go.RowKit
set_option linter.unusedVariables false
set_option linter.unusedSimpArgs false
def Db (cs:List UInt8) (p:Nat) (m:List Seg):List Seg :=
 if tk cs p 12=10 then [] else if tk cs p 12=11 then [⟨⟨#[77,83,72]⟩,[]⟩,⟨⟨#[90,90,90]⟩,[[[oP ⟨#[118]⟩ (39986+tk cs (p+1+1) 2+1) (39986+tk cs (p+1+1) 2)]]]⟩]
 else if tk cs p 12=9 then kC (tk cs p 12) (tk cs (p+1) m.length) (tk cs (p+1+1) 2) m m.length++List.replicate (250+tk cs (p+1+1) 2 - m.length) ⟨⟨#[90,90,90]⟩,[]⟩
 else kC (tk cs p 12) (tk cs (p+1) m.length) (tk cs (p+1+1) 2) m m.length
theorem iB.SE {base L:Nat} {bad:Nat→Prop} {w:World} {v:Value} {ps:List Jd} (h:iB base bad w v ps) (hl:ps.length≤9223372036854775807) (hL:L≤base) (hbad:∀b,b<L→bad b):aX L w v (ps.map Prod.fst):=by
 obtain⟨h0,hA⟩:=FB.at (C:=Lc) (c:=2) (Z:=fun _=>True) (fun _=>rfl) h.row hl (fun i hi=>trivial)
 refine⟨by rw[List.length_map];exact h0,?_⟩
 rcases hA with⟨a,cap,e,e2⟩|⟨b,off,cap,e,hb,hA⟩
 ·exact .inl ⟨a,cap,e,by rw[e2];rfl⟩
 ·refine .inr ⟨b,off,cap,by rw[List.length_map];exact e,⟨Nat.le_trans hL hb.1,hb.2⟩,fun i hi=>?_⟩
  have hi':i<ps.length:=by rw[List.length_map] at hi;exact hi
  rw[List.getElem_map]
  have h1:=(hA i hi').1
  obtain⟨bs,hO,hbs⟩:=h.el ps[i] (List.getElem_mem hi')
  refine⟨by simpa [Lc] using h1 0 (by simp[Lc]),h.nm _ (List.getElem_mem hi'),sgV ps[i],by simpa [Lc,sgV] using h1 1 (by simp[Lc]),bS.pO mG hO fun d hd=>?_⟩
  by_cases hd':L≤d
  ·exact hd'
  ·exact absurd (hbad d (by omega)) (hbs d hd).2.1
theorem Wq {w:World} {b b2 lo:Nat} {n0 n1:ByteArray} {fv:Value} {f:Field} {bs:List Nat} (h:aU w b 54 #[.string n0,.slice none 0 0,.string n1,.slice (some ⟨b2,0,none⟩) 1 1]) (h2:aU w b2 57 #[fv]) (hO:bP w fv f bs) (l1:lo≤b) (l2:lo≤b2) (l3:∀d∈bs,lo≤d) (z0:n0.size≤9223372036854775807:=by decide) (z1:n1.size≤9223372036854775807:=by decide):aX lo w (.slice (some ⟨b,0,none⟩) 2 2) [⟨n0,[]⟩,⟨n1,[f]⟩]:=by
 refine⟨by simp,.inr ⟨b,0,2,rfl,⟨l1,h.lt⟩,fun i hi=>?_⟩⟩
 have hi':i<2:=hi
 match i,hi' with
 | 0,_=>exact⟨by simpa using h.cell 0 (by simp),z0,.slice none 0 0,by simpa using h.cell 1 (by simp),by simp,.inl ⟨none,0,rfl,rfl⟩⟩
 | 1,_=>exact⟨by simpa using h.cell 2 (by simp),z1,.slice (some ⟨b2,0,none⟩) 1 1,by simpa using h.cell 3 (by simp),by simp,.inr ⟨b2,0,1,rfl,⟨l2,h2.lt⟩,fun j hj=>by
   obtain rfl:j=0:=by simp at hj;omega
   exact⟨fv,by simpa using h2.cell 0 (by simp),bS.pO oC hO l3⟩⟩⟩
theorem wS:qM fV:=fun _ _ _ _ _ h s d=>bS.kept d9 h s d
theorem O4 (A X:Nat) (s:Seg) (h:s.fields.length≤20) (hx:X≤1):(lK A X s).fields.length≤1000:=by
 unfold lK
 repeat (split;· (try simp only[List.length_append,List.length_replicate,List.length_cons,List.length_nil]);omega)
 omega
theorem LW (A X:Nat) (s:Seg) (h:s.name.size≤3):(lK A X s).name.size≤3:=by
 unfold lK
 repeat (split;· first|exact h|exact(by decide:(3:Nat)≤3)|exact(by decide:(1:Nat)≤3))
 exact h
theorem SF (A X:Nat) (s:Seg) (h:9≤A):lK A X s=s:=by
 unfold lK
 rw[if_neg (by omega),if_neg (by omega),if_neg (by omega),if_neg (by omega),if_neg (by omega),if_neg (by omega),if_neg (by omega),if_neg (by omega),if_neg (by omega)]
theorem Gw {w:World} {b:Nat} {xs:List ByteArray} (h:aU w b 9 (xs.map Value.string).toArray) (hl:xs.length≤1000) (hz:∀s∈xs,s.size≤9223372036854775807) {c:Nat}:fV w (.slice (some ⟨b,0,none⟩) xs.length c) xs [b]:=by
 refine⟨by omega,.inr ⟨b,0,c,List.replicate xs.length [],rfl,h.lt,by simp,by simp,fun i hi h2=>?_⟩⟩
 have q:=h.cell i (by simpa using hi)
 refine⟨by simpa using q,by simpa using h.frozen i,hz _ (List.getElem_mem hi),by simp⟩
theorem LX {w:World} {b:Nat} {v:Value} {xs:lW} {bs:List Nat} (h:aU w b 60 #[v]) (hO:fV w v xs bs) {c:Nat}:bP w (.slice (some ⟨b,0,none⟩) 1 c) [xs] (b :: bs):=by
 refine⟨by simp,.inr ⟨b,0,c,[bs],rfl,h.lt,by simp,rfl,fun i hi h2=>?_⟩⟩
 obtain rfl:i=0:=by simp at hi;omega
 exact⟨v,by simpa using h.cell 0 (by simp),hO⟩
theorem JD (w:World) (o:Obj) (t:TypeId) (cs:Array Value):aU ((w.alloc o).alloc (.cells cs t)) (w.heap.size+1) t cs:=by
 have:=aU.new (w.alloc o) t cs
 rw[Deep.nblk_alloc] at this
 exact this
theorem Below.unset {B:Nat} {w X:World} {b o:Nat} {x:Value} (h:Below B w (X.setCell ⟨b,o,none⟩ x)) (hb:B≤b):Below B w X :=
 ⟨h.os,h.tape,h.output,by have:=h.size;rw[Deep.nblk_setCell] at this;exact this,fun k hk=>by have:=h.block k hk;rw[Deep.blk_setCell_other _ ⟨b,o,none⟩ _ k (by dsimp only;omega)] at this;exact this⟩
def O5 (v:Value):Prop:=∃a n c,v=.slice a n c∧n≤c∧c≤9223372036854775807
theorem AZ {α:Type} {C:α→List Value} {c:Nat} {e:TypeId} {base:Nat} {w:World} {v:Value} {xs:List α} (h:FB C c e base w v xs):O5 v:=by
 obtain⟨a,cap,e,h1,h2⟩:=h.form
 exact⟨a,_,cap,e,h1,h2⟩
theorem Below.yJ {w X:World} {o:Obj} (h:Below w.heap.size w X):Below w.heap.size w (X.alloc o):=h.alloc h.size o
set_option maxRecDepth 100000 in
set_option maxHeartbeats 16000000 in
theorem LY (cs:List UInt8) (v:Value) (p:Nat) (ms:List Jd) (a:Option Addr) (c:Nat) (w:World) {lo bb:Nat} {bd:Nat→Prop} (hv:iU lo w v cs) (hl:cs.length≤1048576) (hp:p≤3000000) (hrow:iB bb bd w (.slice a ms.length c) ms) (hml:ms.length≤100) (hfl:∀q∈ms,q.1.fields.length≤20∧q.1.name.size≤3) {L:Nat} (hLw:L≤w.heap.size) (hL:∀b,b<L→bd b) :
  Calls Tryz.prog 75 #[v,.int .i64 (p:Int),.agg #[.slice a ms.length c]] w fun e w'=>∃u,e=.returned (.agg #[u])∧(aX L w' u (Db cs p (ms.map Prod.fst))∧O5 u)∧Below w.heap.size w w':=by
 have HV:=hide hv
 obtain⟨va,vc,rfl,_⟩:=fO hv
 have Li:=hide (fun(W:World) (q n:Nat) (h:Below w.heap.size w W) (hq:q≤4000000) (hn:n≤100)=>fJ cs (.slice va cs.length vc) q n W (At.kept bJ HV.out h) hl (by omega) (by omega))
 have HRM:=hide hrow
 have Uh:=hide hfl
 have HL:=hide hL
 clear hL
 obtain⟨mm,hmm⟩:∃m,ms.map Prod.fst=m:=⟨_,rfl⟩
 have HMM:=hide hmm
 have hmn:mm.length=ms.length:=by rw[←hmm,List.length_map]
 obtain⟨r9,SG⟩:∃r,Db cs p mm=r:=⟨_,rfl⟩
 have xZ:=hide SG
 rw[hmm,SG]
 unfold Db at xZ
 rw[hmn] at xZ
 obtain⟨n,hn⟩:∃n,ms.length=n:=⟨_,rfl⟩
 have HN:=hide hn
 rw[hn] at xZ HRM hml hmn ⊢
 have hA:=jK cs p 12 (by decide)
 have hX:=jK cs (p+1+1) 2 (by decide)
 obtain⟨x1,hx1⟩:∃x,w.alloc (Obj.cells #[.slice a n c] 28)=x:=⟨_,rfl⟩
 obtain⟨x2,hx2⟩:∃x,x1.alloc (Obj.cells #[.slice none 0 0] 28)=x:=⟨_,rfl⟩
 have bN:x1.heap.size=w.heap.size+1:=by rw[←hx1];simp
 have BX:x2.heap.size=w.heap.size+2:=by rw[←hx2];simp[bN]
 have bx1:Below w.heap.size w x1:=by rw[←hx1];exact aO _ _
 have Lj:Below w.heap.size w x2:=by rw[←hx2];exact Below.yJ bx1
 have D7:Hid (aU x2 w.heap.size 28 #[.slice a n c]):=by rw[←hx2,←hx1];exact(aU.new _ _ _).alloc _
 have Wm:Hid (aU x2 (w.heap.size+1) 28 #[.slice none 0 0]):=by rw[←hx2,←bN];exact aU.new _ _ _
 have mp:x2.cell? ⟨w.heap.size,0,none⟩=some (.slice a n c):=D7.out.cell 0 (by simp)
 have LB:Hid ((w.alloc (Obj.cells #[.slice a n c] 28)).alloc (Obj.cells #[.slice none 0 0] 28)=x2):=by rw[hx1];exact hx2
 have HB2:=hide Lj
 have HS2:=hide BX
 obtain⟨M,hM⟩:∃M,w.heap.size+2=M:=⟨_,rfl⟩
 rw[hM] at HS2
 have HM:=hide hM
 have HT1:=hide (Li.out x2 p 12 Lj (by omega) (by decide))
 have HT2:=hide (Li.out x2 (p+1) n Lj (by omega) hml)
 have HT3:=hide (Li.out x2 (p+1+1) 2 Lj (by omega) (by decide))
 obtain⟨A,XP⟩:∃A,tk cs p 12=A:=⟨_,rfl⟩
 obtain⟨AT,acd⟩:∃A,tk cs (p+1) n=A:=⟨_,rfl⟩
 obtain⟨X,hXe⟩:∃A,tk cs (p+1+1) 2=A:=⟨_,rfl⟩
 rw[XP] at HT1 xZ hA
 rw[acd] at HT2 xZ
 rw[hXe] at HT3 xZ hX
 obtain⟨p1,hp1⟩:∃q,p+1=q:=⟨_,rfl⟩
 rw[hp1] at HT1 HT2 HT3
 obtain⟨p2,hp2⟩:∃q,p1+1=q:=⟨_,rfl⟩
 rw[hp2] at HT2 HT3
 clear hM hv hrow hfl hmm SG hn hx1 hx2 bN BX bx1 Lj XP acd hXe hp1 hp2 hmn
 go_enter Tryz.func75,Tryz.ntmps75
 go_wp2_with fail
 rw[LB.out]
 refine HT1.out.mono ?_
 rintro e y ⟨rfl,hy⟩
 (try rw[hy])
 clear hy y
 go_wp2_with fail
 refine HT2.out.mono ?_
 rintro e y ⟨rfl,hy⟩
 (try rw[hy])
 clear hy y
 go_wp2_with fail
 refine HT3.out.mono ?_
 rintro e y ⟨rfl,hy⟩
 (try rw[hy])
 clear hy y HT1 HT2 HT3
 have hs2:=HS2.out
 go_wp2_with fail
 obtain⟨W0,hW0⟩:∃x,(((x2.alloc (Obj.cells #[.slice none 0 0] 28)).alloc (Obj.cells #[.string ⟨#[118]⟩] 9)).alloc (Obj.cells #[.slice (some ⟨M+1,0,none⟩) 1 1] 60)).alloc (Obj.cells #[.slice (some ⟨M+1+1,0,none⟩) 1 1] 57)=x:=⟨_,rfl⟩
 have hM:=HM.out
 have sW0:W0.heap.size=M+4:=by rw[←hW0];simp[hs2]
 have nA:Hid (Below w.heap.size w W0):=by rw[←hW0];exact Below.yJ (Below.yJ (Below.yJ (Below.yJ HB2.out)))
 have HPW:Hid (aU W0 w.heap.size 28 #[.slice a n c]):=by rw[←hW0];exact(((D7.out.alloc _).alloc _).alloc _).alloc _
 have HQW:Hid (aU W0 (w.heap.size+1) 28 #[.slice none 0 0]):=by rw[←hW0];exact(((Wm.out.alloc _).alloc _).alloc _).alloc _
 have HMW:Hid (aU W0 M 28 #[.slice none 0 0]):=by rw[←hW0,←hs2];exact(((aU.new x2 28 _).alloc _).alloc _).alloc _
 have H1W:Hid (aU W0 (M+1) 9 #[.string ⟨#[118]⟩]):=by
  rw[←hW0,←hs2]
  exact((JD x2 _ 9 _).alloc _).alloc _
 have H2W:Hid (aU W0 (M+1+1) 60 #[.slice (some ⟨M+1,0,none⟩) 1 1]):=by
  rw[←hW0]
  have:=(JD (x2.alloc (Obj.cells #[.slice none 0 0] 28)) (Obj.cells #[.string ⟨#[118]⟩] 9) 60 #[.slice (some ⟨M+1,0,none⟩) 1 1]).alloc (Obj.cells #[.slice (some ⟨M+1+1,0,none⟩) 1 1] 57)
  rw[Deep.nblk_alloc,hs2] at this
  exact this
 have H3W:Hid (aU W0 (M+1+1+1) 57 #[.slice (some ⟨M+1+1,0,none⟩) 1 1]):=by
  rw[←hW0]
  have:=JD ((x2.alloc (Obj.cells #[.slice none 0 0] 28)).alloc (Obj.cells #[.string ⟨#[118]⟩] 9)) (Obj.cells #[.slice (some ⟨M+1,0,none⟩) 1 1] 60) 57 #[.slice (some ⟨M+1+1,0,none⟩) 1 1]
  rw[Deep.nblk_alloc,Deep.nblk_alloc,hs2] at this
  exact this
 rw[hW0]
 have wZ:=hide sW0
 clear hW0 hs2 hM sW0 mp LB
 go_loopg [12] n (fun q i wr=>∃(k:Nat) (ps:List Jd) (am:Option Addr) (cm:Nat),k≤n∧q=n - k∧i=.int .i64 (k:Int)∧aU wr M 28 #[.slice am k cm]∧iB W0.heap.size (fun b=>b=M∨b=w.heap.size+1∨b<L) wr (.slice am k cm) ps∧ps.map Prod.fst=kC A AT X mm k∧Only [M] W0 wr)
 case atStart=>exact⟨0,[],none,0,eH _,rfl,rfl,HMW.out,iB.nil _ _ _,rfl,Only.refl _ _⟩
 case round =>
  obtain⟨k,ps,am,cm,hk,rfl,rfl,VI,F9,hps,vS⟩:=hrel
  obtain⟨Y,rfl⟩:∃x,x=wr:=⟨_,rfl⟩
  have HBM:=hide VI
  have HRW:=hide F9
  have AJ:=hide hps
  have PY:=hide vS
  have hM:=HM.out
  have hsw:=wZ.out
  have jo:Hid (Below w.heap.size w Y):=nA.out.trans (vS.below (by omega) fun b hb=>by rw[List.mem_singleton.1 hb];omega)
  have hYs:W0.heap.size≤Y.heap.size:=vS.size
  have hpl:ps.length=k:=by have:=congrArg List.length hps;rw[List.length_map,rX] at this;exact this
  have HPY:=hide (HPW.out.only vS (by simp;omega))
  have mp:Y.cell? ⟨w.heap.size,0,none⟩=some (.slice a n c):=HPY.out.cell 0 (by simp)
  have XB:=hide hpl
  clear VI F9 hps vS hpl
  by_cases hlt:k<n
  ·have hki:(k:Int)<(n:Int):=by omega
   have hkm:k<ms.length:=by rw[HN.out];exact hlt
   obtain⟨⟨sg,ag,cg⟩,hsg⟩:∃q,ms[k]=q:=⟨_,rfl⟩
   have hmem:(sg,ag,cg)∈ms:=by rw[←hsg];exact List.getElem_mem hkm
   obtain⟨hfn,ZM⟩:=Uh.out _ hmem
   dsimp only at hfn ZM
   have hmk:mm.getD k ⟨⟨#[]⟩,[]⟩=sg:=by
    rw[←HMM.out,List.getD_eq_getElem?_getD,List.getElem?_map,List.getElem?_eq_getElem hkm,hsg];rfl
   obtain⟨bsg,hOg,hbg⟩:=HRM.out.el _ hmem
   obtain⟨h0A,hAt⟩:=FB.at (C:=Lc) (c:=2) (Z:=fun _=>True) (fun _=>rfl) HRM.out.row (by rw[HN.out];omega) (fun _ _=>trivial)
   obtain⟨bm,om,cam,ea,EU,hcells⟩:∃b off cap,Value.slice a n c=.slice (some ⟨b,off,none⟩) ms.length cap∧b<w.heap.size∧∀i (h:i<ms.length),FR Lc (fun _=>True) 0 w b (off+i * 2) ms[i]:=by
    rcases hAt with⟨a',c',e',e2⟩|⟨b,off,cap,e,hb,hc⟩
    ·rw[e2] at hkm;simp at hkm
    ·exact⟨b,off,cap,e,hb.2,hc⟩
   injection ea with ea1 ea2 ea3
   subst ea1
   subst ea3
   have hck:=(hcells k hkm).1
   rw[hsg] at hck
   have d0:Y.cell? ⟨bm,om+k * 2,none⟩=some (.string sg.name):=by rw[jo.out.cell (p:=⟨bm,om+k * 2,none⟩) EU];simpa [Lc] using hck 0 (by simp[Lc])
   have d1w:w.cell? ⟨bm,om+k * 2+1,none⟩=some (.slice ag sg.fields.length cg):=by simpa [Lc] using hck 1 (by simp[Lc])
   have HD1:=hide d1w
   have Wp:=hide hOg
   have HBG:=hide hbg
   have ace:kC A AT X mm (k+1)=kC A AT X mm k++[if k=AT then lK A X sg else sg]:=by show kC A AT X mm k++[_]=_;rw[hmk]
   have ZN:=hide ace
   clear hsg hmem hmk hOg hbg h0A hAt hcells hck d1w ace ea2 hkm
   have XQ:Hid (∀b,Y.heap.size<b→(b≠M∧(b≠w.heap.size+1∧¬b<L)∧(Value.slice am k cm).ownBlock≠some b)):=fun b hb=>⟨by omega,by omega,fun e=>by have:=(HRW.out.row.own b (by rw[e];simp)).2;omega⟩
   have acf:Hid (∀b,b<W0.heap.size→b≠M→(b≠w.heap.size+1∧¬b<L)→(b≠M∧(b≠w.heap.size+1∧¬b<L)∧(Value.slice am k cm).ownBlock≠some b)):=fun b hb hne hne2=>⟨hne,hne2,fun e=>by have:=(HRW.out.row.own b (by rw[e];simp)).1;omega⟩
   obtain⟨P,hPd⟩:∃P:Nat→Prop,(fun b=>b≠M∧(b≠w.heap.size+1∧¬b<L)∧(Value.slice am k cm).ownBlock≠some b)=P:=⟨_,rfl⟩
   have ZO:Hid (∀b,P b→b≠M∧(b≠w.heap.size+1∧¬b<L)∧(Value.slice am k cm).ownBlock≠some b):=fun b hb=>by rw[←hPd] at hb;exact hb
   have MK:Hid (∀b,Y.heap.size<b→P b):=fun b hb=>by rw[←hPd];exact XQ.out b hb
   have acg:Hid (∀b,b<W0.heap.size→b≠M→(b≠w.heap.size+1∧¬b<L)→P b):=fun b hb hne hne2=>by rw[←hPd];exact acf.out b hb hne hne2
   clear hPd XQ acf
   obtain⟨Z0,VJ⟩:∃x,Y.alloc (Obj.cells #[.string sg.name,.slice none 0 0] 54)=x:=⟨_,rfl⟩
   have RX:Below Y.heap.size Y Z0:=by rw[←VJ];exact aO _ _
   have OQ:Hid (Jv Y Z0 Y.heap.size P ⟨sg.name,sg.fields.take 0⟩):=⟨[],none,0,by rw[←VJ];exact aU.new _ _ _,lT.nil _ _ _ _ _,rfl,RX⟩
   have HZ0:=hide VJ
   clear VJ RX
   go_wp2_with fail
   rw[HZ0.out]
   go_loopg [14] sg.fields.length (fun q j wr=>∃kf:Nat,kf≤sg.fields.length∧q=sg.fields.length - kf∧j=.int .i64 (kf:Int)∧Jv Y wr Y.heap.size P ⟨sg.name,sg.fields.take kf⟩)
   case atStart=>exact⟨0,eH _,rfl,rfl,OQ.out⟩
   case round =>
    obtain⟨kf,hkf,rfl,rfl,Xz⟩:=hrel
    obtain⟨Z,rfl⟩:∃x,x=wr:=⟨_,rfl⟩
    obtain⟨pf,af,cf,dP,hAr,hpf,E8⟩:=Xz
    have htk:(sg.fields.take kf).length=kf:=by rw[List.length_take];omega
    have SH:=hide htk
    have jr:=hide dP
    have HAR:=hide hAr
    have HPF:=hide hpf
    have sU:=hide E8
    dsimp only at jr HAR HPF
    rw[htk] at jr
    have HWZ:=hide (aj E8 jo.out)
    have HPZ:=hide (HPY.out.below E8)
    clear dP hAr hpf E8 htk mp d0
    have mp:Z.cell? ⟨w.heap.size,0,none⟩=some (.slice (some ⟨bm,om,none⟩) n c):=HPZ.out.cell 0 (by simp)
    have d1:Z.cell? ⟨bm,om+k * 2+1,none⟩=some (.slice ag sg.fields.length cg):=(HWZ.out.cell (p:=⟨bm,om+k * 2+1,none⟩) EU).trans HD1.out
    by_cases hlt2:kf<sg.fields.length
    ·have RY:(kf:Int)<(sg.fields.length:Int):=by omega
     obtain⟨ag',cg',eag,hform⟩:=bS.form Wp.out
     injection eag with e1 _ e3
     subst e1 e3
     obtain⟨bf,of,csf,rfl,hbf,_,⟨vf,hvf,M6⟩,ach⟩:=hform kf hlt2
     obtain⟨fe,hfe⟩:∃f,sg.fields[kf]=f:=⟨_,rfl⟩
     rw[hfe] at M6
     obtain⟨ae,ce,rfl,_⟩:=bS.form M6
     have Ws:w.cell? ⟨bf,of+kf,none⟩=some (.slice ae fe.length ce):=by simpa using hvf
     have HTN:Hid (sg.fields.take (kf+1)=sg.fields.take kf++[fe]):=by show _=_;rw[List.take_succ_eq_append_getElem hlt2,hfe]
     obtain⟨D,hDe⟩:∃D,Z.drew=D:=⟨_,rfl⟩
     have hD:Below Z.heap.size Z D:=by rw[←hDe];exact(Below.refl _ _).drew
     have hWD:=aj hD HWZ.out
     have hOD:bP D (.slice ae fe.length ce) fe csf:=bS.kept fD M6 hWD.size fun d hd=>hWD.block d (bS.lt dJ M6 d hd)
     have aci:∀d∈csf,d<w.heap.size:=fun d hd=>bS.lt dJ M6 d hd
     have hwy:w.heap.size≤Y.heap.size:=jo.out.size
     obtain⟨v8,V8,a8,c8,e8,vF,⟨q1,q2,q3,q4⟩,A8⟩:=Jv.more (Y:=Y) (P:=P) MK.out (aS _) (by rw[SH.out];exact jr.out) HAR.out HPF.out sU.out hD fe ae ce hOD (fun b hb=>by
      have h1:=aci b hb
      have h2:=HWZ.out.size
      have h7:¬b<L:=fun acj=>(HBG.out b (ach b hb)).2.1 (HL.out b acj)
      refine⟨acg.out b (by omega) (by omega) (by omega),by omega,.inr ⟨by omega,fun e=>?_⟩⟩
      have:=(HAR.out.row.own b (by rw[e];simp)).1
      omega) (by rw[SH.out];omega)
     rw[SH.out] at e8 vF q1 q3 A8
     subst e8
     have hSd:(fun U:World=>U.cell? ⟨Y.heap.size,1,none⟩=some (.slice af kf cf)∧U.cell? ⟨w.heap.size,0,none⟩=some (.slice (some ⟨bm,om,none⟩) n c)∧U.cell? ⟨bm,om+k * 2+1,none⟩=some (.slice (some ⟨bf,of,none⟩) sg.fields.length cg)∧U.cell? ⟨bf,of+kf,none⟩=some (.slice ae fe.length ce)) D:=⟨q1,(HPZ.out.below hD).cell 0 (by simp),(hWD.cell (p:=⟨bm,om+k * 2+1,none⟩) EU).trans HD1.out,(hWD.cell (p:=⟨bf,of+kf,none⟩) hbf).trans Ws⟩
     have SI:(fun U:World=>U.cell? ⟨Y.heap.size,1,none⟩=some (.slice af kf cf)∧U.cell? ⟨w.heap.size,0,none⟩=some (.slice (some ⟨bm,om,none⟩) n c)∧U.cell? ⟨bm,om+k * 2+1,none⟩=some (.slice (some ⟨bf,of,none⟩) sg.fields.length cg)∧U.cell? ⟨bf,of+kf,none⟩=some (.slice ae fe.length ce)) (D.alloc (.cells #[.slice ae fe.length ce] 57)):=by
      have hb:=Below.yJ hWD (o:=.cells #[.slice ae fe.length ce] 57)
      exact⟨((jr.out.below hD).alloc _).cell 1 (by simp),((HPZ.out.below hD).alloc _).cell 0 (by simp),(hb.cell (p:=⟨bm,om+k * 2+1,none⟩) EU).trans HD1.out,(hb.cell (p:=⟨bf,of+kf,none⟩) hbf).trans Ws⟩
     have ZP:Below w.heap.size w V8:=by
      obtain⟨_,_,_,_,_,_,nI⟩:=A8
      have h3:=aJ nI jo.out
      exact Below.unset h3 (by omega)
     have SK:(fun U:World=>U.cell? ⟨Y.heap.size,1,none⟩=some (.slice af kf cf)∧U.cell? ⟨w.heap.size,0,none⟩=some (.slice (some ⟨bm,om,none⟩) n c)∧U.cell? ⟨bm,om+k * 2+1,none⟩=some (.slice (some ⟨bf,of,none⟩) sg.fields.length cg)∧U.cell? ⟨bf,of+kf,none⟩=some (.slice ae fe.length ce)) V8:=⟨q3,by
      obtain⟨_,_,_,_,_,_,nI⟩:=A8
      have h4:(V8.setCell ⟨Y.heap.size,1,none⟩ (.slice a8 (kf+1) c8)).heap[w.heap.size]?=Y.heap[w.heap.size]?:=nI.block _ (by omega)
      rw[Deep.blk_setCell_other _ ⟨Y.heap.size,1,none⟩ _ w.heap.size (by dsimp only;omega)] at h4
      exact(HPY.out.keep h4).cell 0 (by simp),(ZP.cell (p:=⟨bm,om+k * 2+1,none⟩) EU).trans HD1.out,(ZP.cell (p:=⟨bf,of+kf,none⟩) hbf).trans Ws⟩
     have lZ:Hid (Jv Y (V8.setCell ⟨Y.heap.size,1,none⟩ (.slice a8 (kf+1) c8)) Y.heap.size P ⟨sg.name,sg.fields.take (kf+1)⟩):=by rw[HTN.out];exact A8
     have ahd:(0:Int)≤(k:Int):=by omega
     have Dc:=hDe
     clear A8 hOD aci hvf Ws M6 ach hform hfe
     go_upto_region 14 with fail
     refine iF (fun U:World=>U.cell? ⟨Y.heap.size,1,none⟩=some (.slice af kf cf)∧U.cell? ⟨w.heap.size,0,none⟩=some (.slice (some ⟨bm,om,none⟩) n c)∧U.cell? ⟨bm,om+k * 2+1,none⟩=some (.slice (some ⟨bf,of,none⟩) sg.fields.length cg)∧U.cell? ⟨bf,of+kf,none⟩=some (.slice ae fe.length ce)) 13 (by kernel_rfl) ?_
     rw[hDe]
     clear hDe Dc
     refine aR (i:=0) (some 69) (v:=?afY) rfl rfl (by kernel_rfl) (by kernel_rfl) (by kernel_rfl) (by kernel_rfl) (fun _ _ _ h=>h) hSd (Or.inl ⟨by rfl,?ZQ⟩) ?acn
     case ZQ=>(intro w hSw;(try dsimp only at hSw);go_simp;try with_reducible rfl)
     try simp only[Act.put,List.setIfInBounds_toArray,List.set_cons_zero,List.set_cons_succ]
     refine aR (i:=1) (some 70) (v:=?afZ) rfl rfl (by kernel_rfl) (by kernel_rfl) (by kernel_rfl) (by kernel_rfl) (fun _ _ _ h=>h) hSd (Or.inl ⟨by rfl,?ZR⟩) ?aco
     case ZR=>(intro w hSw;(try dsimp only at hSw);go_simp;try with_reducible rfl)
     try simp only[Act.put,List.setIfInBounds_toArray,List.set_cons_zero,List.set_cons_succ]
     refine aR (i:=2) (some 71) (v:=?af0) rfl rfl (by kernel_rfl) (by kernel_rfl) (by kernel_rfl) (by kernel_rfl) (fun _ _ _ h=>h) hSd (Or.inl ⟨by rfl,?ZT⟩) ?acp
     case ZT=>(intro w hSw;(try dsimp only at hSw);go_simp;try with_reducible rfl)
     try simp only[Act.put,List.setIfInBounds_toArray,List.set_cons_zero,List.set_cons_succ]
     refine aR (i:=3) (some 72) (v:=?af3) rfl rfl (by kernel_rfl) (by kernel_rfl) (by kernel_rfl) (by kernel_rfl) (fun _ _ _ h=>h) hSd (Or.inl ⟨by rfl,?ZU⟩) ?acr
     case ZU=>(intro w hSw;(try dsimp only at hSw);go_simp;try with_reducible rfl)
     try simp only[Act.put,List.setIfInBounds_toArray,List.set_cons_zero,List.set_cons_succ]
     refine aR (i:=4) (some 73) (v:=?af4) rfl rfl (by kernel_rfl) (by kernel_rfl) (by kernel_rfl) (by kernel_rfl) (fun _ _ _ h=>h) hSd (Or.inl ⟨by rfl,?ZV⟩) ?acs
     case ZV=>(intro w hSw;(try dsimp only at hSw);go_simp;try with_reducible rfl)
     try simp only[Act.put,List.setIfInBounds_toArray,List.set_cons_zero,List.set_cons_succ]
     refine aR (i:=5) (some 74) (v:=?af5) rfl rfl (by kernel_rfl) (by kernel_rfl) (by kernel_rfl) (by kernel_rfl) (fun _ _ _ h=>h) hSd (Or.inl ⟨by rfl,?ZW⟩) ?acu
     case ZW=>(intro w hSw;(try dsimp only at hSw);go_simp;try with_reducible rfl)
     try simp only[Act.put,List.setIfInBounds_toArray,List.set_cons_zero,List.set_cons_succ]
     refine aR (i:=6) (some 75) (v:=?af6) rfl rfl (by kernel_rfl) (by kernel_rfl) (by kernel_rfl) (by kernel_rfl) (fun _ _ _ h=>h) hSd (Or.inl ⟨by rfl,?ZX⟩) ?acv
     case ZX=>(intro w hSw;(try dsimp only at hSw);go_simp;try with_reducible rfl)
     try simp only[Act.put,List.setIfInBounds_toArray,List.set_cons_zero,List.set_cons_succ]
     refine aR (i:=7) (some 76) (v:=?af7) rfl rfl (by kernel_rfl) (by kernel_rfl) (by kernel_rfl) (by kernel_rfl) (fun _ _ _ h=>h) hSd (Or.inl ⟨by rfl,?ZY⟩) ?acw
     case ZY=>(intro w hSw;(try dsimp only at hSw);go_simp;try with_reducible rfl)
     try simp only[Act.put,List.setIfInBounds_toArray,List.set_cons_zero,List.set_cons_succ]
     refine aR (i:=8) (some 77) (v:=?af8) rfl rfl (by kernel_rfl) (by kernel_rfl) (by kernel_rfl) (by kernel_rfl) (fun _ _ _ h=>h) hSd (Or.inl ⟨by rfl,?Z8⟩) ?acy
     case Z8=>(intro w hSw;(try dsimp only at hSw);go_simp;try with_reducible rfl)
     try simp only[Act.put,List.setIfInBounds_toArray,List.set_cons_zero,List.set_cons_succ]
     refine aR (i:=9) (some 78) (v:=?af9) rfl rfl (by kernel_rfl) (by kernel_rfl) (by kernel_rfl) (by kernel_rfl) (fun _ _ _ h=>h) hSd (Or.inl ⟨by rfl,?Z9⟩) ?acz
     case Z9=>(intro w hSw;(try dsimp only at hSw);go_simp;try with_reducible rfl)
     try simp only[Act.put,List.setIfInBounds_toArray,List.set_cons_zero,List.set_cons_succ]
     refine aR (i:=10) (some 79) (v:=?ae0) rfl rfl (by kernel_rfl) (by kernel_rfl) (by kernel_rfl) (by kernel_rfl) (fun _ _ _ h=>h) hSd (Or.inl ⟨by rfl,?Wt⟩) ?aa1
     case Wt=>(intro w hSw;(try dsimp only at hSw);go_simp;try with_reducible rfl)
     try simp only[Act.put,List.setIfInBounds_toArray,List.set_cons_zero,List.set_cons_succ]
     refine aQ (j:=11) (by kernel_rfl) rfl (fun K hK=>?_)
     go_simp
     refine hK.out _ _ (fun _=>SI) ?_
     clear hK K
     try simp only[Act.put,List.setIfInBounds_toArray,List.set_cons_zero,List.set_cons_succ]
     refine aQ (j:=12) (by kernel_rfl) rfl (fun K hK=>?_)
     refine oL rfl _ _ 52 rfl vF (by first|rfl|simp[Act.eval,Act.put]) (by first|rfl|simp[Act.eval,Act.put]) ?_
     show K (Act.put _ (some 81) _) _
     refine hK.out _ _ (fun _=>SK) ?_
     clear hK K
     try simp only[Act.put,List.setIfInBounds_toArray,List.set_cons_zero,List.set_cons_succ]
     refine aQ (j:=13) (by kernel_rfl) rfl (fun K hK=>?_)
     go_simp
     refine hK.out _ _ (fun h=>absurd h (by decide)) ?_
     clear hK K
     refine aQ (j:=14) (by kernel_rfl) rfl (fun K hK=>?_)
     go_simp
     refine hK.out _ _ (fun h=>absurd h (by decide)) ?_
     clear hK K
     refine kV (by kernel_rfl) ?_ _
     clear hSd SI SK q1 q2 q3 q4 vF ZP hWD hD
     go_wp2_with fail
     go_roundg (sg.fields.length - (kf+1))
     case measure=>omega
     case rel=>exact⟨kf+1,by omega,rfl,by go_num,lZ.out⟩
    ·have RY:¬(kf:Int)<(sg.fields.length:Int):=by omega
     obtain rfl:kf=sg.fields.length:=by omega
     have nC:Hid (Jv Y Z Y.heap.size P sg):=⟨pf,af,cf,jr.out,by have:=HAR.out;rw[SH.out] at this;exact this,by rw[HPF.out];exact List.take_length,sU.out⟩
     have JE:Hid (lT bP 57 (Y.heap.size+1) (fun b=>b=Y.heap.size∨¬P b) Z (.slice af sg.fields.length cf) pf):=by have:=HAR.out;rw[SH.out] at this;exact this
     have JF:Hid (pf.map Prod.fst=sg.fields):=by rw[HPF.out];exact List.take_length
     have hwy:w.heap.size≤Y.heap.size:=jo.out.size
     have hyz:Y.heap.size<Z.heap.size:=jr.out.lt
     obtain⟨sg2,aac⟩:∃s,(if k=AT then lK A X sg else sg)=s:=⟨_,rfl⟩
     rw[aac] at ZN
     have SN:=hide aac
     clear aac
     refine ZG jr.out ?_
     rintro⟨⟨s0,s1⟩,f0,f1⟩
     go_upto_if 85 with fail
     go_cut [85] (fun v85 wx=>Jv Y wx Y.heap.size P sg2)
     case first =>
      by_cases Wu:(k:Int)=(AT:Int)
      ·have acA:((k:Int) == (AT:Int))=true:=by simpa using Wu
       have Uy:Hid (lK A X sg=sg2):=by have:=SN.out;rw[if_pos (by omega)] at this;exact this
       have ae1:A=0∨A=1∨A=2∨A=3∨A=4∨A=5∨A=6∨A=7∨A=8∨9≤A:=by omega
       have hAT:AT=k:=by omega
       subst hAT
       clear SN Wu ZN xZ d1 mp
       rcases ae1 with rfl|rfl|rfl|rfl|rfl|rfl|rfl|rfl|rfl|hA9
       ·have HX:Hid (lK 0 X sg=⟨⟨#[109,115,104]⟩,sg.fields⟩):=rfl
        go_wp2_with fail
        go_meet
        case rel =>
         rw[←Uy.out,HX.out]
         exact⟨pf,af,cf,by have:=jr.out.set 0 (.string ⟨#[109,115,104]⟩);simpa using this,JE.out.set mW (b:=Y.heap.size) (o:=0) (.inl rfl) _,JF.out,sU.out.setCell (p:=⟨Y.heap.size,0,none⟩) (aS _) _⟩
       ·have HX:Hid (lK 1 X sg=⟨⟨#[77,83,72]⟩,sg.fields⟩):=rfl
        go_wp2_with fail
        go_meet
        case rel =>
         rw[←Uy.out,HX.out]
         exact⟨pf,af,cf,by have:=jr.out.set 0 (.string ⟨#[77,83,72]⟩);simpa using this,JE.out.set mW (b:=Y.heap.size) (o:=0) (.inl rfl) _,JF.out,sU.out.setCell (p:=⟨Y.heap.size,0,none⟩) (aS _) _⟩
       ·obtain⟨v8,V8,a8,c8,e8,vF,⟨q1,q2,q3,q4⟩,A8⟩:=Jv.more (Y:=Y) (P:=P) MK.out (aS _) jr.out JE.out JF.out sU.out (V:=Z) (Below.refl _ _) ([]:Field) none 0 (qL Z none 0) (by simp) (by omega)
        subst e8
        have SQ:=hide A8
        clear A8
        simp only[List.length_nil] at vF
        go_wp2_with (first|(at_builtin;refine bH rfl _ _ 52 rfl vF (by first|rfl|simp[Act.eval,Act.put]) (by first|rfl|simp[Act.eval,Act.put]) ?_))
        go_meet
        case rel =>
         rw[←Uy.out]
         exact SQ.out
       ·obtain⟨V,zZ⟩:∃x,(Z.alloc (Obj.cells #[.string ⟨#[118]⟩,.string ⟨#[]⟩] 9)).alloc (Obj.cells #[.slice (some ⟨Z.heap.size,0,none⟩) 2 2] 60)=x:=⟨_,rfl⟩
        have sV:V.heap.size=Z.heap.size+1+1:=by rw[←zZ];simp
        have bV:Below Z.heap.size Z V:=by rw[←zZ];exact Below.yJ (Below.yJ (Below.refl _ _))
        have o1:aU V Z.heap.size 9 #[.string ⟨#[118]⟩,.string ⟨#[]⟩]:=by rw[←zZ];exact(aU.new _ _ _).alloc _
        have o2:aU V (Z.heap.size+1) 60 #[.slice (some ⟨Z.heap.size,0,none⟩) 2 2]:=by rw[←zZ];exact JD _ _ _ _
        obtain⟨v8,V8,a8,c8,e8,vF,⟨q1,q2,q3,q4⟩,A8⟩:=Jv.more (Y:=Y) (P:=P) MK.out (aS _) jr.out JE.out JF.out sU.out (V:=V) bV [[⟨#[118]⟩,⟨#[]⟩]] (some ⟨Z.heap.size+1,0,none⟩) 1 (LX o2 (Gw (xs:=[⟨#[118]⟩,⟨#[]⟩]) o1 (by simp) (by intro s hs;simp at hs;rcases hs with rfl|rfl <;> decide))) (fun b hb=>by simp at hb;refine⟨MK.out b (by omega),by omega,.inl (by omega)⟩) (by omega)
        subst e8
        have SQ:=hide A8
        clear A8
        rw[sV] at vF
        simp only[List.length_cons,List.length_nil] at vF
        clear o1 o2 bV
        go_wp2_with (first|(at_builtin;refine bH rfl _ _ 52 rfl vF (by first|rfl|simp[Act.eval,Act.put]) (by first|rfl|simp[Act.eval,Act.put]) ?_))
        go_meet
        case rel =>
         rw[←Uy.out]
         exact SQ.out
       ·have x1:IntKind.i64.wrap (96 * (X:Int))=96 * (X:Int):=by rw[IntKind.wrap_i64];omega
        have x2':IntKind.i64.wrap (31+96 * (X:Int))=31+96 * (X:Int):=by rw[IntKind.wrap_i64];omega
        have aad:=hide (fun W=>Frame.tV (31+96 * (X:Int)) W (by omega) (by omega))
        have e31:(31+96 * (X:Int)).toNat=31+96 * X:=by omega
        rw[e31] at aad
        obtain⟨ch,hch⟩:∃x,UInt8.ofNat (31+96 * X)=x:=⟨_,rfl⟩
        rw[hch] at aad
        have HX:Hid (lK 4 X sg=⟨sg.name,sg.fields++[[[⟨#[118]⟩++⟨#[ch]⟩]]]⟩):=by rw[←hch];exact rfl
        clear hch
        have x9:∀U,Below Z.heap.size Z U→(fun U:World=>U.cell? ⟨Y.heap.size,1,none⟩=some (.slice af sg.fields.length cf)) U:=fun U h=>(jr.out.below h).cell 1 (by simp)
        obtain⟨D,hDe⟩:∃D,Z.drew=D:=⟨_,rfl⟩
        have hD:Below Z.heap.size Z D:=by rw[←hDe];exact(Below.refl _ _).drew
        have hSd:(fun U:World=>U.cell? ⟨Y.heap.size,1,none⟩=some (.slice af sg.fields.length cf)) D:=x9 D hD
        have Dc:=hDe
        go_upto_region 25 with fail
        refine iF (fun U:World=>U.cell? ⟨Y.heap.size,1,none⟩=some (.slice af sg.fields.length cf)) 13 (by kernel_rfl) ?_
        rw[hDe]
        clear hDe Dc
        refine aR (i:=0) (some 113) (v:=?aga) rfl rfl (by kernel_rfl) (by kernel_rfl) (by kernel_rfl) (by kernel_rfl) (fun _ _ _ h=>h) hSd (Or.inl ⟨by rfl,?aae⟩) ?acB
        case aae=>(intro w hSw;(try dsimp only at hSw);go_simp;try with_reducible rfl)
        try simp only[Act.put,List.setIfInBounds_toArray,List.set_cons_zero,List.set_cons_succ]
        refine aR (i:=1) (some 114) (v:=?agb) rfl rfl (by kernel_rfl) (by kernel_rfl) (by kernel_rfl) (by kernel_rfl) (fun _ _ _ h=>h) hSd (Or.inl ⟨by rfl,?aaf⟩) ?acC
        case aaf=>(intro w hSw;(try dsimp only at hSw);go_simp;try with_reducible rfl)
        try simp only[Act.put,List.setIfInBounds_toArray,List.set_cons_zero,List.set_cons_succ]
        refine aR (i:=2) (some 115) (v:=?agc) rfl rfl (by kernel_rfl) (by kernel_rfl) (by kernel_rfl) (by kernel_rfl) (fun _ _ _ h=>h) hSd (Or.inl ⟨by rfl,?aag⟩) ?acD
        case aag=>(intro w hSw;(try dsimp only at hSw);go_simp;try with_reducible rfl)
        try simp only[Act.put,List.setIfInBounds_toArray,List.set_cons_zero,List.set_cons_succ]
        refine aR (i:=3) (some 116) (v:=?agd) rfl rfl (by kernel_rfl) (by kernel_rfl) (by kernel_rfl) (by kernel_rfl) (fun _ _ _ h=>h) hSd (Or.inl ⟨by rfl,?aah⟩) ?acE
        case aah=>(intro w hSw;(try dsimp only at hSw);go_simp;try with_reducible rfl)
        try simp only[Act.put,List.setIfInBounds_toArray,List.set_cons_zero,List.set_cons_succ]
        refine aR (i:=4) (some 117) (v:=?agf) rfl rfl (by kernel_rfl) (by kernel_rfl) (by kernel_rfl) (by kernel_rfl) (fun _ _ _ h=>h) hSd (Or.inl ⟨by rfl,?aai⟩) ?acF
        case aai=>(intro w hSw;(try dsimp only at hSw);go_simp;try with_reducible rfl)
        try simp only[Act.put,List.setIfInBounds_toArray,List.set_cons_zero,List.set_cons_succ]
        refine aQ (j:=5) (by kernel_rfl) rfl (fun K hK=>?_)
        go_simp
        refine(aad.out D).mono ?_
        rintro e Z1 ⟨rfl,acG⟩
        dsimp only
        have hz1:Below Z.heap.size Z Z1:=aj acG hD
        refine hK.out _ _ (fun _=>x9 _ hz1) ?_
        clear hK K
        try simp only[Act.put,List.setIfInBounds_toArray,List.set_cons_zero,List.set_cons_succ]
        refine aQ (j:=6) (by kernel_rfl) rfl (fun K hK=>?_)
        go_simp
        refine hK.out _ _ (fun _=>x9 _ hz1) ?_
        clear hK K
        try simp only[Act.put,List.setIfInBounds_toArray,List.set_cons_zero,List.set_cons_succ]
        obtain⟨tx,htx⟩:∃t,(⟨#[118]⟩:ByteArray)++⟨#[ch]⟩=t:=⟨_,rfl⟩
        have O6:tx.size=2:=by rw[←htx];rfl
        (try rw[htx])
        rw[htx] at HX
        clear htx
        refine aQ (j:=7) (by kernel_rfl) rfl (fun K hK=>?_)
        go_simp
        refine hK.out _ _ (fun _=>x9 _ (Below.yJ hz1)) ?_
        clear hK K
        try simp only[Act.put,List.setIfInBounds_toArray,List.set_cons_zero,List.set_cons_succ]
        refine aQ (j:=8) (by kernel_rfl) rfl (fun K hK=>?_)
        go_simp
        refine hK.out _ _ (fun _=>x9 _ (Below.yJ hz1)) ?_
        clear hK K
        try simp only[Act.put,List.setIfInBounds_toArray,List.set_cons_zero,List.set_cons_succ]
        refine aQ (j:=9) (by kernel_rfl) rfl (fun K hK=>?_)
        go_simp
        refine hK.out _ _ (fun _=>x9 _ (Below.yJ (Below.yJ hz1))) ?_
        clear hK K
        try simp only[Act.put,List.setIfInBounds_toArray,List.set_cons_zero,List.set_cons_succ]
        refine aQ (j:=10) (by kernel_rfl) rfl (fun K hK=>?_)
        go_simp
        refine hK.out _ _ (fun _=>x9 _ (Below.yJ (Below.yJ hz1))) ?_
        clear hK K
        try simp only[Act.put,List.setIfInBounds_toArray,List.set_cons_zero,List.set_cons_succ]
        refine aQ (j:=11) (by kernel_rfl) rfl (fun K hK=>?_)
        go_simp
        refine hK.out _ _ (fun _=>x9 _ (Below.yJ (Below.yJ (Below.yJ hz1)))) ?_
        clear hK K
        try simp only[Act.put,List.setIfInBounds_toArray,List.set_cons_zero,List.set_cons_succ]
        obtain⟨V,zZ⟩:∃x,(Z1.alloc (Obj.cells #[.string tx] 9)).alloc (Obj.cells #[.slice (some ⟨Z1.heap.size,0,none⟩) 1 1] 60)=x:=⟨_,rfl⟩
        have sV:V.heap.size=Z1.heap.size+1+1:=by rw[←zZ];simp
        have bV:Below Z.heap.size Z V:=by rw[←zZ];exact Below.yJ (Below.yJ hz1)
        have o1:aU V Z1.heap.size 9 #[.string tx]:=by rw[←zZ];exact(aU.new _ _ _).alloc _
        have o2:aU V (Z1.heap.size+1) 60 #[.slice (some ⟨Z1.heap.size,0,none⟩) 1 1]:=by rw[←zZ];exact JD _ _ _ _
        have hzz:=hz1.size
        obtain⟨v8,V8,a8,c8,e8,vF,⟨q1,q2,q3,q4⟩,A8⟩:=Jv.more (Y:=Y) (P:=P) MK.out (aS _) jr.out JE.out JF.out sU.out (V:=V) bV [[tx]] (some ⟨Z1.heap.size+1,0,none⟩) 1 (LX o2 (Gw (xs:=[tx]) o1 (by simp) (by intro s hs;simp at hs;subst hs;omega))) (fun b hb=>by simp at hb;refine⟨MK.out b (by omega),by omega,.inl (by omega)⟩) (by omega)
        subst e8
        have SQ:=hide A8
        clear A8
        rw[sV] at vF
        simp only[List.length_cons,List.length_nil] at vF
        rw[←zZ] at vF
        have acH:(fun U:World=>U.cell? ⟨Y.heap.size,1,none⟩=some (.slice af sg.fields.length cf)) V8:=q3
        refine aQ (j:=12) (by kernel_rfl) rfl (fun K hK=>?_)
        refine oL rfl _ _ 52 rfl vF (by first|rfl|simp[Act.eval,Act.put]) (by first|rfl|simp[Act.eval,Act.put]) ?_
        show K (Act.put _ (some 125) _) _
        refine hK.out _ _ (fun _=>acH) ?_
        clear hK K
        try simp only[Act.put,List.setIfInBounds_toArray,List.set_cons_zero,List.set_cons_succ]
        refine aQ (j:=13) (by kernel_rfl) rfl (fun K hK=>?_)
        go_simp
        refine hK.out _ _ (fun h=>absurd h (by decide)) ?_
        clear hK K
        try simp only[Act.put,List.setIfInBounds_toArray,List.set_cons_zero,List.set_cons_succ]
        refine aQ (j:=14) (by kernel_rfl) rfl (fun K hK=>?_)
        go_simp
        refine hK.out _ _ (fun h=>absurd h (by decide)) ?_
        clear hK K
        try simp only[Act.put,List.setIfInBounds_toArray,List.set_cons_zero,List.set_cons_succ]
        refine kV (by kernel_rfl) ?_ _
        clear hSd x9 acH q1 q2 q3 q4 vF hD hz1 acG o1 o2 bV zZ
        go_wp2_with fail
        go_meet
        case rel =>
         rw[←Uy.out,HX.out]
         exact SQ.out
       ·have H1Y:Hid (∀U,Below Y.heap.size Y U→aU U (M+1) 9 #[.string ⟨#[118]⟩]):=fun U h=>(H1W.out.only PY.out (by simp)).below h
        have H2Y:Hid (∀U,Below Y.heap.size Y U→aU U (M+1+1) 60 #[.slice (some ⟨M+1,0,none⟩) 1 1]):=fun U h=>(H2W.out.only PY.out (by simp;omega)).below h
        have H3Y:Hid (∀U,Below Y.heap.size Y U→aU U (M+1+1+1) 57 #[.slice (some ⟨M+1+1,0,none⟩) 1 1]):=fun U h=>(H3W.out.only PY.out (by simp;omega)).below h
        obtain⟨T,hT⟩:∃T,30+X - sg.fields.length=T:=⟨_,rfl⟩
        have HX:Hid (lK 5 X sg=⟨sg.name,sg.fields++List.replicate T Ei⟩):=by rw[←hT];exact rfl
        have hTe:sg.fields.length+T=30+X:=by omega
        have ae2:Hid (Jv Y Z Y.heap.size P ⟨sg.name,sg.fields++List.replicate 0 Ei⟩):=by have:=nC.out;rw[List.replicate_zero,List.append_nil];exact this
        clear hT
        go_wp2_with fail
        go_loopg [131] T (fun q _ wr=>∃t:Nat,t≤T∧q=T - t∧Jv Y wr Y.heap.size P ⟨sg.name,sg.fields++List.replicate t Ei⟩)
        case atStart=>exact⟨0,eH _,rfl,ae2.out⟩
        case round =>
         obtain⟨t,ht,rfl,hS⟩:=hrel
         obtain⟨U,rfl⟩:∃x,x=wr:=⟨_,rfl⟩
         have HSU:=hide hS
         obtain⟨pg,ax,cx,hbx,hax,hpx,xg⟩:=hS
         have hlen:(sg.fields++List.replicate t Ei).length=sg.fields.length+t:=by rw[List.length_append,List.length_replicate]
         dsimp only at hbx hax hpx
         have g1:U.cell? ⟨Y.heap.size,1,none⟩=some (.slice ax (sg.fields.length+t) cx):=by rw[←hlen];exact hbx.cell 1 (by simp)
         have g2:U.cell? ⟨M+1+1+1,0,none⟩=some (.slice (some ⟨M+1+1,0,none⟩) 1 1):=(H3Y.out U xg).cell 0 (by simp)
         clear s0 s1 f0 f1
         by_cases htT:t<T
         ·have hti:(sg.fields.length:Int)+(t:Int)<30+(X:Int):=by omega
          obtain⟨v8,V8,a8,c8,e8,vF,⟨q1,q2,q3,q4⟩,A8⟩:=Jv.more (Y:=Y) (P:=P) MK.out (aS _) hbx hax hpx xg (V:=U) (Below.refl _ _) Ei (some ⟨M+1+1,0,none⟩) 1 (Sq (H1Y.out U xg) (H2Y.out U xg) (by decide)) (fun b hb=>by
           simp at hb
           have h2:=xg.size
           refine⟨acg.out b (by omega) (by omega) (by omega),by omega,.inr ⟨by omega,fun e=>?_⟩⟩
           have:=(hax.row.own b (by rw[e];simp)).1
           omega) (by omega)
          rw[hlen] at e8 vF q1 q3 A8
          subst e8
          have hf1:Ei.length=1:=rfl
          rw[hf1] at vF
          have SQ:Hid (Jv Y (V8.setCell ⟨Y.heap.size,1,none⟩ (.slice a8 (sg.fields.length+t+1) c8)) Y.heap.size P ⟨sg.name,sg.fields++List.replicate (t+1) Ei⟩):=by
           rw[List.replicate_succ',←List.append_assoc];exact A8
          clear A8 hbx hax hpx xg hlen hf1
          go_wp2_with (first|(at_builtin;refine bH rfl _ _ 52 rfl vF (by first|rfl|simp[Act.eval,Act.put]) (by first|rfl|simp[Act.eval,Act.put]) ?_))
          go_roundg (T - (t+1))
          case measure=>omega
          case rel=>exact⟨t+1,by omega,rfl,SQ.out⟩
         ·have hti:¬(sg.fields.length:Int)+(t:Int)<30+(X:Int):=by omega
          obtain rfl:t=T:=by omega
          clear hbx hax hpx xg hlen
          go_wp2_with fail
          go_meet
          case rel=>rw[←Uy.out,HX.out];exact HSU.out
       ·have HX:Hid (lK 6 X sg=⟨sg.name,sg.fields++[List.replicate (30+X) [⟨#[114]⟩]]⟩):=rfl
        obtain⟨T,hT⟩:∃T,30+X=T:=⟨_,rfl⟩
        rw[hT] at HX
        have hTi:30+(X:Int)=(T:Int):=by omega
        have ae3:T≤40:=by omega
        obtain⟨U0,Wv⟩:∃x,Z.alloc (Obj.cells #[.slice none 0 0] 57)=x:=⟨_,rfl⟩
        have bU0:Below Z.heap.size Z U0:=by rw[←Wv];exact Below.yJ (Below.refl _ _)
        have HF0:Hid (aU U0 Z.heap.size 57 #[.slice none 0 0]):=by rw[←Wv];exact aU.new _ _ _
        have HU0:=hide Wv
        have aaj:=hide bU0
        clear hT Wv bU0
        go_wp2_with fail
        rw[HU0.out]
        go_loopg [146] T (fun q _ wr=>∃(t:Nat) (p3:List (AE ByteArray)) (a3:Option Addr) (c3:Nat),t≤T∧q=T - t∧aU wr Z.heap.size 57 #[.slice a3 t c3]∧lT fV 60 (Z.heap.size+1) (fun b=>b<Z.heap.size+1) wr (.slice a3 t c3) p3∧p3.map Prod.fst=List.replicate t [⟨#[114]⟩]∧Below Z.heap.size Z wr)
        case atStart=>exact⟨0,[],none,0,eH _,rfl,HF0.out,lT.nil _ _ _ _ _,rfl,aaj.out⟩
        case round =>
         obtain⟨t,p3,a3,c3,ht,rfl,SS,hA3,hp3,xg⟩:=hrel
         obtain⟨U,rfl⟩:∃x,x=wr:=⟨_,rfl⟩
         have hl3:p3.length=t:=by have:=congrArg List.length hp3;rw[List.length_map,List.length_replicate] at this;exact this
         have hzu:Z.heap.size<U.heap.size:=SS.lt
         have g1:U.cell? ⟨Z.heap.size,0,none⟩=some (.slice a3 t c3):=SS.cell 0 (by simp)
         clear s0 s1 f0 f1
         by_cases htT:t<T
         ·have hti:(t:Int)<(T:Int):=by omega
          obtain⟨V,zZ⟩:∃x,U.alloc (Obj.cells #[.string ⟨#[114]⟩] 9)=x:=⟨_,rfl⟩
          have bV:Below U.heap.size U V:=by rw[←zZ];exact Below.yJ (Below.refl _ _)
          have sV:V.heap.size=U.heap.size+1:=by rw[←zZ];simp
          have o1:aU V U.heap.size 9 #[.string ⟨#[114]⟩]:=by rw[←zZ];exact aU.new _ _ _
          have acI:=hA3.below wS bV
          obtain⟨v8,V8,vF,Ww,LZ⟩:=acI.push wS Tryz.underlying55 sZ rfl (by decide) (by omega) (by omega) (fun b hb=>by show ¬b<_;omega) ([⟨#[114]⟩],some ⟨U.heap.size,0,none⟩,1) (bs:=[U.heap.size]) (Gw (xs:=[⟨#[114]⟩]) o1 (by simp) (by intro s hs;simp at hs;subst hs;decide)) (fun b hb=>by
           rw[List.mem_singleton.1 hb]
           refine⟨by omega,by show ¬_<_;omega,fun e=>?_⟩
           have:=(hA3.row.own U.heap.size (by rw[e];simp)).2
           omega) 55
          obtain⟨a8,c8,e8,_,_⟩:=Ww.form
          rw[List.length_append,List.length_singleton,hl3] at e8
          subst e8
          simp only[List.length_cons,List.length_nil] at vF
          rw[sV] at vF
          have yc:=hA3.row.own
          have yI:Z.heap.size ∉ (Value.slice a3 t c3).ownBlock.toList:=fun hm=>by have:=(yc _ hm).1;omega
          have Gx:=(SS.below bV).only LZ yI
          have g3:V8.cell? ⟨Z.heap.size,0,none⟩=some (.slice a3 t c3):=Gx.cell 0 (by simp)
          have g4:V8.frozen? ⟨Z.heap.size,0,none⟩=false:=Gx.frozen 0
          have HN1:=hide (Gx.Lh (.slice a8 (t+1) c8))
          have MV:=hide (Ww.set wS (b:=Z.heap.size) (o:=0) (by show _<_;omega) (.slice a8 (t+1) c8))
          have HN3:Hid ((p3++[(([⟨#[114]⟩],some ⟨U.heap.size,0,none⟩,1):AE ByteArray)]).map Prod.fst=List.replicate (t+1) [(⟨#[114]⟩:ByteArray)]):=by show _=_;rw[List.map_append,hp3,List.replicate_succ'];rfl
          have HN4:Hid (Below Z.heap.size Z (V8.setCell ⟨Z.heap.size,0,none⟩ (.slice a8 (t+1) c8))):=by
           have q:=aj bV xg
           exact(q.trans (LZ.below q.size fun d hd=>by have:=(yc d hd).1;omega)).setCell (p:=⟨Z.heap.size,0,none⟩) (aS _) _
          clear Ww LZ yc yI Gx acI o1 bV SS hA3 hp3 xg
          go_wp2_with (first|(at_builtin;refine bH rfl _ _ 55 rfl vF (by first|rfl|simp[Act.eval,Act.put]) (by first|rfl|simp[Act.eval,Act.put]) ?_))
          go_roundg (T - (t+1))
          case measure=>omega
          case rel=>exact⟨t+1,_,a8,c8,by omega,rfl,HN1.out,MV.out,HN3.out,HN4.out⟩
         ·have hti:¬(t:Int)<(T:Int):=by omega
          obtain rfl:t=T:=by omega
          obtain⟨bsf,M6,hbf⟩:=hA3.all (R:=Km) (fun w b off x bs v h1 h2=>⟨v,h1,h2⟩) (by omega)
          rw[hp3] at M6
          obtain⟨v8,V8,a8,c8,e8,vF,⟨q1,q2,q3,q4⟩,A8⟩:=Jv.more (Y:=Y) (P:=P) MK.out (aS _) jr.out JE.out JF.out sU.out (V:=U) xg (List.replicate t [⟨#[114]⟩]) a3 c3 (by rw[List.length_replicate];exact M6) (fun b hb=>by
           have h1:¬b<Z.heap.size+1:=(hbf b hb).2
           refine⟨MK.out b (by omega),by omega,.inl (by omega)⟩) (by omega)
          subst e8
          rw[List.length_replicate] at vF
          have SQ:=hide A8
          clear A8 M6 hbf hA3 hp3 SS xg
          go_wp2_with (first|(at_builtin;refine bH rfl _ _ 52 rfl vF (by first|rfl|simp[Act.eval,Act.put]) (by first|rfl|simp[Act.eval,Act.put]) ?_))
          go_meet
          case rel=>rw[←Uy.out,HX.out];exact SQ.out
       ·have HX:Hid (lK 7 X sg=⟨sg.name,sg.fields++[[List.replicate (20+X) ⟨#[99]⟩]]⟩):=rfl
        obtain⟨T,hT⟩:∃T,20+X=T:=⟨_,rfl⟩
        rw[hT] at HX
        have hTi:20+(X:Int)=(T:Int):=by omega
        have ae3:T≤40:=by omega
        obtain⟨U0,Wv⟩:∃x,Z.alloc (Obj.cells #[.slice none 0 0] 60)=x:=⟨_,rfl⟩
        have bU0:Below Z.heap.size Z U0:=by rw[←Wv];exact Below.yJ (Below.refl _ _)
        have HF0:Hid (aU U0 Z.heap.size 60 #[.slice none 0 0]):=by rw[←Wv];exact aU.new _ _ _
        have HU0:=hide Wv
        have aaj:=hide bU0
        clear hT Wv bU0
        go_wp2_with fail
        rw[HU0.out]
        go_loopg [168] T (fun q _ wr=>∃(t:Nat) (a3:Option Addr) (c3:Nat),t≤T∧q=T - t∧aU wr Z.heap.size 60 #[.slice a3 t c3]∧FB tC 1 9 (Z.heap.size+1) wr (.slice a3 t c3) (List.replicate t ⟨#[99]⟩)∧Below Z.heap.size Z wr)
        case atStart=>exact⟨0,none,0,eH _,rfl,HF0.out,FB.nil _ _ _ _ _,aaj.out⟩
        case round =>
         obtain⟨t,a3,c3,ht,rfl,SS,hA3,xg⟩:=hrel
         obtain⟨U,rfl⟩:∃x,x=wr:=⟨_,rfl⟩
         have hzu:Z.heap.size<U.heap.size:=SS.lt
         have g1:U.cell? ⟨Z.heap.size,0,none⟩=some (.slice a3 t c3):=SS.cell 0 (by simp)
         have yc:=hA3.own
         clear s0 s1 f0 f1
         by_cases htT:t<T
         ·have hti:(t:Int)<(T:Int):=by omega
          obtain⟨v8,V8,vF,Ww,LZ,_⟩:=app1 (C:=tC) (c:=1) (bytes:=16) (z:=.string ByteArray.empty) Tryz.underlying36 lq rfl (by decide) (fun _=>rfl) RI hA3 36 ⟨#[99]⟩ (by omega) (by rw[List.length_replicate];omega) (by decide)
          obtain⟨a8,c8,e8,_,_⟩:=Ww.form
          rw[List.length_append,List.length_singleton,List.length_replicate] at e8
          subst e8
          have yI:Z.heap.size ∉ (Value.slice a3 t c3).ownBlock.toList:=fun hm=>by have:=(yc _ hm).1;omega
          have Gx:=SS.only LZ yI
          have g3:V8.cell? ⟨Z.heap.size,0,none⟩=some (.slice a3 t c3):=Gx.cell 0 (by simp)
          have g4:V8.frozen? ⟨Z.heap.size,0,none⟩=false:=Gx.frozen 0
          have HN1:=hide (Gx.Lh (.slice a8 (t+1) c8))
          have MV:Hid (FB tC 1 9 (Z.heap.size+1) (V8.setCell ⟨Z.heap.size,0,none⟩ (.slice a8 (t+1) c8)) (.slice a8 (t+1) c8) (List.replicate (t+1) ⟨#[99]⟩)):=by
           rw[List.replicate_succ']
           exact Ww.keep fun b hb=>Deep.blk_setCell_other _ ⟨Z.heap.size,0,none⟩ _ b (by have:=(Ww.own b hb).1;dsimp only;omega)
          have HN4:Hid (Below Z.heap.size Z (V8.setCell ⟨Z.heap.size,0,none⟩ (.slice a8 (t+1) c8))) :=
           (xg.trans (LZ.below xg.size fun d hd=>by have:=(yc d hd).1;omega)).setCell (p:=⟨Z.heap.size,0,none⟩) (aS _) _
          clear Ww LZ yc yI Gx SS hA3 xg
          go_wp2_with (first|(at_builtin;refine bH rfl _ _ 36 rfl vF (by first|rfl|simp[Act.eval,Act.put]) (by first|rfl|simp[Act.eval,Act.put]) ?_))
          go_roundg (T - (t+1))
          case measure=>omega
          case rel=>exact⟨t+1,a8,c8,by omega,rfl,HN1.out,MV.out,HN4.out⟩
         ·have hti:¬(t:Int)<(T:Int):=by omega
          obtain rfl:t=T:=by omega
          have g5:U.cell? ⟨Y.heap.size,1,none⟩=some (.slice af sg.fields.length cf):=(jr.out.below xg).cell 1 (by simp)
          obtain⟨bsr,⟨hOr,_⟩,hbr⟩:=M4 hA3 (by rw[List.length_replicate];omega) (by intro s hs;rw[List.eq_of_mem_replicate hs];decide)
          obtain⟨V,zZ⟩:∃x,U.alloc (Obj.cells #[.slice a3 t c3] 60)=x:=⟨_,rfl⟩
          have bV:Below U.heap.size U V:=by rw[←zZ];exact Below.yJ (Below.refl _ _)
          have sV:V.heap.size=U.heap.size+1:=by rw[←zZ];simp
          have o2:aU V U.heap.size 60 #[.slice a3 t c3]:=by rw[←zZ];exact aU.new _ _ _
          have hOV:fV V (.slice a3 t c3) (List.replicate t ⟨#[99]⟩) bsr:=bS.kept d9 hOr bV.size fun d hd=>bV.block d (bS.lt jy hOr d hd)
          obtain⟨v8,V8,a8,c8,e8,vF,⟨q1,q2,q3,q4⟩,A8⟩:=Jv.more (Y:=Y) (P:=P) MK.out (aS _) jr.out JE.out JF.out sU.out (V:=V) (aj bV xg) [List.replicate t ⟨#[99]⟩] (some ⟨U.heap.size,0,none⟩) 1 (LX o2 hOV) (fun b hb=>by
           rw[List.mem_cons] at hb
           have hbz:Z.heap.size≤b:=by
            rcases hb with rfl|hb
            ·omega
            ·have:=(yc b (hbr b hb)).1;omega
           refine⟨MK.out b (by omega),by omega,.inl hbz⟩) (by omega)
          subst e8
          simp only[List.length_cons,List.length_nil] at vF
          rw[sV] at vF
          have SQ:=hide A8
          clear A8 hOr hbr hA3 SS xg yc bV o2 hOV
          go_wp2_with (first|(at_builtin;refine bH rfl _ _ 52 rfl vF (by first|rfl|simp[Act.eval,Act.put]) (by first|rfl|simp[Act.eval,Act.put]) ?_))
          go_meet
          case rel=>rw[←Uy.out,HX.out];exact SQ.out
       ·have HX:Hid (lK 8 X sg=⟨⟨#[90]⟩,sg.fields⟩):=rfl
        go_wp2_with fail
        go_meet
        case rel =>
         rw[←Uy.out,HX.out]
         exact⟨pf,af,cf,by have:=jr.out.set 0 (.string ⟨#[90]⟩);simpa using this,JE.out.set mW (b:=Y.heap.size) (o:=0) (.inl rfl) _,JF.out,sU.out.setCell (p:=⟨Y.heap.size,0,none⟩) (aS _) _⟩
       ·have HX:Hid (lK A X sg=sg):=SF A X sg hA9
        have n0:¬(A:Int)=0:=by omega
        have n1:¬(A:Int)=1:=by omega
        have n2:¬(A:Int)=2:=by omega
        have n3:¬(A:Int)=3:=by omega
        have n4:¬(A:Int)=4:=by omega
        have n5:¬(A:Int)=5:=by omega
        have n6:¬(A:Int)=6:=by omega
        have n7:¬(A:Int)=7:=by omega
        have n8:¬(A:Int)=8:=by omega
        go_wp2_with fail
        go_meet
        case rel=>rw[←Uy.out,HX.out];exact nC.out
      ·have acA:((k:Int) == (AT:Int))=false:=by simpa using Wu
       have HE:Hid (sg2=sg):=by have:=SN.out;rw[if_neg (by omega)] at this;exact this.symm
       go_wp2_with fail
       go_meet
       case rel=>rw[HE.out];exact nC.out
     case rest =>
      obtain⟨V1,rfl⟩:∃x,x=wc:=⟨_,rfl⟩
      obtain⟨pg,a9,c9,ou,acJ,hp9,nX⟩:=hcut
      have HB9:=hide ou
      have HY9:=hide nX
      have hlg:sg2.fields.length≤1000:=by
       have:=SN.out
       rw[←this]
       split
       ·exact O4 A X sg hfn (by omega)
       ·omega
      have hng:sg2.name.size≤3:=by
       have:=SN.out
       rw[←this]
       split
       ·exact LW A X sg ZM
       ·exact ZM
      obtain⟨yH,hOF,D9⟩:=acJ.all (R:=qZ) (fun w b off x bs v h1 h2=>⟨v,h1,h2⟩) (by have h1:pg.length=sg2.fields.length:=(by rw[←hp9,List.length_map]);omega)
      rw[hp9] at hOF
      have zH:=HRW.out.below nX
      have Zr:Y.heap.size≤V1.heap.size:=nX.size
      have hpl:=XB.out
      obtain⟨v7,V7,VQ,R3,o8⟩:=zH.push (by omega) (by omega) (fun b hb=>by rintro(e|e|e) <;> omega) (sg2,a9,c9) (by show sg2.name.size≤_;omega) (bs:=yH) hOF (fun b hb=>by
       have h1:¬(b=Y.heap.size∨¬P b):=(D9 b hb).2
       have h2:P b:=by by_cases h:P b;exact h;exact absurd (Or.inr h) h1
       exact⟨(D9 b hb).1,by rintro(e|e|e);exact(ZO.out b h2).1 e;exact(ZO.out b h2).2.1.1 e;exact(ZO.out b h2).2.1.2 e,(ZO.out b h2).2.2⟩) 26
      dsimp only at VQ
      obtain⟨a7,c7,e7,_,_⟩:=R3.form
      rw[List.length_append,List.length_singleton,hpl] at e7
      subst e7
      have uq:=zH.row.own
      have yI:M ∉ (Value.slice am k cm).ownBlock.toList:=fun hm=>by have:=(uq _ hm).1;omega
      have R4:=hide (HBM.out.below nX)
      have Lr:=hide (R4.out.only o8 yI)
      have m1:V1.cell? ⟨M,0,none⟩=some (.slice am k cm):=R4.out.cell 0 (by simp)
      have t0:V1.cell? ⟨Y.heap.size,0,none⟩=some (.string sg2.name):=HB9.out.cell 0 (by simp)
      have t1:V1.cell? ⟨Y.heap.size,1,none⟩=some (.slice a9 sg2.fields.length c9):=HB9.out.cell 1 (by simp)
      have m7:V7.cell? ⟨M,0,none⟩=some (.slice am k cm):=Lr.out.cell 0 (by simp)
      have mf7:V7.frozen? ⟨M,0,none⟩=false:=Lr.out.frozen 0
      have R5:=hide (Lr.out.Lh (.slice a7 (k+1) c7))
      have R6:=hide (R3.set (b:=M) (o:=0) (.inl rfl) (.slice a7 (k+1) c7))
      have R7:Hid ((ps++[(sg2,a9,c9)]).map Prod.fst=kC A AT X mm (k+1)):=by show _=_;rw[ZN.out,List.map_append,AJ.out];rfl
      have R8:Hid (Only [M] W0 (V7.setCell ⟨M,0,none⟩ (.slice a7 (k+1) c7))):=by
       have q1:Only [M] W0 V1:=PY.out.trans (Only.of_below nX)
       have q2:Only [M] W0 V7:=⟨o8.os.trans q1.os,o8.tape.trans q1.tape,o8.output.trans q1.output,Nat.le_trans q1.size o8.size,fun b h1 h2=>(o8.block b (Nat.lt_of_lt_of_le h1 q1.size) (fun hm=>by have:=(uq b hm).1;omega)).trans (q1.block b h1 h2)⟩
       exact q2.set1
      clear R3 o8 uq yI zH hOF D9 ou acJ hp9 nX s0 s1 f0 f1 mp d1
      go_wp2_with (first|(at_builtin;refine bH rfl _ _ 26 rfl VQ (by first|rfl|simp[Act.eval,Act.put]) (by first|rfl|simp[Act.eval,Act.put]) ?_))
      go_roundg (n - (k+1))
      case measure=>omega
      case rel=>exact⟨k+1,_,a7,c7,by omega,rfl,by go_num,R5.out,R6.out,R7.out,R8.out⟩
  ·have hki:¬(k:Int)<(n:Int):=by omega
   obtain rfl:k=n:=by omega
   have HQY:=hide (HQW.out.only PY.out (by simp;omega))
   have r0:Y.cell? ⟨w.heap.size+1,0,none⟩=some (.slice none 0 0):=HQY.out.cell 0 (by simp)
   have rf:Y.frozen? ⟨w.heap.size+1,0,none⟩=false:=HQY.out.frozen 0
   have rl:w.heap.size+1<Y.heap.size:=HQY.out.lt
   have hwq:w.heap.size≤Y.heap.size:=jo.out.size
   have hAc:A=9∨A=10∨A=11∨A≤8:=by omega
   rcases hAc with rfl|rfl|rfl|Ww
   ·have HR:Hid (kC 9 AT X mm k++List.replicate (250+X - k) ⟨⟨#[90,90,90]⟩,[]⟩=r9):=xZ.out
    obtain⟨T,hT⟩:∃T,250+X - k=T:=⟨_,rfl⟩
    rw[hT] at HR
    have hTe:k+T=250+X:=by omega
    have hpl:=XB.out
    clear hT r0 rf rl
    go_wp2_with fail
    go_loopg [198] T (fun q _ wr=>∃(t:Nat) (ps:List Jd) (am:Option Addr) (cm:Nat),t≤T∧q=T - t∧aU wr M 28 #[.slice am (k+t) cm]∧iB W0.heap.size (fun b=>b=M∨b=w.heap.size+1∨b<L) wr (.slice am (k+t) cm) ps∧ps.map Prod.fst=kC 9 AT X mm k++List.replicate t ⟨⟨#[90,90,90]⟩,[]⟩∧Only [M] W0 wr)
    case atStart=>exact⟨0,ps,am,cm,eH _,rfl,HBM.out,HRW.out,by rw[AJ.out];simp,PY.out⟩
    case round =>
     obtain⟨t,p5,a5,c5,ht,rfl,Wx,P8,Xw,qF⟩:=hrel
     obtain⟨U,rfl⟩:∃x,x=wr:=⟨_,rfl⟩
     have hl5:p5.length=k+t:=by have:=congrArg List.length Xw;rw[List.length_map,List.length_append,rX,List.length_replicate] at this;exact this
     have m5:U.cell? ⟨M,0,none⟩=some (.slice a5 (k+t) c5):=Wx.cell 0 (by simp)
     have hUs:W0.heap.size≤U.heap.size:=qF.size
     by_cases htT:t<T
     ·have hti:(k:Int)+(t:Int)<250+(X:Int):=by omega
      obtain⟨v7,V7,VQ,R3,o8⟩:=P8.push hUs (by omega) (fun b hb=>by rintro(e|e|e) <;> omega) ((⟨⟨#[90,90,90]⟩,[]⟩:Seg),none,0) (by show (3:Nat)≤_;decide) (bs:=[]) (ZF U none 0) (by simp) 26
      dsimp only at VQ
      simp only[List.length_nil] at VQ
      obtain⟨a7,c7,e7,_,_⟩:=R3.form
      rw[List.length_append,List.length_singleton,hl5] at e7
      subst e7
      have uq:=P8.row.own
      have yI:M ∉ (Value.slice a5 (k+t) c5).ownBlock.toList:=fun hm=>by have:=(uq _ hm).1;omega
      have Wy:=Wx.only o8 yI
      have m7:V7.cell? ⟨M,0,none⟩=some (.slice a5 (k+t) c5):=Wy.cell 0 (by simp)
      have mf7:V7.frozen? ⟨M,0,none⟩=false:=Wy.frozen 0
      have R5:=hide (Wy.Lh (.slice a7 (k+t+1) c7))
      have R6:=hide (R3.set (b:=M) (o:=0) (.inl rfl) (.slice a7 (k+t+1) c7))
      have R7:Hid ((p5++[((⟨⟨#[90,90,90]⟩,[]⟩:Seg),none,0)]).map Prod.fst=kC 9 AT X mm k++List.replicate (t+1) ⟨⟨#[90,90,90]⟩,[]⟩):=by show _=_;rw[List.map_append,Xw,List.replicate_succ',←List.append_assoc];rfl
      have R8:Hid (Only [M] W0 (V7.setCell ⟨M,0,none⟩ (.slice a7 (k+t+1) c7))):=by
       have q2:Only [M] W0 V7:=⟨o8.os.trans qF.os,o8.tape.trans qF.tape,o8.output.trans qF.output,Nat.le_trans qF.size o8.size,fun b h1 h2=>(o8.block b (Nat.lt_of_lt_of_le h1 qF.size) (fun hm=>by have:=(uq b hm).1;omega)).trans (qF.block b h1 h2)⟩
       exact q2.set1
      clear R3 o8 uq yI Wy Wx P8 Xw qF
      go_wp2_with (first|(at_builtin;refine bH rfl _ _ 26 rfl VQ (by first|rfl|simp[Act.eval,Act.put]) (by first|rfl|simp[Act.eval,Act.put]) ?_))
      go_roundg (T - (t+1))
      case measure=>omega
      case rel=>exact⟨t+1,_,a7,c7,by omega,rfl,R5.out,R6.out,R7.out,R8.out⟩
     ·have hti:¬(k:Int)+(t:Int)<250+(X:Int):=by omega
      obtain rfl:t=T:=by omega
      have hQ:=HQW.out.only qF (by simp;omega)
      have r0:U.cell? ⟨w.heap.size+1,0,none⟩=some (.slice none 0 0):=hQ.cell 0 (by simp)
      have rf:U.frozen? ⟨w.heap.size+1,0,none⟩=false:=hQ.frozen 0
      have rl:w.heap.size+1<U.heap.size:=hQ.lt
      have jG:Hid (∀x,aX L (U.setCell ⟨w.heap.size+1,0,none⟩ x) (.slice a5 (k+t) c5) r9∧Below w.heap.size w (U.setCell ⟨w.heap.size+1,0,none⟩ x)):=fun x=>by
       refine⟨?_,(nA.out.trans (qF.below (by omega) fun b hb=>by rw[List.mem_singleton.1 hb];omega)).setCell (p:=⟨w.heap.size+1,0,none⟩) (Nat.le_succ _) x⟩
       rw[←HR.out,←Xw]
       exact(P8.set (b:=w.heap.size+1) (o:=0) (.inr (.inl rfl)) x).SE (by omega) (by omega) fun _ h=>.inr (.inr h)
      have HCP:=hide (AZ P8.row)
      clear hQ Wx P8 Xw qF hTe
      go_wp2_with fail
      exact bodyPost_ret (v:=.agg #[.slice a5 (k+t) c5]) (by simp[results,Tryz.results75,go_sem,r0,rl]) rfl ⟨_,rfl,⟨(jG.out _).1,HCP.out⟩,(jG.out _).2⟩
   ·have HR:Hid (([]:List Seg)=r9):=xZ.out
    have jH:Hid (∀x,Below w.heap.size w (Y.setCell ⟨w.heap.size+1,0,none⟩ x)):=fun x=>jo.out.setCell (p:=⟨w.heap.size+1,0,none⟩) (Nat.le_succ _) x
    go_wp2_with fail
    exact bodyPost_ret (v:=.agg #[.slice none 0 0]) (by simp[results,Tryz.results75,go_sem,r0,rl]) rfl ⟨_,rfl,⟨by rw[←HR.out];exact⟨by simp,.inl ⟨_,_,rfl,rfl⟩⟩,none,0,0,rfl,by omega,by omega⟩,jH.out _⟩
   ·obtain⟨Lg,hLg⟩:∃Lg,39986+X=Lg:=⟨_,rfl⟩
    have HR:Hid ([(⟨⟨#[77,83,72]⟩,[]⟩:Seg),⟨⟨#[90,90,90]⟩,[[[oP ⟨#[118]⟩ (Lg+1) Lg]]]⟩]=r9):=by rw[←hLg];exact xZ.out
    have hLi:39986+(X:Int)=(Lg:Int):=by omega
    have HLG:=hide (oQ ⟨#[118]⟩ (by decide) (by decide) Lg (by omega) Y)
    have hlz:=nH ⟨#[118]⟩ (Lg+1) Lg
    have ae4:(⟨#[118]⟩:ByteArray).size=1:=rfl
    obtain⟨tx,htx⟩:∃t,oP ⟨#[118]⟩ (Lg+1) Lg=t:=⟨_,rfl⟩
    rw[htx] at HLG HR hlz
    have O6:tx.size≤9223372036854775807:=by omega
    obtain⟨V,zZ⟩:∃x,((Y.alloc (Obj.cells #[.string tx] 9)).alloc (Obj.cells #[.slice (some ⟨Y.heap.size,0,none⟩) 1 1] 60)).alloc (Obj.cells #[.slice (some ⟨Y.heap.size+1,0,none⟩) 1 1] 57)=x:=⟨_,rfl⟩
    have sV:V.heap.size=Y.heap.size+1+1+1:=by rw[←zZ];simp
    have bV:Below Y.heap.size Y V:=by rw[←zZ];exact Below.yJ (Below.yJ (Below.yJ (Below.refl _ _)))
    have o1:aU V Y.heap.size 9 #[.string tx]:=by rw[←zZ];exact((aU.new _ _ _).alloc _).alloc _
    have o2:aU V (Y.heap.size+1) 60 #[.slice (some ⟨Y.heap.size,0,none⟩) 1 1]:=by rw[←zZ];exact(JD _ _ _ _).alloc _
    have o3:aU V (Y.heap.size+1+1) 57 #[.slice (some ⟨Y.heap.size+1,0,none⟩) 1 1]:=by
     rw[←zZ]
     have:=JD (Y.alloc (Obj.cells #[.string tx] 9)) (Obj.cells #[.slice (some ⟨Y.heap.size,0,none⟩) 1 1] 60) 57 #[.slice (some ⟨Y.heap.size+1,0,none⟩) 1 1]
     rw[Deep.nblk_alloc] at this
     exact this
    have v3:V.cell? ⟨Y.heap.size+1+1,0,none⟩=some (.slice (some ⟨Y.heap.size+1,0,none⟩) 1 1):=o3.cell 0 (by simp)
    obtain⟨V2,hV2⟩:∃x,(V.alloc (Obj.cells #[.slice (some ⟨Y.heap.size+1,0,none⟩) 1 1] 57)).alloc (Obj.cells #[.string ⟨#[77,83,72]⟩,.slice none 0 0,.string ⟨#[90,90,90]⟩,.slice (some ⟨Y.heap.size+1+1+1,0,none⟩) 1 1] 54)=x:=⟨_,rfl⟩
    have bV2:Below V.heap.size V V2:=by rw[←hV2];exact Below.yJ (Below.yJ (Below.refl _ _))
    have o4:aU V2 (Y.heap.size+1+1+1) 57 #[.slice (some ⟨Y.heap.size+1,0,none⟩) 1 1]:=by rw[←hV2,←sV];exact(aU.new _ _ _).alloc _
    have o5:aU V2 (Y.heap.size+1+1+1+1) 54 #[.string ⟨#[77,83,72]⟩,.slice none 0 0,.string ⟨#[90,90,90]⟩,.slice (some ⟨Y.heap.size+1+1+1,0,none⟩) 1 1]:=by
     rw[←hV2,←sV]
     exact JD _ _ _ _
    have XR:=aj bV2 bV
    have hQ2:=HQY.out.below XR
    have u0:V2.cell? ⟨w.heap.size+1,0,none⟩=some (.slice none 0 0):=hQ2.cell 0 (by simp)
    have uf:V2.frozen? ⟨w.heap.size+1,0,none⟩=false:=hQ2.frozen 0
    have ul:w.heap.size+1<V2.heap.size:=hQ2.lt
    have jG:Hid (∀x,aX L (V2.setCell ⟨w.heap.size+1,0,none⟩ x) (.slice (some ⟨Y.heap.size+1+1+1+1,0,none⟩) 2 2) r9∧Below w.heap.size w (V2.setCell ⟨w.heap.size+1,0,none⟩ x)):=fun x=>by
     refine⟨?_,(aj XR jo.out).setCell (p:=⟨w.heap.size+1,0,none⟩) (Nat.le_succ _) x⟩
     rw[←HR.out]
     have k1:=(o1.below bV2).other (a:=⟨w.heap.size+1,0,none⟩) (by dsimp only;omega) x
     have k2:=(o2.below bV2).other (a:=⟨w.heap.size+1,0,none⟩) (by dsimp only;omega) x
     have k4:=o4.other (a:=⟨w.heap.size+1,0,none⟩) (by dsimp only;omega) x
     have k5:=o5.other (a:=⟨w.heap.size+1,0,none⟩) (by dsimp only;omega) x
     exact Wq k5 k4 (Sq (c2:=1) k1 k2 O6) (by omega) (by omega) (fun d hd=>by simp at hd;omega)
    have NQ:=hide zZ
    have HV4:=hide hV2
    have sY:=jo.out.size
    clear hLg htx o1 o2 o3 o4 o5 bV2 bV XR hQ2 r0 rf rl hV2
    go_wp2_with fail
    refine HLG.out.mono ?_
    rintro e y ⟨rfl,hy⟩
    (try rw[hy])
    clear hy y
    have hV2:=HV4.out
    go_wp2_with fail
    exact bodyPost_ret (v:=.agg #[.slice (some ⟨Y.heap.size+1+1+1+1,0,none⟩) 2 2]) (by simp[results,Tryz.results75,go_sem,u0,ul]) rfl ⟨_,rfl,⟨(jG.out _).1,_,2,2,rfl,by omega,by omega⟩,(jG.out _).2⟩
   ·have HR:Hid (kC A AT X mm k=r9):=by have:=xZ.out;rw[if_neg (by omega),if_neg (by omega),if_neg (by omega)] at this;exact this
    have n9:¬(A:Int)=9:=by omega
    have n10:¬(A:Int)=10:=by omega
    have n11:¬(A:Int)=11:=by omega
    have m1:Y.cell? ⟨M,0,none⟩=some (.slice am k cm):=HBM.out.cell 0 (by simp)
    have jG:Hid (∀x,aX L (Y.setCell ⟨w.heap.size+1,0,none⟩ x) (.slice am k cm) r9∧Below w.heap.size w (Y.setCell ⟨w.heap.size+1,0,none⟩ x)):=fun x=>by
     refine⟨?_,jo.out.setCell (p:=⟨w.heap.size+1,0,none⟩) (Nat.le_succ _) x⟩
     rw[←HR.out,←AJ.out]
     exact(HRW.out.set (b:=w.heap.size+1) (o:=0) (.inr (.inl rfl)) x).SE (by rw[XB.out];omega) (by omega) fun _ h=>.inr (.inr h)
    go_wp2_with fail
    exact bodyPost_ret (v:=.agg #[.slice am k cm]) (by simp[results,Tryz.results75,go_sem,r0,rl]) rfl ⟨_,rfl,⟨(jG.out _).1,AZ HRW.out.row⟩,(jG.out _).2⟩
end Go.Proofs.YtfdihjnlgdiioaaGreatDoor.dB
