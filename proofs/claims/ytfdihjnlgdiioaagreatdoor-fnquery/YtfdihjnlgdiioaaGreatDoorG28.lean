import Derived.Test.YtfdihjnlgdiioaaGreatDoorG21
import Derived.Test.YtfdihjnlgdiioaaGreatDoorG23
import Derived.Lib.Join
namespace Go.Proofs.YtfdihjnlgdiioaaGreatDoor.dB
open Go.ChangeShapes Go.WideShapes Go.ChangeAt Go.RowKit
set_option linter.unusedVariables false
set_option linter.unusedSimpArgs false
theorem LD (s:ByteArray):gQ (ah s)=ah s:=by
 unfold ah
 split
 ·rfl
 ·rename_i h
  have e:oN s=false:=by unfold oN;rw[beq_eq_false_iff_ne];exact h
  have e1:gX [s]=[s]:=by unfold gX ay;simp[aK,e]
  unfold gQ
  simp only[List.map_cons,List.map_nil,e1]
  rfl
theorem zW (texts:List ByteArray):trimF (texts.map ah)=ay List.isEmpty (texts.map ah):=by
 unfold trimF
 rw[List.map_map]
 congr 1
 apply List.map_congr_left
 intro s _
 exact LD s
theorem jS.fields {P:Nat→Prop} {base:Nat} {w:World} {v:Value} {xs:List Field} (h:jS bP P 57 base w v xs) (hP:∀b,P b→base≤b) (hl:xs.length≤9223372036854775807):aG base w v xs:=by
 obtain⟨a,cap,rfl,_,_,_,bs,hO,hb⟩:=jS.first (R:=qZ) (fun w b off x bs v h1 h2=>⟨v,h1,h2⟩) h hl (n:=xs.length) (aS _)
 rw[List.take_length] at hO
 exact bS.pO mG hO fun c hc=>by
  rcases(hb c hc).2 with h|h
  ·exact hP c h
  ·exact h
theorem jS.row {P:Nat→Prop} {base:Nat} {w:World} {v:Value} {xs:List Field} (h:jS bP P 57 base w v xs) (hP:∀b,P b→base≤b) (h0:0<xs.length) :
  ∃g cap,v=.slice (some ⟨g,0,none⟩) xs.length cap∧base≤g∧g<w.heap.size∧(∀i,w.frozen? ⟨g,i,none⟩=false)∧∀i (hi:i<xs.length),∃u bs,w.cell? ⟨g,i,none⟩=some u∧bP w u xs[i] bs∧∀b∈bs,base≤b∧b<w.heap.size∧b≠g:=by
 obtain⟨vs,bss,h1,h2,⟨hlen,hown⟩,h5⟩:=h
 rcases hown with⟨rfl,e⟩|⟨g,cap,cur,rfl,hg,hs,hcap,hm,hsz,ht⟩
 ·omega
 ·have hgl:g<w.heap.size:=by rw[Array.getElem?_eq_some_iff] at hs;exact hs.1
  refine⟨g,cap,rfl,hg,hgl,fun i=>by simp[World.frozen?,hs],fun i hi=>⟨vs[i]'(by omega),bss[i]'(by omega),?_,(h5 i hi (by omega) (by omega)).1,fun b hb=>?_⟩⟩
  ·obtain⟨ve,hve⟩:∃ve,vs[i]'(by omega)=ve:=⟨_,rfl⟩
   have e1:vs[i]?=some ve:=by rw[←hve];exact List.getElem?_eq_getElem (by omega)
   rw[hve]
   rw[←ht,List.getElem?_take,if_pos (by omega)] at e1
   simp only[World.cell?,hs]
   rw[←Array.getElem?_toList,e1]
   rfl
  ·have k:=(h5 i hi (by omega) (by omega)).2 b hb
   exact⟨hP b k.1,k.2.1,fun e=>k.2.2 (by simp[Value.ownBlock,e])⟩
def zX (a control:ByteArray):List ByteArray:=[⟨#[]⟩,⟨#[]⟩,⟨#[]⟩,⟨#[]⟩,⟨#[]⟩,⟨#[]⟩,a,control,⟨#[]⟩,wL]
theorem LG (a control:ByteArray):trimF ((zX a control).map ah)=[[],[],[],[],[],[],ah a,ah control,[],ah wL]:=by
 rw[zW]
 rfl
theorem xX (w:World) (ts:List ByteArray) (hz:∀t∈ts,t.size≤9223372036854775807) (hl:ts.length≤9223372036854775807) :
  bq 0 (w.alloc (.cells (ts.map Value.string).toArray 9)) (.slice (some ⟨w.heap.size,0,none⟩) ts.length ts.length) ts :=
 ⟨hl,.inr ⟨w.heap.size,0,ts.length,rfl,⟨eH _,by simp⟩,fun i hi=>⟨by simp[hi],hz _ (List.getElem_mem hi)⟩⟩⟩
set_option maxRecDepth 100000 in
set_option maxHeartbeats 2000000 in
theorem vg (a b control:ByteArray) (w:World) (ha:a.size≤1048576) (hb:b.size≤1048576) (hc:control.size≤1048576) :
  Calls Tryz.prog 25 #[.string a,.string b,.string control] w fun e w'=>∃u,e=.returned (.agg #[.string ⟨#[77,83,72]⟩,u])∧aG (w.heap.size+1) w' u (aI [a,b] control)∧Below w.heap.size w w':=by
 have hz:∀t∈zX a control,t.size≤1048576:=by
  intro t ht
  simp only[zX,List.mem_cons,List.not_mem_nil,or_false] at ht
  rcases ht with rfl|rfl|rfl|rfl|rfl|rfl|rfl|rfl|rfl|rfl <;> first|assumption|decide
 have HZ:=hide hz
 clear hz
 obtain⟨W0,hW0⟩:∃W0,w.alloc (Obj.cells #[.string ⟨#[]⟩,.slice none 0 0] 54)=W0:=⟨_,rfl⟩
 have hs0:W0.heap.size=w.heap.size+1:=by rw[←hW0];simp
 have HB0:Hid (Below w.heap.size w W0):=by rw[←hW0];exact aO _ _
 have Rl:Hid (W0.cell? ⟨w.heap.size,0,none⟩=some (.string ⟨#[]⟩)∧W0.cell? ⟨w.heap.size,1,none⟩=some (.slice none 0 0)∧∀i,W0.frozen? ⟨w.heap.size,i,none⟩=false):=by rw[←hW0];exact⟨by simp,by simp,fun i=>by simp⟩
 have HW:Hid (bq 0 (W0.alloc (.cells #[.string ⟨#[]⟩,.string ⟨#[]⟩,.string ⟨#[]⟩,.string ⟨#[]⟩,.string ⟨#[]⟩,.string ⟨#[]⟩,.string a,.string control,.string ⟨#[]⟩,.string ⟨#[50,46,53,46,49]⟩] 9)) (.slice (some ⟨w.heap.size+1,0,none⟩) 10 10) (zX a control)):=by
  have:=xX W0 (zX a control) (fun t ht=>Nat.le_trans (HZ.out t ht) (by omega)) (by simp[zX])
  rw[hs0] at this
  exact this
 obtain⟨W1,hW1⟩:∃W1,W0.alloc (.cells #[.string ⟨#[]⟩,.string ⟨#[]⟩,.string ⟨#[]⟩,.string ⟨#[]⟩,.string ⟨#[]⟩,.string ⟨#[]⟩,.string a,.string control,.string ⟨#[]⟩,.string ⟨#[50,46,53,46,49]⟩] 9)=W1:=⟨_,rfl⟩
 have hs1:W1.heap.size=w.heap.size+1+1:=by rw[←hW1];simp[hs0]
 have HB1:Hid (Below W0.heap.size W0 W1):=by rw[←hW1];exact aO _ _
 rw[hW1] at HW
 go_enter Tryz.func25,Tryz.ntmps25
 go_wp2_with fail
 try rw[hW0]
 try rw[hW1]
 refine(iO ⟨#[77,83,72]⟩ (zX a control) _ _ HW.out (by simp[zX]) HZ.out).mono ?_
 rintro e W2 ⟨u2,rfl,hR,hb2⟩
 rw[LG] at hR
 obtain⟨g,cap,rfl,hg,hgl,hgf,hrow⟩:=jS.row hR (fun b h=>h) (by simp)
 rw[hs1] at hg hrow
 have hlen:([[],[],[],[],[],[],ah a,ah control,[],ah wL]:List Field).length=10:=rfl
 rw[hlen]
 have OX:Below W0.heap.size W0 W2:=aJ hb2 HB1.out
 have c0:W2.cell? ⟨w.heap.size,0,none⟩=some (.string ⟨#[]⟩):=by rw[OX.cell (p:=⟨w.heap.size,0,none⟩) (by simp;omega)];exact Rl.out.1
 have c1:W2.cell? ⟨w.heap.size,1,none⟩=some (.slice none 0 0):=by rw[OX.cell (p:=⟨w.heap.size,1,none⟩) (by simp;omega)];exact Rl.out.2.1
 have f0:∀i,W2.frozen? ⟨w.heap.size,i,none⟩=false:=fun i=>by rw[OX.frozen (p:=⟨w.heap.size,i,none⟩) (by simp;omega)];exact Rl.out.2.2 i
 have hwb:w.heap.size<W2.heap.size:=by have:=OX.size;omega
 obtain⟨u6,Y4,c6,Kk,_⟩:=hrow 6 (by simp)
 have Ju:=hide hrow
 have Vw:=hide (aJ OX HB0.out)
 have hne:w.heap.size≠g:=by omega
 have hne2:g≠W2.heap.size:=by omega
 have w6f:W2.frozen? ⟨g,6,none⟩=false:=hgf 6
 clear hrow hR hb2 OX Kk HW HB1 Rl HZ hW0 hW1
 obtain⟨A1,hA1⟩:∃A1,W2.alloc (Obj.cells #[.string ⟨#[77,83,72]⟩,.slice (some ⟨g,0,none⟩) 10 cap] 54)=A1:=⟨_,rfl⟩
 obtain⟨A2,hA2⟩:∃A2,A1.alloc (Obj.cells #[.string a,.string b] 9)=A2:=⟨_,rfl⟩
 obtain⟨A3,hA3⟩:∃A3,A2.alloc (Obj.cells #[.slice (some ⟨W2.heap.size+1,0,none⟩) 2 2] 60)=A3:=⟨_,rfl⟩
 have t1:A1.heap.size=W2.heap.size+1:=by rw[←hA1];simp
 have t2:A2.heap.size=W2.heap.size+1+1:=by rw[←hA2];simp[t1]
 have t3:A3.heap.size=W2.heap.size+1+1+1:=by rw[←hA3];simp[t2]
 have q1:Below W2.heap.size W2 A1:=by rw[←hA1];exact aO _ _
 have q2:Below A1.heap.size A1 A2:=by rw[←hA2];exact aO _ _
 have q3:Below A2.heap.size A2 A3:=by rw[←hA3];exact aO _ _
 have q13:=aJ q3 q2
 have Uw:=aJ q13 q1
 have m1:A1.cell? ⟨W2.heap.size,1,none⟩=some (.slice (some ⟨g,0,none⟩) 10 cap):=by rw[←hA1];simp
 have g6:A3.cell? ⟨g,6,none⟩=some u6:=by rw[Uw.cell (p:=⟨g,6,none⟩) hgl];exact c6
 have g6f:A3.frozen? ⟨g,6,none⟩=false:=by rw[Uw.frozen (p:=⟨g,6,none⟩) hgl];exact hgf 6
 go_upto_region 3 with fail
 obtain⟨A4,Lp⟩:∃A4,A3.setCell ⟨g,6,none⟩ (.slice (some ⟨W2.heap.size+1+1,0,none⟩) 1 1)=A4:=⟨_,rfl⟩
 rw[Lp]
 have t4:A4.heap.size=W2.heap.size+1+1+1:=by rw[←Lp,Deep.nblk_setCell];exact t3
 have Wh:∀c,c≠g→A4.heap[c]?=A3.heap[c]?:=fun c hc=>by rw[←Lp];exact Deep.blk_setCell_other _ _ _ _ hc
 have d0:A4.cell? ⟨W2.heap.size,0,none⟩=some (.string ⟨#[77,83,72]⟩):=by
  rw[fZ (Wh _ (by omega)),q13.cell (p:=⟨W2.heap.size,0,none⟩) (by rw[t1];simp),←hA1];simp
 have d1:A4.cell? ⟨W2.heap.size,1,none⟩=some (.slice (some ⟨g,0,none⟩) 10 cap):=by
  rw[fZ (Wh _ (by omega)),q13.cell (p:=⟨W2.heap.size,1,none⟩) (by rw[t1];simp),←hA1];simp
 have e0:A4.cell? ⟨w.heap.size,0,none⟩=some (.string ⟨#[]⟩):=by rw[fZ (Wh _ hne),Uw.cell (p:=⟨w.heap.size,0,none⟩) hwb];exact c0
 have e1:A4.cell? ⟨w.heap.size,1,none⟩=some (.slice none 0 0):=by rw[fZ (Wh _ hne),Uw.cell (p:=⟨w.heap.size,1,none⟩) hwb];exact c1
 have ef:∀i,A4.frozen? ⟨w.heap.size,i,none⟩=false:=fun i=>by rw[kK (Wh _ hne),Uw.frozen (p:=⟨w.heap.size,i,none⟩) hwb];exact f0 i
 have hw4:w.heap.size<A4.heap.size:=by omega
 have abW:Hid (aG (w.heap.size+1) A4 (.slice (some ⟨g,0,none⟩) 10 cap) (aI [a,b] control)):=by
  have aeT:A4.cell? ⟨g,6,none⟩=some (.slice (some ⟨W2.heap.size+1+1,0,none⟩) 1 1):=by
   have h6:A3.cell? ⟨g,6,none⟩=some u6:=by rw[Uw.cell (p:=⟨g,6,none⟩) hgl];exact c6
   rw[←Lp]
   exact World.cell?_setCell_same _ _ _ h6
  have hoth:∀i,i≠6→A4.cell? ⟨g,i,none⟩=W2.cell? ⟨g,i,none⟩:=fun i hi=>by
   rw[←Uw.cell (p:=⟨g,i,none⟩) hgl,←Lp]
   exact World.cell?_setCell_other _ _ _ _ (by intro h;simp only[Addr.mk.injEq] at h;omega)
  refine⟨by simp[aI],.inr ⟨g,0,cap,rfl,⟨by omega,by omega⟩,fun i hi=>?_⟩⟩
  have ZE:i<10:=hi
  by_cases h6:i=6
  ·subst h6
   refine⟨_,aeT,(by decide:1≤9223372036854775807),.inr ⟨_,0,1,rfl,⟨by omega,by omega⟩,fun j hj=>?_⟩⟩
   obtain rfl:j=0:=by simp[aI] at hj;omega
   refine⟨.slice (some ⟨W2.heap.size+1,0,none⟩) 2 2,?_,(by decide:2≤9223372036854775807),.inr ⟨_,0,2,rfl,⟨by omega,by omega⟩,fun k hk=>?_⟩⟩
   ·rw[fZ (Wh _ (by omega)),←hA3,←t2];simp
   ·have hk2:k<2:=hk
    have hkk:A4.cell? ⟨W2.heap.size+1,0+k * 1,none⟩=A2.cell? ⟨W2.heap.size+1,k,none⟩:=by
     rw[fZ (Wh _ (by omega)),q3.cell (p:=⟨W2.heap.size+1,0+k * 1,none⟩) (by rw[t2];simp)]
     simp
    refine⟨hkk.trans ?_,?_⟩
    ·rw[←hA2,←t1]
     match k,hk2 with
     | 0,_=>simp[aI]
     | 1,_=>simp[aI]
    ·match k,hk2 with
     | 0,_=>simp[aI];omega
     | 1,_=>simp[aI];omega
  ·obtain⟨u,bs,k1,k2,k3⟩:=Ju.out i ZE
   have hx:([[],[],[],[],[],[],ah a,ah control,[],ah wL]:List Field)[i]'ZE=(aI [a,b] control)[i]:=by
    match i,ZE,h6 with
    | 0,_,_=>rfl
    | 1,_,_=>rfl
    | 2,_,_=>rfl
    | 3,_,_=>rfl
    | 4,_,_=>rfl
    | 5,_,_=>rfl
    | 7,_,_=>rfl
    | 8,_,_=>rfl
    | 9,_,_=>rfl
   rw[hx] at k2
   refine⟨u,?_,bS.pO oC (bS.kept fD k2 (w':=A4) (by omega) fun c hc=>?_) fun c hc=>by have:=(k3 c hc).1;omega⟩
   ·have:=hoth i h6
    rw[k1] at this
    simpa using this
   ·rw[Wh c (k3 c hc).2.2,Uw.block c (k3 c hc).2.1]
 have o7:Hid (Below w.heap.size w A4):=by rw[←Lp];exact(aJ Uw Vw.out).setCell (by simp;omega) _
 clear hA1 hA2 hA3 Lp q1 q2 q3 q13 Uw Wh Ju Vw c0 c1 c6 f0 hgf t1 t2 t3
 go_wp2_with fail
 refine bodyPost_ret (v:=.agg #[.string ⟨#[77,83,72]⟩,.slice (some ⟨g,0,none⟩) 10 cap]) (by simp[results,Tryz.results25,go_sem,e0,e1,hw4]) rfl ⟨_,rfl,?_,?_⟩
 ·refine At.same aP abW.out ⟨by rw[Deep.nblk_setCell,Deep.nblk_setCell];exact aS _,fun c h1 h2=>?_⟩
  rw[Deep.blk_setCell_other,Deep.blk_setCell_other] <;> (simp;omega)
 ·exact(o7.out.setCell (by simp) _).setCell (by simp) _
def Ei:Field:=[[⟨#[118]⟩]]
def lK (a x:Nat) (s:Seg):Seg :=
 if a=0 then ⟨⟨#[109,115,104]⟩,s.fields⟩ else if a=1 then ⟨⟨#[77,83,72]⟩,s.fields⟩ else if a=2 then ⟨s.name,s.fields++[([]:Field)]⟩
 else if a=3 then ⟨s.name,s.fields++[[[⟨#[118]⟩,⟨#[]⟩]]]⟩ else if a=4 then ⟨s.name,s.fields++[[[⟨#[118]⟩++⟨#[UInt8.ofNat (31+96 * x)]⟩]]]⟩
 else if a=5 then ⟨s.name,s.fields++List.replicate (30+x - s.fields.length) Ei⟩ else if a=6 then ⟨s.name,s.fields++[List.replicate (30+x) [⟨#[114]⟩]]⟩
 else if a=7 then ⟨s.name,s.fields++[[List.replicate (20+x) ⟨#[99]⟩]]⟩ else if a=8 then ⟨⟨#[90]⟩,s.fields⟩ else s
def kC (a at_ x:Nat) (m:List Seg):Nat→List Seg
 | 0=>[]
 | n+1=>kC a at_ x m n++[if n=at_ then lK a x (m.getD n ⟨⟨#[]⟩,[]⟩) else m.getD n ⟨⟨#[]⟩,[]⟩]
theorem rX (a at_ x:Nat) (m:List Seg):∀n,(kC a at_ x m n).length=n
 | 0=>rfl
 | n+1=>by show (kC a at_ x m n++[_]).length=_;rw[List.length_append,rX a at_ x m n];rfl
theorem Sq {w:World} {b1 b2 c1 c2:Nat} {s:ByteArray} (h1:aU w b1 9 #[.string s]) (h2:aU w b2 60 #[.slice (some ⟨b1,0,none⟩) 1 c1]) (hs:s.size≤9223372036854775807):bP w (.slice (some ⟨b2,0,none⟩) 1 c2) [[s]] [b2,b1] :=
 Q8 hs h2.lt h1.lt (h2.cell 0 (by simp)) (h1.cell 0 (by simp)) (h1.frozen 0)
theorem ZF (w:World) (a:Option Addr) (c:Nat):aN w (.slice a 0 c) [] []:=⟨by simp,.inl ⟨a,c,rfl,rfl,rfl⟩⟩
def Jv (Y X:World) (Sb:Nat) (P:Nat→Prop) (s:Seg):Prop:=∃pf a c,aU X Sb 54 #[.string s.name,.slice a s.fields.length c]∧lT bP 57 (Sb+1) (fun b=>b=Sb∨¬P b) X (.slice a s.fields.length c) pf∧pf.map Prod.fst=s.fields∧Below Y.heap.size Y X
theorem ZG {W:World} {b:Nat} {t:TypeId} {y0 y1:Value} (h:aU W b t #[y0,y1]) {G:Prop} (k:(W.cell? ⟨b,0,none⟩=some y0∧W.cell? ⟨b,1,none⟩=some y1)∧W.frozen? ⟨b,0,none⟩=false∧W.frozen? ⟨b,1,none⟩=false→G):G :=
 k ⟨⟨h.cell 0 (by simp),h.cell 1 (by simp)⟩,h.frozen 0,h.frozen 1⟩
theorem Jv.more {Y X:World} {Sb:Nat} {P:Nat→Prop} {nm:ByteArray} {fs:List Field} {pf:List (AE lW)} {a:Option Addr} {c:Nat} (hP:∀b,Sb<b→P b) (hSb:Y.heap.size≤Sb) (dP:aU X Sb 54 #[.string nm,.slice a fs.length c]) (hA:lT bP 57 (Sb+1) (fun b=>b=Sb∨¬P b) X (.slice a fs.length c) pf) (hpf:pf.map Prod.fst=fs) (hb:Below Y.heap.size Y X)
  {V:World} (hV:Below X.heap.size X V) (f:Field) (af:Option Addr) (cf:Nat) {bs:List Nat} (hO:bP V (.slice af f.length cf) f bs) (hbs:∀b∈bs,P b∧b≠Sb∧(X.heap.size≤b∨b<X.heap.size∧(Value.slice a fs.length c).ownBlock≠some b)) (hl:fs.length≤1000) :
  ∃v' V' a' c',v'=.slice a' (fs.length+1) c'∧(Builtin.append_ #[52,52] 52 #[.slice a fs.length c,.slice (some ⟨V.heap.size,0,none⟩) 1 1]).run Tryz.prog (V.alloc (.cells #[.slice af f.length cf] 57))=.ok v' V' ∧
   (V.cell? ⟨Sb,1,none⟩=some (.slice a fs.length c)∧V'.cell? ⟨Sb,0,none⟩=some (.string nm)∧V'.cell? ⟨Sb,1,none⟩=some (.slice a fs.length c)∧V'.frozen? ⟨Sb,1,none⟩=false)∧Jv Y (V'.setCell ⟨Sb,1,none⟩ (.slice a' (fs.length+1) c')) Sb P ⟨nm,fs++[f]⟩:=by
 have hlt:=dP.lt
 have hXV:=hV.size
 have hpl:pf.length=fs.length:=by rw[←hpf,List.length_map]
 have hA':=hA.below mW hV
 have hown:=hA.row.own
 obtain⟨v',V',hr,hR,rR⟩:=hA'.push mW Tryz.underlying52 kL rfl (by decide) (by omega) (by omega) (fun b hb'=>by rintro(e|e);omega;exact e (hP b (by omega))) (f,af,cf) (bs:=bs) hO (fun b hb'=>by
  obtain⟨q1,q2,q3⟩:=hbs b hb'
  refine⟨bS.lt dJ hO b hb',by rintro(e|e);exact q2 e;exact e q1,fun e=>?_⟩
  rcases q3 with q3|q3
  ·have:=(hown b (by rw[e];simp)).2;omega
  ·exact q3.2 e) 52
 obtain⟨a',c',e',_,_⟩:=hR.form
 rw[List.length_append,List.length_singleton,hpl] at e'
 subst e'
 have yI:Sb ∉ (Value.slice a fs.length c).ownBlock.toList:=fun hm=>by have:=(hown _ hm).1;omega
 have hBV:=dP.below hV
 have Wi:=hBV.only rR yI
 refine⟨_,V',a',c',rfl,hr,⟨hBV.cell 1 (by simp),Wi.cell 0 (by simp),Wi.cell 1 (by simp),Wi.frozen 1⟩,pf++[(f,af,cf)],a',c',?_,?_,?_,?_⟩
 ·have:=Wi.set 1 (.slice a' (fs.length+1) c')
  rw[List.length_append,List.length_singleton]
  simpa using this
 ·rw[List.length_append,List.length_singleton]
  exact hR.set mW (b:=Sb) (o:=1) (.inl rfl) _
 ·rw[List.map_append,hpf];rfl
 ·have q:=aj hV hb
  exact(q.trans (rR.below q.size fun d hd=>by have:=(hown d hd).1;omega)).setCell (p:=⟨Sb,1,none⟩) hSb _
theorem CO (s:ByteArray):(s.toList == [])=!decide (0<s.size):=by
 by_cases h:0<s.size
 ·rw[decide_eq_true h,ByteArray.toList_eq]
  rw[beq_eq_false_iff_ne.2]
  ·rfl
  ·intro h2
   have:=congrArg List.length h2
   simp at this
   have h3:s.size=0:=by rw[this];rfl
   omega
 ·rw[decide_eq_false h]
  have e:s=⟨#[]⟩:=by
   apply ByteArray.ext
   exact Array.eq_empty_of_size_eq_zero (by show s.size=0;omega)
  rw[e,ByteArray.toList_eq]
  rfl
theorem ze {ct:ByteArray} (h:aL ct=true):known ct=ct∧(ct.toList == [])=false:=by
 refine⟨by unfold known;rw[h];rfl,?_⟩
 have h1:1≤ct.size:=by
  unfold aL kW at h
  rw[Bool.and_eq_true,decide_eq_true_eq] at h
  exact h.1
 rw[CO,decide_eq_true (by omega)]
 rfl
theorem CP {ct:ByteArray} (h:aL ct=false):known ct=⟨#[]⟩:=by unfold known;rw[h];rfl
def eG (kind ct ver dZ tag query pointer:ByteArray) (page:Int):Value × Option Int :=
 if !(kind.toList == [81,66,80]) && !(kind.toList == [81,67,78]) then (.nilIface,some 200)
 else if !aL ct then (.nilIface,some 101)
 else if !(ver.toList == [50,46,53,46,49]) then (.nilIface,some 203)
 else (gM kind ct dZ tag query pointer page,
  if kind.toList == [81,67,78] then (if aL ct && fH dZ then none else some 101)
  else if pointer.toList == [] then newL ct tag query page else gJ ct tag query pointer)
theorem LH {kind ct ver dZ tag query pointer size:ByteArray} {num c:Int} (h:(eG kind ct ver dZ tag query pointer (if size.toList == [] then 10 else num)).2=some c) :
  bG kind ct ver dZ tag query pointer size num=(told ct,c):=by
 have ep:=CO pointer
 have es:=CO size
 unfold eG at h
 unfold bG
 split at h
 ·rename_i h1
  rw[if_pos h1]
  injection h with h
  rw[h]
 ·rename_i h1
  rw[if_neg h1]
  split at h
  ·rename_i h2
   rw[if_pos h2]
   injection h with h
   rw[h]
  ·rename_i h2
   rw[if_neg h2]
   have hc:aL ct=true:=by cases hc:aL ct <;> simp[hc] at h2 ⊢
   split at h
   ·rename_i h3
    rw[if_pos h3]
    injection h with h
    rw[h]
   ·rename_i h3
    rw[if_neg h3]
    simp only at h
    split at h
    ·rename_i h4
     rw[if_pos h4]
     cases ht:fH dZ
     ·rw[hc,ht] at h
      simp at h
      simp[h]
     ·rw[hc,ht] at h
      simp at h
    ·rename_i h4
     rw[if_neg h4]
     unfold newL gJ at h
     cases ht:fH tag
     ·rw[hc,ht] at h
      simp at h
      simp[h]
     ·rw[hc,ht] at h
      cases hq:aW query
      ·rw[hq] at h
       simp at h
       simp[h]
      ·cases hp:aW pointer
       ·have hz:¬(pointer.toList == [])=true:=by
         intro hz
         rw[ep] at hz
         have h0:pointer.size=0:=by
          by_cases h0:0<pointer.size
          ·rw[decide_eq_true h0] at hz;cases hz
          ·omega
         have:aW pointer=true:=by
          unfold aW kW dI
          have e:pointer=⟨#[]⟩:=by
           apply ByteArray.ext
           exact Array.eq_empty_of_size_eq_zero h0
          rw[e]
          rfl
         rw[this] at hp
         cases hp
        rw[if_neg hz,hq,hp] at h
        simp at h
        simp[h]
       ·by_cases hz:0<pointer.size
        ·rw[if_neg (by rw[ep,decide_eq_true hz];simp),hq,hp,decide_eq_true hz] at h
         simp at h
        ·rw[if_pos (by rw[ep,decide_eq_false hz];rfl),hq] at h
         rw[if_neg (by simp),if_neg (by simp),if_neg hz]
         by_cases hs:0<size.size
         ·have e2:(size.toList == [])=false:=by rw[es,decide_eq_true hs];rfl
          simp only[e2,Bool.false_eq_true,if_false,Bool.and_self,if_true,Bool.true_and] at h
          rw[if_pos hs]
          cases hn:(decide (1≤num) && decide (num≤50))
          ·rw[hn] at h
           simp at h
           simp[h]
          ·rw[hn] at h
           simp at h
         ·have e2:(size.toList == [])=true:=by rw[es,decide_eq_false hs];rfl
          simp only[e2,if_true,Bool.and_self,Bool.true_and] at h
          rw[if_pos (by decide)] at h
          cases h
theorem LJ {kind ct ver dZ tag query pointer size:ByteArray} {num:Int} (h:(eG kind ct ver dZ tag query pointer (if size.toList == [] then 10 else num)).2=none) :
  ((eG kind ct ver dZ tag query pointer (if size.toList == [] then 10 else num)).1=.iface 100 (.agg #[.string ct,.string dZ])∧bG kind ct ver dZ tag query pointer size num=(⟨3,ct,dZ,⟨#[]⟩,0,⟨#[]⟩⟩,0)) ∨
  ((eG kind ct ver dZ tag query pointer (if size.toList == [] then 10 else num)).1=.iface 98 (.agg #[.string ct,.string tag,.string query,.string pointer])∧bG kind ct ver dZ tag query pointer size num=(⟨2,ct,tag,query,0,pointer⟩,0)) ∨
  ((eG kind ct ver dZ tag query pointer (if size.toList == [] then 10 else num)).1=.iface 96 (.agg #[.string ct,.string tag,.string query,.int .i64 (if size.toList == [] then 10 else num)])∧bG kind ct ver dZ tag query pointer size num=(⟨1,ct,tag,query,if size.toList == [] then 10 else num,⟨#[]⟩⟩,0)):=by
 have ep:=CO pointer
 have es:=CO size
 unfold eG at h ⊢
 unfold bG
 split at h
 ·cases h
 ·rename_i h1
  rw[if_neg h1,if_neg h1]
  split at h
  ·cases h
  ·rename_i h2
   rw[if_neg h2,if_neg h2]
   have hc:aL ct=true:=by cases hc:aL ct <;> simp[hc] at h2 ⊢
   split at h
   ·cases h
   ·rename_i h3
    rw[if_neg h3,if_neg h3]
    simp only at h
    unfold gM
    split at h
    ·rename_i h4
     simp only[if_pos h4]
     cases ht:fH dZ
     ·rw[hc,ht] at h
      simp at h
     ·exact .inl ⟨trivial,by simp⟩
    ·rename_i h4
     simp only[if_neg h4]
     unfold newL gJ at h
     cases ht:fH tag
     ·rw[hc,ht] at h
      simp at h
     ·rw[hc,ht] at h
      cases hq:aW query
      ·rw[hq] at h
       simp at h
      ·by_cases hz:0<pointer.size
       ·have e1:¬(pointer.toList == [])=true:=by rw[ep,decide_eq_true hz];simp
        rw[if_neg e1,hq,decide_eq_true hz] at h
        cases hp:aW pointer
        ·rw[hp] at h
         simp at h
        ·simp only[if_neg e1]
         exact .inr (.inl ⟨trivial,by simp[hz]⟩)
       ·have e1:(pointer.toList == [])=true:=by rw[ep,decide_eq_false hz];rfl
        have hp:aW pointer=true:=by
         unfold aW kW dI
         have e:pointer=⟨#[]⟩:=by
          apply ByteArray.ext
          exact Array.eq_empty_of_size_eq_zero (by show pointer.size=0;omega)
         rw[e]
         rfl
        rw[if_pos e1,hq] at h
        simp only[if_pos e1]
        refine .inr (.inr ⟨trivial,?_⟩)
        rw[hp,if_neg (by simp),if_neg (by simp),if_neg hz]
        by_cases hs:0<size.size
        ·have e2:¬(size.toList == [])=true:=by rw[es,decide_eq_true hs];simp
         simp only[if_neg e2] at h
         simp only[if_neg e2]
         rw[if_pos hs]
         cases hn:(decide (1≤num) && decide (num≤50))
         ·rw[hn] at h
          simp at h
         ·rfl
        ·have e2:(size.toList == [])=true:=by rw[es,decide_eq_false hs];rfl
         simp only[if_pos e2]
         rw[if_neg hs]
theorem Fb {e:List UInt8→Option (List UInt8)}:∀(ps qs:List (List UInt8)) (i:Nat),qs.length=ps.length→(∀j (h:j<ps.length) (h2:j<qs.length),tF e (i+j) ps[j]=some qs[j])→iL e i ps=some qs.flatten
 | [],[],i,_,_=>rfl
 | p :: ps,q :: qs,i,hl,h=>by
  have h0:=h 0 (by simp) (by simp)
  rw[Nat.add_zero] at h0
  simp only[List.getElem_cons_zero] at h0
  have ih:=Fb (e:=e) ps qs (i+1) (by simpa using hl) (fun j h1 h2=>by
   have:=h (j+1) (by simp;omega) (by simp;omega)
   simpa [Nat.add_assoc,Nat.add_comm 1 j] using this)
  unfold iL
  rw[h0,ih]
  rfl
theorem CQ {e:List UInt8→Option (List UInt8)}:∀(ps:List (List UInt8)) (i j:Nat) (h:j<ps.length),tF e (i+j) ps[j]=none→iL e i ps=none
 | p :: ps,i,0,_,h=>by
  rw[Nat.add_zero] at h
  simp only[List.getElem_cons_zero] at h
  unfold iL
  rw[h]
 | p :: ps,i,j+1,hj,h=>by
  have ih:=CQ (e:=e) ps (i+1) j (by simpa using hj) (by
   simpa [Nat.add_assoc,Nat.add_comm 1 j] using h)
  unfold iL
  cases tF e i p with
  | none=>rfl
  | some t=>rw[ih];rfl
theorem Gq (c0 c1 c2 c3 c4 c:UInt8):(Lib.indexByte [70,83,82,69,84] c = -1∧q9 c0 c1 c2 c3 c4 [c]=none)∨∃m:Nat,m<5∧Lib.indexByte [70,83,82,69,84] c=m∧q9 c0 c1 c2 c3 c4 [c]=some [[c0,c1,c2,c3,c4].getD m 0]:=by
 unfold q9
 by_cases h1:c=70
 ·subst h1;exact .inr ⟨0,by decide,by decide,by simp⟩
 by_cases h2:c=83
 ·subst h2;exact .inr ⟨1,by decide,by decide,by simp⟩
 by_cases h3:c=82
 ·subst h3;exact .inr ⟨2,by decide,by decide,by simp⟩
 by_cases h4:c=69
 ·subst h4;exact .inr ⟨3,by decide,by decide,by simp⟩
 by_cases h5:c=84
 ·subst h5;exact .inr ⟨4,by decide,by decide,by simp⟩
 left
 refine⟨?_,by simp[h1,h2,h3,h4,h5]⟩
 rcases kJ c [70,83,82,69,84] with⟨h,_⟩|⟨i,_,hi,e,_⟩
 ·exact h
 ·exfalso
  have hc:c∈([70,83,82,69,84]:List UInt8):=by rw[e];simp
  simp only[List.mem_cons,List.not_mem_nil,or_false] at hc
  rcases hc with h|h|h|h|h
  ·exact h1 h
  ·exact h2 h
  ·exact h3 h
  ·exact h4 h
  ·exact h5 h
theorem OY (c0 c1 c2 c3 c4:UInt8) (p:List UInt8) (h:p.length≠1):q9 c0 c1 c2 c3 c4 p=none:=by
 unfold q9
 have t:∀x:UInt8,p≠[x]:=fun x e=>h (by rw[e];rfl)
 rw[if_neg (t _),if_neg (t _),if_neg (t _),if_neg (t _),if_neg (t _)]
theorem getD_at (d:ByteArray) (hd:d.size=5) (m:Nat) (h:m<5) (h2:m<d.size):[d[0],d[1],d[2],d[3],d[4]].getD m 0=d[m]'h2:=by
 match m,h with
 | 0,_=>rfl
 | 1,_=>rfl
 | 2,_=>rfl
 | 3,_=>rfl
 | 4,_=>rfl
structure Half (e:List UInt8→Option (List UInt8)) (ps qs:List (List UInt8)) (i g:Nat) (w:World):Prop where
 len:qs.length=ps.length
 cell:∀j (h:j<qs.length),w.cell? ⟨g,j,none⟩=some (.string (txt qs[j]))∧w.frozen? ⟨g,j,none⟩=false
 old:∀j (h:j<ps.length) (h2:j<qs.length),(j % 2=0∨i≤j)→qs[j]=ps[j]
 done:∀j (h:j<ps.length) (h2:j<qs.length),j % 2=1→j<i→e ps[j]=some qs[j]
 size:g<w.heap.size
theorem Half.put {e:List UInt8→Option (List UInt8)} {ps qs:List (List UInt8)} {i g:Nat} {w:World} (h:Half e ps qs i g w) (hi:i<ps.length) (ho:i % 2=1) {t:List UInt8} (ht:e ps[i]=some t) :
  Half e ps (qs.set i t) (i+2) g (w.setCell ⟨g,i,none⟩ (.string (txt t))):=by
 have hl:=h.len
 refine⟨by simpa using hl,fun j hj=>?_,fun j h1 h2 h3=>?_,fun j h1 h2 h3 h4=>?_,by rw[Deep.nblk_setCell];exact h.size⟩
 ·have hj':j<qs.length:=by simpa using hj
  obtain⟨c1,c2⟩:=h.cell j hj'
  by_cases e1:j=i
  ·subst e1
   rw[List.getElem_set_self]
   exact⟨World.cell?_setCell_same _ _ _ c1,by rw[World.frozen?_setCell];exact c2⟩
  ·rw[List.getElem_set_ne (by omega),World.cell?_setCell_other _ _ _ _ (by first|(simp;done)|(simp;omega)),World.frozen?_setCell]
   exact⟨c1,c2⟩
 ·have hj':j<qs.length:=by simpa using h2
  have hne:i≠j:=by rcases h3 with h3|h3 <;> omega
  rw[List.getElem_set_ne hne]
  exact h.old j h1 hj' (by rcases h3 with h3|h3;exact .inl h3;exact .inr (by omega))
 ·have hj':j<qs.length:=by simpa using h2
  by_cases e1:j=i
  ·subst e1;rw[List.getElem_set_self];exact ht
  ·rw[List.getElem_set_ne (by omega)]
   exact h.done j h1 hj' h3 (by omega)
theorem OZ (xs:List (List UInt8)):Lib.join xs []=xs.flatten:=by
 cases xs with
 | nil=>rfl
 | cons x r =>
  rw[Lib.join_cons]
  unfold Lib.joinTail
  have:(r.map (([]:List UInt8)++·))=r:=by simp
  rw[this]
  rfl
theorem CS (B:Nat):∀xs:List (List UInt8),(∀x∈xs,x.length≤B)→xs.flatten.length≤xs.length * B
 | [],_=>by simp
 | x :: xs,h=>by
  have h1:=h x (by simp)
  have h2:=CS B xs (fun y hy=>h y (by simp[hy]))
  rw[List.flatten_cons,List.length_append,List.length_cons,Nat.add_mul]
  omega
set_option maxRecDepth 100000 in
set_option maxHeartbeats 4000000 in
theorem Jw (s d:ByteArray) (w:World) (hs:s.size≤40000) (hd:d.size=5) (hm:Mx w) :
  Calls Tryz.prog 90 #[.string s,.string d] w fun e w'=>e=.returned (.tuple #[.string (txt ((kQ d[0] d[1] d[2] d[3] d[4] s.data.toList).getD [])),.bool (kQ d[0] d[1] d[2] d[3] d[4] s.data.toList).isSome])∧Below w.heap.size w w':=by
 have hd3:(3:Int)<(d.size:Int):=by omega
 have hpos:=jC d[3] s.data.toList
 have hlen:(bI d[3] s.data.toList).length≤40001:=by have:=lX d[3] s.data.toList;simp at this;omega
 have nC:Hid (∀p∈bI d[3] s.data.toList,p.length≤40000):=fun p hp=>by have:=jQ d[3] s.data.toList p hp;simp at this;omega
 have HP:Hid (kQ d[0] d[1] d[2] d[3] d[4] s.data.toList=if (bI d[3] s.data.toList).length % 2=0 then none else iL (q9 d[0] d[1] d[2] d[3] d[4]) 0 (bI d[3] s.data.toList)):=rfl
 obtain⟨ps,hps⟩:∃ps,bI d[3] s.data.toList=ps:=⟨_,rfl⟩
 have AJ:=hide hps
 rw[hps] at hpos hlen nC HP
 clear hps
 have HM:=hide hm
 go_enter Tryz.func90,Tryz.ntmps90
 go_wp2_with fail
 refine(lG s d[3] _ (by omega) hm).mono ?_
 rintro e Wb ⟨u,rfl,hu,hb1⟩
 rw[AJ.out] at hu
 obtain⟨g,cap,rfl,hg,hgl,hcap,hcm,hcell⟩:=lu hu hpos
 have HC:=hide hcell
 have HB1:=hide hb1
 have Uj:=hide (hm.kept hb1)
 clear hu hcell hb1 hm
 by_cases hev:ps.length % 2=0
 ·have abX:((ps.length:Int) % 2 == 0)=true:=by rw[beq_iff_eq];omega
  have HX:Hid (kQ d[0] d[1] d[2] d[3] d[4] s.data.toList=none):=by rw[HP.out,if_pos hev];trivial
  clear hev
  go_wp2_with fail
  go_ret2
  exact⟨Bj HX.out,HB1.out⟩
 ·have abX:((ps.length:Int) % 2 == 0)=false:=by rw[beq_eq_false_iff_ne];omega
  have HX:Hid (kQ d[0] d[1] d[2] d[3] d[4] s.data.toList=iL (q9 d[0] d[1] d[2] d[3] d[4]) 0 ps):=by rw[HP.out,if_neg hev];trivial
  have ag0:=hide hev
  clear hev
  go_wp2_with fail
  clear abX
  go_loopg [7] ps.length (fun n i wr=>∃(k:Nat) (qs:List (List UInt8)),k≤ps.length+1∧n=ps.length+1 - k∧k % 2=1∧i=.int .i64 k∧Half (q9 d[0] d[1] d[2] d[3] d[4]) ps qs k g wr∧(∀q∈qs,q.length≤40000)∧Below w.heap.size w wr)
  case atStart=>exact⟨1,ps,by omega,by omega,rfl,rfl,⟨rfl,HC.out,fun _ _ _ _=>rfl,fun j _ _ h1 h2=>absurd h2 (by omega),hgl⟩,nC.out,HB1.out⟩
  case round =>
   obtain⟨k,qs,hk,rfl,hko,rfl,hH,hqz,hb⟩:=hrel
   obtain⟨W1,rfl⟩:∃x,x=wr:=⟨_,rfl⟩
   have HH:=hide hH
   have HQ:=hide hqz
   have HB:=hide hb
   have HKO:=hide hko
   have hp0:1<w.heap.size:=HM.out.pos
   have Yn:=hide (HM.out.kept hb)
   clear hH hqz hb hko
   by_cases hlt:k<ps.length
   ·have hl:=HH.out.len
    have HLQ:=hide hl
    have hkq:k<qs.length:=by omega
    clear hl
    have hc1:=(HH.out.cell k hkq).1
    have hf1:=(HH.out.cell k hkq).2
    have hqk:qs[k]=ps[k]:=HH.out.old k hlt hkq (.inr (aS _))
    rw[hqk] at hc1
    have hpz:=nC.out ps[k] (List.getElem_mem hlt)
    have Ui:=hide (dn ps[k])
    have hki:(k:Int)<(ps.length:Int):=by omega
    have ag1:=HH.out.size
    have Ux:Hid (q9 d[0] d[1] d[2] d[3] d[4] ps[k]=none→kQ d[0] d[1] d[2] d[3] d[4] s.data.toList=none):=fun h=>by
     rw[HX.out]
     refine CQ ps 0 k hlt ?_
     rw[Nat.zero_add]
     unfold tF
     rw[if_neg (by have:=HKO.out;omega)]
     exact h
    obtain⟨m1,hm1⟩:=Yn.out
    by_cases hp1:ps[k].length=1
    ·obtain⟨c,hc⟩:∃c,ps[k]=[c]:=List.length_eq_one_iff.1 hp1
     have hsz1:((txt ps[k]).size:Int)=1:=by rw[dn,hp1];rfl
     have abY:(((txt ps[k]).size:Int) != 1)=false:=by rw[hsz1];rfl
     have HIX:Hid (Lib.index ({ data:=#[70,83,82,69,84] }:ByteArray).data.toList (txt ps[k]).data.toList=Lib.indexByte [70,83,82,69,84] c):=by
      rw[eU,hc,Lib.index_one];trivial
     rcases Gq d[0] d[1] d[2] d[3] d[4] c with⟨hx,he⟩|⟨m,hm5,hx,he⟩
     ·have P7:=hide (Ux.out (by rw[hc];exact he))
      have HI2:Hid (Lib.index ({ data:=#[70,83,82,69,84] }:ByteArray).data.toList (txt ps[k]).data.toList = -1):=by rw[HIX.out];exact hx
      clear hx he hc hp1 hqk hsz1
      go_wp2_with fail
      refine(Tryz.strings_Index _ _ m1 _ (by decide) hm1).mono ?_
      rintro e w2 ⟨rfl,rfl⟩
      rw[HI2.out]
      go_wp2_with fail
      go_ret2
      exact⟨Bj P7.out,HB.out⟩
     ·have HI2:Hid (Lib.index ({ data:=#[70,83,82,69,84] }:ByteArray).data.toList (txt ps[k]).data.toList=m):=by rw[HIX.out];exact hx
      have hmd:m<d.size:=by rw[hd];exact hm5
      have HT:Hid (q9 d[0] d[1] d[2] d[3] d[4] ps[k]=some [d[m]'hmd]):=by rw[hc,he,getD_at d hd m hm5 hmd];trivial
      have ZH:=hide (HH.out.put hlt HKO.out HT.out)
      have HEX:=hide (UQ d m hmd)
      have hmi:(0:Int)≤(m:Int):=by omega
      have ag2:¬(m:Int)<0:=by omega
      have ag3:(m:Int)+1≤(d.size:Int):=by omega
      have ag4:(m:Int)≤(m:Int)+1:=by omega
      have ag5:(m:Int)+1≤5:=by omega
      have ag6:(m:Int)<5:=by omega
      have ag7:(0:Int)≤(m:Int)+1:=by omega
      have ag8:((m:Int)+1).toNat=m+1:=by omega
      have ag9:(m:Int)<(d.size:Int):=by omega
      have aha:m+1≤5:=by omega
      have ahb:m+1≤d.size:=by omega
      have Wm:Hid (∀q∈qs.set k [d[m]'hmd],q.length≤40000):=fun q hq=>by
       rcases List.mem_or_eq_of_mem_set hq with h|h
       ·exact HQ.out q h
       ·rw[h];simp
      have HBS:Hid (Below w.heap.size w (W1.setCell ⟨g,k,none⟩ (.string (d.extract m (m+1))))):=HB.out.setCell (by exact hg) _
      clear hx he hc hp1 hqk hsz1
      go_wp2_with fail
      refine(Tryz.strings_Index _ _ m1 _ (by decide) hm1).mono ?_
      rintro e w2 ⟨rfl,rfl⟩
      rw[HI2.out]
      go_wp2_with fail
      go_roundg (ps.length+1 - (k+2))
      case measure=>omega
      case rel=>exact⟨k+2,qs.set k [d[m]'hmd],by omega,rfl,by have:=HKO.out;omega,by go_num,by rw[HEX.out];exact ZH.out,Wm.out,HBS.out⟩
    ·have P7:=hide (Ux.out (OY _ _ _ _ _ _ hp1))
     have hsz1:¬((txt ps[k]).size:Int)=1:=by have:=Ui.out;omega
     have abY:(((txt ps[k]).size:Int) != 1)=true:=by rw[bne_iff_ne];exact hsz1
     clear hp1 hqk
     go_wp2_with fail
     refine(Tryz.strings_Index _ _ m1 _ (by decide) hm1).mono ?_
     rintro e w2 ⟨rfl,rfl⟩
     generalize Lib.index ({ data:=#[70,83,82,69,84] }:ByteArray).data.toList (txt ps[k]).data.toList=z at *
     go_wp2_with fail
     go_ret2
     exact⟨Bj P7.out,HB.out⟩
   ·have HLQ:=hide HH.out.len
    have hqp:qs.length=ps.length:=HH.out.len
    have jG:Hid (kQ d[0] d[1] d[2] d[3] d[4] s.data.toList=some qs.flatten):=by
     rw[HX.out]
     refine Fb ps qs 0 hqp fun j h1 h2=>?_
     rw[Nat.zero_add]
     unfold tF
     by_cases hj:j % 2=0
     ·rw[if_pos hj,HH.out.old j h1 h2 (.inl hj)]
     ·rw[if_neg hj]
      exact HH.out.done j h1 h2 (by omega) (by omega)
    have hbd:=CS 40000 qs HQ.out
    have HJ:Hid (Lib.join ((qs.map txt).map (·.data.toList)) (⟨#[]⟩:ByteArray).data.toList=qs.flatten):=by
     have h1:(qs.map txt).map (·.data.toList)=qs:=by
      rw[List.map_map]
      conv=>rhs;rw[←List.map_id qs]
      exact List.map_congr_left fun x _=>eU x
     rw[h1];exact OZ qs
    have XH:(qs.map txt).length=ps.length:=by rw[List.length_map];exact hqp
    have CU:Hid (Calls Tryz.prog 122 #[.slice (some ⟨g,0,none⟩) ps.length cap,.string ⟨#[]⟩] W1 fun e w'=>e=.returned (.string (txt qs.flatten))∧Below W1.heap.size W1 w'):=by
     have h:=Tryz.strings_Join g 0 cap (qs.map txt) ⟨#[]⟩ W1 (fun j x hx=>by
      rw[List.getElem?_map] at hx
      have hj:j<qs.length:=by
       by_cases h:j<qs.length
       ·exact h
       ·rw[List.getElem?_eq_none (by omega)] at hx;cases hx
      rw[List.getElem?_eq_getElem hj] at hx
      injection hx with hx
      rw[Nat.zero_add,←hx]
      exact(HH.out.cell j hj).1) HH.out.size (by omega) (by omega) (by rw[HJ.out];have:qs.length * 40000≤40001 * 40000:=Nat.mul_le_mul_right _ (by omega);omega)
     rw[XH,HJ.out] at h
     exact h
    clear hbd XH hqp
    go_wp2_with fail
    refine CU.out.mono ?_
    rintro e w2 ⟨rfl,hb2⟩
    go_wp2_with fail
    go_ret2
    exact⟨Qo jG.out,aJ hb2 HB.out⟩
end Go.Proofs.YtfdihjnlgdiioaaGreatDoor.dB
