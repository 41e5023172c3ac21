import Derived.Test.YtfdihjnlgdiioaaGreatDoorG41
namespace Go.Proofs.YtfdihjnlgdiioaaGreatDoor.dB
open Go.ChangeShapes Go.WideShapes Go.ChangeAt Go.RowKit
set_option linter.unusedVariables false
set_option linter.unusedSimpArgs false
def jU (w1 X:World) (M:Nat) (ps:List QS):Prop:=∃a c,aU X M 28 #[.slice a ps.length c]∧Below w1.heap.size w1 X∧w1.heap.size≤M∧nK w1.heap.size M X (.slice a ps.length c) ps
theorem jU.below {w1 X:World} {M:Nat} {ps:List QS} (h:jU w1 X M ps):Below w1.heap.size w1 X:=let ⟨_,_,_,hb,_⟩:=h;hb
theorem jU.low {w1 X:World} {M:Nat} {ps:List QS} (h:jU w1 X M ps):w1.heap.size≤M:=let ⟨_,_,_,_,hm,_⟩:=h;hm
def lQ (w:World) (xs:List Seg) (e:Ending) (w':World):Prop:=∃u,e=.returned (.agg #[u])∧aX w.heap.size w' u xs∧Below w.heap.size w w'
theorem vG {W:World} {M:Nat} {t:TypeId} {cs:Array Value} {G:Prop} (h:aU W M t cs) (k:∀m,m=M→aU W m t cs→G):G:=k M rfl h
theorem named {G:Prop} (w:World) (k:∀x,w=x→G):G:=k w rfl
theorem aU.newS (w:World) (o:Obj) (t:TypeId) (cs:Array Value):aU ((w.alloc o).alloc (.cells cs t)) (w.heap.size+1) t cs:=by
 have:=aU.new (w.alloc o) t cs
 rw[Deep.nblk_alloc] at this
 exact this
theorem J6 {w1 V X:World} {M B:Nat} {control tag:ByteArray} {a2 a5 a8:Option Addr} {c2 c5 c8:Nat} {b1 b2 b3:List Nat} (hVX:Below V.heap.size V X) (hV:w1.heap.size≤V.heap.size) (hB:V.heap.size≤B) (VI:B≠M)
  (dP:aU X B 54 #[.string ⟨#[77,83,72]⟩,.slice a2 (aI [⟨#[82,83,80]⟩,⟨#[90,48,49]⟩] ⟨#[]⟩).length c2,.string ⟨#[77,83,65]⟩,.slice a5 (ay List.isEmpty [ah ⟨#[65,65]⟩,ah control]).length c5,.string ⟨#[81,65,75]⟩,.slice a8 (ay List.isEmpty [ah tag,ah ⟨#[79,75]⟩]).length c8])
  (h1:aN V (.slice a2 (aI [⟨#[82,83,80]⟩,⟨#[90,48,49]⟩] ⟨#[]⟩).length c2) (aI [⟨#[82,83,80]⟩,⟨#[90,48,49]⟩] ⟨#[]⟩) b1) (h2:aN V (.slice a5 (ay List.isEmpty [ah ⟨#[65,65]⟩,ah control]).length c5) (ay List.isEmpty [ah ⟨#[65,65]⟩,ah control]) b2) (h3:aN V (.slice a8 (ay List.isEmpty [ah tag,ah ⟨#[79,75]⟩]).length c8) (ay List.isEmpty [ah tag,ah ⟨#[79,75]⟩]) b3) (hne:∀b,b∈b1∨b∈b2∨b∈b3→w1.heap.size≤b∧b≠M) :
  nK w1.heap.size M X (.slice (some ⟨B,0,none⟩) 3 3) [(mD,a2,c2),(mF ⟨#[65,65]⟩ control,a5,c5),(nV tag ⟨#[79,75]⟩,a8,c8)]:=by
 refine nK.three (by omega) VI dP ⟨(by decide:(3:Nat)≤9223372036854775807),(by decide:(3:Nat)≤9223372036854775807),(by decide:(3:Nat)≤9223372036854775807)⟩ (kZ h1 hVX) (kZ h2 hVX) (kZ h3 hVX) (fun b hb=>?_) (fun b hb=>?_) (fun b hb=>?_)
 ·have:=bS.lt dD h1 b hb;exact⟨(hne b (.inl hb)).1,(hne b (.inl hb)).2,by omega⟩
 ·have:=bS.lt dD h2 b hb;exact⟨(hne b (.inr (.inl hb))).1,(hne b (.inr (.inl hb))).2,by omega⟩
 ·have:=bS.lt dD h3 b hb;exact⟨(hne b (.inr (.inr hb))).1,(hne b (.inr (.inr hb))).2,by omega⟩
theorem DN {w1 V:World} {M:Nat} {control tag:ByteArray} {a2 a5 a8:Option Addr} {c2 c5 c8:Nat} {b1 b2 b3:List Nat} {x:Value} (hbx:aU V M 28 #[x]) (hV:Below w1.heap.size w1 V) (hM:w1.heap.size≤M)
  (h1:aN V (.slice a2 (aI [⟨#[82,83,80]⟩,⟨#[90,48,49]⟩] ⟨#[]⟩).length c2) (aI [⟨#[82,83,80]⟩,⟨#[90,48,49]⟩] ⟨#[]⟩) b1) (h2:aN V (.slice a5 (ay List.isEmpty [ah ⟨#[65,65]⟩,ah control]).length c5) (ay List.isEmpty [ah ⟨#[65,65]⟩,ah control]) b2) (h3:aN V (.slice a8 (ay List.isEmpty [ah tag,ah ⟨#[79,75]⟩]).length c8) (ay List.isEmpty [ah tag,ah ⟨#[79,75]⟩]) b3) (hne:∀b,b∈b1∨b∈b2∨b∈b3→w1.heap.size≤b∧b≠M) :
  jU w1 ((V.alloc (Obj.cells #[.string ⟨#[77,83,72]⟩,.slice a2 (aI [⟨#[82,83,80]⟩,⟨#[90,48,49]⟩] ⟨#[]⟩).length c2,.string ⟨#[77,83,65]⟩,.slice a5 (ay List.isEmpty [ah ⟨#[65,65]⟩,ah control]).length c5,.string ⟨#[81,65,75]⟩,.slice a8 (ay List.isEmpty [ah tag,ah ⟨#[79,75]⟩]).length c8] 54)).setCell ⟨M,0,none⟩ (.slice (some ⟨V.heap.size,0,none⟩) 3 3)) M [(mD,a2,c2),(mF ⟨#[65,65]⟩ control,a5,c5),(nV tag ⟨#[79,75]⟩,a8,c8)]:=by
 have hb:Below V.heap.size V (V.alloc (Obj.cells #[.string ⟨#[77,83,72]⟩,.slice a2 (aI [⟨#[82,83,80]⟩,⟨#[90,48,49]⟩] ⟨#[]⟩).length c2,.string ⟨#[77,83,65]⟩,.slice a5 (ay List.isEmpty [ah ⟨#[65,65]⟩,ah control]).length c5,.string ⟨#[81,65,75]⟩,.slice a8 (ay List.isEmpty [ah tag,ah ⟨#[79,75]⟩]).length c8] 54)):=aO _ _
 refine⟨some ⟨V.heap.size,0,none⟩,3,?_,((aj hb hV).setCell (p:=⟨M,0,none⟩) hM _),hM,?_⟩
 ·have:=(hbx.alloc (Obj.cells #[.string ⟨#[77,83,72]⟩,.slice a2 (aI [⟨#[82,83,80]⟩,⟨#[90,48,49]⟩] ⟨#[]⟩).length c2,.string ⟨#[77,83,65]⟩,.slice a5 (ay List.isEmpty [ah ⟨#[65,65]⟩,ah control]).length c5,.string ⟨#[81,65,75]⟩,.slice a8 (ay List.isEmpty [ah tag,ah ⟨#[79,75]⟩]).length c8] 54)).set 0 (.slice (some ⟨V.heap.size,0,none⟩) 3 3)
  simpa using this
 ·exact(J6 hb hV.size (aS _) (by have:=hbx.lt;omega) (aU.new _ _ _) h1 h2 h3 hne).set _
theorem TN {w1 V:World} {control tag:ByteArray} {a2 a5 a8:Option Addr} {c2 c5 c8:Nat} {b1 b2 b3:List Nat} {x:Value} (hV:Below w1.heap.size w1 V)
  (h1:aN V (.slice a2 (aI [⟨#[82,83,80]⟩,⟨#[90,48,49]⟩] ⟨#[]⟩).length c2) (aI [⟨#[82,83,80]⟩,⟨#[90,48,49]⟩] ⟨#[]⟩) b1) (h2:aN V (.slice a5 (ay List.isEmpty [ah ⟨#[65,65]⟩,ah control]).length c5) (ay List.isEmpty [ah ⟨#[65,65]⟩,ah control]) b2) (h3:aN V (.slice a8 (ay List.isEmpty [ah tag,ah ⟨#[79,75]⟩]).length c8) (ay List.isEmpty [ah tag,ah ⟨#[79,75]⟩]) b3) (hne:∀b,b∈b1∨b∈b2∨b∈b3→w1.heap.size≤b) :
  jU w1 (((V.alloc (Obj.cells #[x] 28)).alloc (Obj.cells #[.string ⟨#[77,83,72]⟩,.slice a2 (aI [⟨#[82,83,80]⟩,⟨#[90,48,49]⟩] ⟨#[]⟩).length c2,.string ⟨#[77,83,65]⟩,.slice a5 (ay List.isEmpty [ah ⟨#[65,65]⟩,ah control]).length c5,.string ⟨#[81,65,75]⟩,.slice a8 (ay List.isEmpty [ah tag,ah ⟨#[79,75]⟩]).length c8] 54)).setCell ⟨V.heap.size,0,none⟩ (.slice (some ⟨V.heap.size+1,0,none⟩) 3 3)) V.heap.size [(mD,a2,c2),(mF ⟨#[65,65]⟩ control,a5,c5),(nV tag ⟨#[79,75]⟩,a8,c8)]:=by
 have hb:Below V.heap.size V (V.alloc (Obj.cells #[x] 28)):=aO _ _
 have:=DN (w1:=w1) (V:=V.alloc (Obj.cells #[x] 28)) (M:=V.heap.size) (control:=control) (tag:=tag) (c2:=c2) (c5:=c5) (c8:=c8) (aU.new _ _ _) (aj hb hV) hV.size (kZ h1 hb) (kZ h2 hb) (kZ h3 hb) (fun b hb'=>⟨hne b hb',by
  rcases hb' with h|h|h
  ·have:=bS.lt dD h1 b h;omega
  ·have:=bS.lt dD h2 b h;omega
  ·have:=bS.lt dD h3 b h;omega⟩)
 rw[Deep.nblk_alloc] at this
 exact this
theorem Px {w1 V:World} {x:Value} {control tag:ByteArray} {a2 a5 a8:Option Addr} {c2 c5 c8:Nat} {b1 b2 b3:List Nat} (hV:Below w1.heap.size w1 V)
  (h1:aN V (.slice a2 (aI [⟨#[82,83,80]⟩,⟨#[90,48,49]⟩] ⟨#[]⟩).length c2) (aI [⟨#[82,83,80]⟩,⟨#[90,48,49]⟩] ⟨#[]⟩) b1) (h2:aN V (.slice a5 (ay List.isEmpty [ah ⟨#[65,65]⟩,ah control]).length c5) (ay List.isEmpty [ah ⟨#[65,65]⟩,ah control]) b2) (h3:aN V (.slice a8 (ay List.isEmpty [ah tag,ah ⟨#[79,75]⟩]).length c8) (ay List.isEmpty [ah tag,ah ⟨#[79,75]⟩]) b3) (hne:∀b,b∈b1∨b∈b2∨b∈b3→w1.heap.size≤b) :
  jU w1 (((V.alloc (Obj.cells #[.string ⟨#[77,83,72]⟩,.slice a2 (aI [⟨#[82,83,80]⟩,⟨#[90,48,49]⟩] ⟨#[]⟩).length c2,.string ⟨#[77,83,65]⟩,.slice a5 (ay List.isEmpty [ah ⟨#[65,65]⟩,ah control]).length c5,.string ⟨#[81,65,75]⟩,.slice a8 (ay List.isEmpty [ah tag,ah ⟨#[79,75]⟩]).length c8] 54)).alloc (Obj.cells #[x] 28)).setCell ⟨V.heap.size+1,0,none⟩ (.slice (some ⟨V.heap.size,0,none⟩) 3 3)) (V.heap.size+1) [(mD,a2,c2),(mF ⟨#[65,65]⟩ control,a5,c5),(nV tag ⟨#[79,75]⟩,a8,c8)]:=by
 have hb:Below V.heap.size V (V.alloc (Obj.cells #[.string ⟨#[77,83,72]⟩,.slice a2 (aI [⟨#[82,83,80]⟩,⟨#[90,48,49]⟩] ⟨#[]⟩).length c2,.string ⟨#[77,83,65]⟩,.slice a5 (ay List.isEmpty [ah ⟨#[65,65]⟩,ah control]).length c5,.string ⟨#[81,65,75]⟩,.slice a8 (ay List.isEmpty [ah tag,ah ⟨#[79,75]⟩]).length c8] 54)):=aO _ _
 have hb2:Below V.heap.size V ((V.alloc (Obj.cells #[.string ⟨#[77,83,72]⟩,.slice a2 (aI [⟨#[82,83,80]⟩,⟨#[90,48,49]⟩] ⟨#[]⟩).length c2,.string ⟨#[77,83,65]⟩,.slice a5 (ay List.isEmpty [ah ⟨#[65,65]⟩,ah control]).length c5,.string ⟨#[81,65,75]⟩,.slice a8 (ay List.isEmpty [ah tag,ah ⟨#[79,75]⟩]).length c8] 54)).alloc (Obj.cells #[x] 28)):=hb.alloc hb.size _
 have hM:w1.heap.size≤V.heap.size+1:=by have:=hV.size;omega
 refine⟨some ⟨V.heap.size,0,none⟩,3,?_,((aj hb2 hV).setCell (p:=⟨V.heap.size+1,0,none⟩) hM _),hM,?_⟩
 ·have:=(aU.newS V (Obj.cells #[.string ⟨#[77,83,72]⟩,.slice a2 (aI [⟨#[82,83,80]⟩,⟨#[90,48,49]⟩] ⟨#[]⟩).length c2,.string ⟨#[77,83,65]⟩,.slice a5 (ay List.isEmpty [ah ⟨#[65,65]⟩,ah control]).length c5,.string ⟨#[81,65,75]⟩,.slice a8 (ay List.isEmpty [ah tag,ah ⟨#[79,75]⟩]).length c8] 54) 28 #[x]).set 0 (.slice (some ⟨V.heap.size,0,none⟩) 3 3)
  simpa using this
 ·exact(J6 hb2 hV.size (aS _) (by omega) ((aU.new _ _ _).alloc _) h1 h2 h3 (fun b hb'=>⟨hne b hb',by
   rcases hb' with h|h|h
   ·have:=bS.lt dD h1 b h;omega
   ·have:=bS.lt dD h2 b h;omega
   ·have:=bS.lt dD h3 b h;omega⟩)).set _
set_option maxRecDepth 100000 in
set_option maxHeartbeats 16000000 in
theorem Eo (control tag pointer:ByteArray) (rows:List ByteArray) (a:Option Addr) (cap:Nat) (w:World) {lo:Nat} (hc:control.size≤1048576) (ht:tag.size≤1048576) (hp:pointer.size≤1048576) (hr:rows.length≤200) (hz:∀s∈rows,s.size≤1048576) (hv:bq lo w (.slice a rows.length cap) rows) :
  Calls Tryz.prog 208 #[.agg #[.string control,.string tag,.slice a rows.length cap,.string pointer]] w (lQ w (kH control tag rows pointer)):=by
 obtain⟨x1,hx1⟩:∃x1,w.alloc (Obj.cells #[.string control,.string tag,.slice a rows.length cap,.string pointer] 120)=x1:=⟨_,rfl⟩
 obtain⟨w1,hw1⟩:∃w1,x1.alloc (Obj.cells #[.slice none 0 0] 28)=w1:=⟨_,rfl⟩
 have bN:x1.heap.size=w.heap.size+1:=by rw[←hx1];simp
 have dG:w1.heap.size=w.heap.size+1+1:=by rw[←hw1];simp[bN]
 have bx1:Below w.heap.size w x1:=by rw[←hx1];exact aO _ _
 have dV:Below x1.heap.size x1 w1:=by rw[←hw1];exact aO _ _
 have HP:Hid (aU w1 w.heap.size 120 #[.string control,.string tag,.slice a rows.length cap,.string pointer]):=by rw[←hw1,←hx1];exact(aU.new _ _ _).alloc _
 have vE:Hid (aU w1 (w.heap.size+1) 28 #[.slice none 0 0]):=by rw[←hw1,←bN];exact aU.new _ _ _
 have HB1:=hide (aJ dV bx1)
 have F4:=hide (At.kept bE hv HB1.out)
 have KP:Hid (∀X,Below w1.heap.size w1 X→X.cell? ⟨w.heap.size,0,none⟩=some (.string control)∧X.cell? ⟨w.heap.size,1,none⟩=some (.string tag)∧X.cell? ⟨w.heap.size,2,none⟩=some (.slice a rows.length cap)∧X.cell? ⟨w.heap.size,3,none⟩=some (.string pointer)):=fun X h =>
  ⟨(HP.out.below h).cell 0 (by simp),(HP.out.below h).cell 1 (by simp),(HP.out.below h).cell 2 (by simp),(HP.out.below h).cell 3 (by simp)⟩
 have KS:Hid (∀X,Below w1.heap.size w1 X→X.cell? ⟨w.heap.size,0,none⟩=some (.string control)∧X.cell? ⟨w.heap.size,1,none⟩=some (.string tag)):=fun X h=>⟨(KP.out X h).1,(KP.out X h).2.1⟩
 have HW1:Hid ((w.alloc (Obj.cells #[.string control,.string tag,.slice a rows.length cap,.string pointer] 120)).alloc (Obj.cells #[.slice none 0 0] 28)=w1):=by rw[hx1];exact hw1
 have wZ:=hide dG
 have HZ:=hide hz
 have HPM:Hid (kH control tag rows pointer=[mD,mF ⟨#[65,65]⟩ control,nV tag ⟨#[79,75]⟩]++rows.map iZ++sN pointer):=rfl
 obtain⟨Us,OO⟩:∃l,kH control tag rows pointer=l:=⟨_,rfl⟩
 rw[OO] at HPM ⊢
 clear OO
 clear hx1 hw1 bN dG bx1 dV hv hz
 go_enter Tryz.func208,Tryz.ntmps208
 go_upto_region 1 with fail
 rw[HW1.out]
 go_cut [3] (fun v3 wx=>∃M ps,v3=.pointer (some ⟨M,0,none⟩)∧jU w1 wx M ps∧ps.map Prod.fst=[mD,mF ⟨#[65,65]⟩ control,nV tag ⟨#[79,75]⟩])
 case first =>
  obtain⟨D,hDe⟩:∃D,w1.drew=D:=⟨_,rfl⟩
  have hD0:Below w1.heap.size w1 w1.drew:=(Below.refl _ _).drew
  have hD:Below w1.heap.size w1 D:=by rw[←hDe];exact hD0
  have hDs:=hD.size
  go_region_held3 (fun X:World=>X.cell? ⟨w.heap.size,0,none⟩=some (.string control)∧X.cell? ⟨w.heap.size,1,none⟩=some (.string tag))
   (exact KS.out _ (by repeat (first|with_reducible exact nX|with_reducible exact sM|with_reducible exact hD0|with_reducible exact hD|with_reducible exact kX|with_reducible exact oo|with_reducible exact mZ|with_reducible exact kG|with_reducible exact hB4|with_reducible exact hB3|with_reducible exact hB2|with_reducible exact hB1|with_reducible refine Below.mo ?_ (aS _)|with_reducible refine Below.st2 ?_ (by first|assumption|omega|(simp only[Deep.nblk_alloc,Deep.nblk_setCell];omega)))))
   (first
    | (have _g:=oo;go_at_call 86;refine(J2 ⟨#[81,65,75]⟩ _ _ (ah tag) (ah ⟨#[79,75]⟩) b6 b7 _ _ ?hx8 (uK Kk (by repeat (first|with_reducible exact Below.refl _ _|with_reducible refine Below.mo ?_ (aS _)))) (uK Y9 (by repeat (first|with_reducible exact Below.refl _ _|with_reducible refine Below.mo ?_ (aS _)))) (jw _) (jw _)).mono ?_;(case hx8=>(first|with_reducible exact aU.new _ _ _|with_reducible exact(aU.new _ _ _).alloc _|with_reducible exact aU.newS _ _ _ _|exact aU.new _ _ _|exact(aU.new _ _ _).alloc _|exact aU.newS _ _ _ _));rintro e v8 ⟨a8,c8,rfl,b8,hO8,vC,nI⟩;have L9:=nI.size;have hc8:Below v7.heap.size v7 v8:=aj nI (by repeat (first|with_reducible exact Below.refl _ _|with_reducible refine Below.mo ?_ (aS _)));have kX:Below w1.heap.size w1 v8:=aj hc8 oo;(try simp only[Deep.nblk_alloc] at L9);(try simp only[Deep.nblk_alloc] at vC);have hO2:=kZ hO2 hc8;have qF:=kZ qF hc8;have hLO:∀b,b∈b2∨b∈b5∨b∈b8→w1.heap.size≤b:=(by intro b hb;have hd:=hD.size;rcases hb with hb|hb|hb;(rcases(hf2 b hb).2 with h|h;(omega);(have:=(hf1 b h).1;omega));(rcases(vD b hb).2 with h|h|h;(omega);(have:=(hf3 b h).1;omega);(have:=(DX b h).1;omega));(rcases(vC b hb).2 with h|h|h;(omega);(have:=(Am b h).1;omega);(have:=(y7 b h).1;omega)));first
     | ((with_reducible refine vG (((((((((((aU.new _ 28 #[.slice none 0 0]).below hb1).below hb2).below hb3).below hb4).alloc _).below hb5).below hb6).below lU).alloc _).below nI) ?_);intro M hMe hbx;(try simp only[Deep.nblk_alloc] at hMe);have Kl:∀b,b∈b2∨b∈b5∨b∈b8→w1.heap.size≤b∧b≠M:=(by intro b hb;refine⟨hLO b hb,?_⟩;have hd:=hD.size;rcases hb with hb|hb|hb;(rcases(hf2 b hb).2 with h|h;(have:=(hf2 b hb).1;omega);(have:=hf1 b h;omega));(rcases(vD b hb).2 with h|h|h;(have:=(vD b hb).1;omega);(have:=hf3 b h;omega);(have:=DX b h;omega));(rcases(vC b hb).2 with h|h|h;(have:=(vC b hb).1;omega);(have:=Am b h;omega);(have:=y7 b h;omega)));have DZ:w1.heap.size≤M:=(by have hd:=hD.size;omega);refine named (v8.alloc (Obj.cells #[.string ⟨#[77,83,72]⟩,.slice a2 (aI [⟨#[82,83,80]⟩,⟨#[90,48,49]⟩] ⟨#[]⟩).length c2,.string ⟨#[77,83,65]⟩,.slice a5 (ay List.isEmpty [ah ⟨#[65,65]⟩,ah control]).length c5,.string ⟨#[81,65,75]⟩,.slice a8 (ay List.isEmpty [ah tag,ah ⟨#[79,75]⟩]).length c8] 54)) ?_;intro X9 jV;have nX:Below w1.heap.size w1 X9:=(by rw[←jV];repeat (first|with_reducible exact kX|with_reducible refine Below.mo ?_ (aS _)));have Hf:=kX.size;have z0:X9.cell? ⟨M,0,none⟩=some (.slice none 0 0):=(by rw[←jV];exact(hbx.alloc _).cell 0 (by simp));have z1:X9.frozen? ⟨M,0,none⟩=false:=(by rw[←jV];exact(hbx.alloc _).frozen 0);subst hMe)
     | ((with_reducible refine vG ((((((((((((aU.new _ 28 #[.slice none 0 0]).alloc _).below hb1).below hb2).below hb3).below hb4).alloc _).below hb5).below hb6).below lU).alloc _).below nI) ?_);intro M hMe hbx;(try simp only[Deep.nblk_alloc] at hMe);have Kl:∀b,b∈b2∨b∈b5∨b∈b8→w1.heap.size≤b∧b≠M:=(by intro b hb;refine⟨hLO b hb,?_⟩;have hd:=hD.size;rcases hb with hb|hb|hb;(rcases(hf2 b hb).2 with h|h;(have:=(hf2 b hb).1;omega);(have:=hf1 b h;omega));(rcases(vD b hb).2 with h|h|h;(have:=(vD b hb).1;omega);(have:=hf3 b h;omega);(have:=DX b h;omega));(rcases(vC b hb).2 with h|h|h;(have:=(vC b hb).1;omega);(have:=Am b h;omega);(have:=y7 b h;omega)));have DZ:w1.heap.size≤M:=(by have hd:=hD.size;omega);refine named (v8.alloc (Obj.cells #[.string ⟨#[77,83,72]⟩,.slice a2 (aI [⟨#[82,83,80]⟩,⟨#[90,48,49]⟩] ⟨#[]⟩).length c2,.string ⟨#[77,83,65]⟩,.slice a5 (ay List.isEmpty [ah ⟨#[65,65]⟩,ah control]).length c5,.string ⟨#[81,65,75]⟩,.slice a8 (ay List.isEmpty [ah tag,ah ⟨#[79,75]⟩]).length c8] 54)) ?_;intro X9 jV;have nX:Below w1.heap.size w1 X9:=(by rw[←jV];repeat (first|with_reducible exact kX|with_reducible refine Below.mo ?_ (aS _)));have Hf:=kX.size;have z0:X9.cell? ⟨M,0,none⟩=some (.slice none 0 0):=(by rw[←jV];exact(hbx.alloc _).cell 0 (by simp));have z1:X9.frozen? ⟨M,0,none⟩=false:=(by rw[←jV];exact(hbx.alloc _).frozen 0);subst hMe)
     | ((with_reducible refine vG ((((((((((aU.new _ 28 #[.slice none 0 0]).below hb2).below hb3).below hb4).alloc _).below hb5).below hb6).below lU).alloc _).below nI) ?_);intro M hMe hbx;(try simp only[Deep.nblk_alloc] at hMe);have Kl:∀b,b∈b2∨b∈b5∨b∈b8→w1.heap.size≤b∧b≠M:=(by intro b hb;refine⟨hLO b hb,?_⟩;have hd:=hD.size;rcases hb with hb|hb|hb;(rcases(hf2 b hb).2 with h|h;(have:=(hf2 b hb).1;omega);(have:=hf1 b h;omega));(rcases(vD b hb).2 with h|h|h;(have:=(vD b hb).1;omega);(have:=hf3 b h;omega);(have:=DX b h;omega));(rcases(vC b hb).2 with h|h|h;(have:=(vC b hb).1;omega);(have:=Am b h;omega);(have:=y7 b h;omega)));have DZ:w1.heap.size≤M:=(by have hd:=hD.size;omega);refine named (v8.alloc (Obj.cells #[.string ⟨#[77,83,72]⟩,.slice a2 (aI [⟨#[82,83,80]⟩,⟨#[90,48,49]⟩] ⟨#[]⟩).length c2,.string ⟨#[77,83,65]⟩,.slice a5 (ay List.isEmpty [ah ⟨#[65,65]⟩,ah control]).length c5,.string ⟨#[81,65,75]⟩,.slice a8 (ay List.isEmpty [ah tag,ah ⟨#[79,75]⟩]).length c8] 54)) ?_;intro X9 jV;have nX:Below w1.heap.size w1 X9:=(by rw[←jV];repeat (first|with_reducible exact kX|with_reducible refine Below.mo ?_ (aS _)));have Hf:=kX.size;have z0:X9.cell? ⟨M,0,none⟩=some (.slice none 0 0):=(by rw[←jV];exact(hbx.alloc _).cell 0 (by simp));have z1:X9.frozen? ⟨M,0,none⟩=false:=(by rw[←jV];exact(hbx.alloc _).frozen 0);subst hMe)
     | ((with_reducible refine vG (((((((((((aU.new _ 28 #[.slice none 0 0]).alloc _).below hb2).below hb3).below hb4).alloc _).below hb5).below hb6).below lU).alloc _).below nI) ?_);intro M hMe hbx;(try simp only[Deep.nblk_alloc] at hMe);have Kl:∀b,b∈b2∨b∈b5∨b∈b8→w1.heap.size≤b∧b≠M:=(by intro b hb;refine⟨hLO b hb,?_⟩;have hd:=hD.size;rcases hb with hb|hb|hb;(rcases(hf2 b hb).2 with h|h;(have:=(hf2 b hb).1;omega);(have:=hf1 b h;omega));(rcases(vD b hb).2 with h|h|h;(have:=(vD b hb).1;omega);(have:=hf3 b h;omega);(have:=DX b h;omega));(rcases(vC b hb).2 with h|h|h;(have:=(vC b hb).1;omega);(have:=Am b h;omega);(have:=y7 b h;omega)));have DZ:w1.heap.size≤M:=(by have hd:=hD.size;omega);refine named (v8.alloc (Obj.cells #[.string ⟨#[77,83,72]⟩,.slice a2 (aI [⟨#[82,83,80]⟩,⟨#[90,48,49]⟩] ⟨#[]⟩).length c2,.string ⟨#[77,83,65]⟩,.slice a5 (ay List.isEmpty [ah ⟨#[65,65]⟩,ah control]).length c5,.string ⟨#[81,65,75]⟩,.slice a8 (ay List.isEmpty [ah tag,ah ⟨#[79,75]⟩]).length c8] 54)) ?_;intro X9 jV;have nX:Below w1.heap.size w1 X9:=(by rw[←jV];repeat (first|with_reducible exact kX|with_reducible refine Below.mo ?_ (aS _)));have Hf:=kX.size;have z0:X9.cell? ⟨M,0,none⟩=some (.slice none 0 0):=(by rw[←jV];exact(hbx.alloc _).cell 0 (by simp));have z1:X9.frozen? ⟨M,0,none⟩=false:=(by rw[←jV];exact(hbx.alloc _).frozen 0);subst hMe)
     | ((with_reducible refine vG (((((((((aU.new _ 28 #[.slice none 0 0]).below hb3).below hb4).alloc _).below hb5).below hb6).below lU).alloc _).below nI) ?_);intro M hMe hbx;(try simp only[Deep.nblk_alloc] at hMe);have Kl:∀b,b∈b2∨b∈b5∨b∈b8→w1.heap.size≤b∧b≠M:=(by intro b hb;refine⟨hLO b hb,?_⟩;have hd:=hD.size;rcases hb with hb|hb|hb;(rcases(hf2 b hb).2 with h|h;(have:=(hf2 b hb).1;omega);(have:=hf1 b h;omega));(rcases(vD b hb).2 with h|h|h;(have:=(vD b hb).1;omega);(have:=hf3 b h;omega);(have:=DX b h;omega));(rcases(vC b hb).2 with h|h|h;(have:=(vC b hb).1;omega);(have:=Am b h;omega);(have:=y7 b h;omega)));have DZ:w1.heap.size≤M:=(by have hd:=hD.size;omega);refine named (v8.alloc (Obj.cells #[.string ⟨#[77,83,72]⟩,.slice a2 (aI [⟨#[82,83,80]⟩,⟨#[90,48,49]⟩] ⟨#[]⟩).length c2,.string ⟨#[77,83,65]⟩,.slice a5 (ay List.isEmpty [ah ⟨#[65,65]⟩,ah control]).length c5,.string ⟨#[81,65,75]⟩,.slice a8 (ay List.isEmpty [ah tag,ah ⟨#[79,75]⟩]).length c8] 54)) ?_;intro X9 jV;have nX:Below w1.heap.size w1 X9:=(by rw[←jV];repeat (first|with_reducible exact kX|with_reducible refine Below.mo ?_ (aS _)));have Hf:=kX.size;have z0:X9.cell? ⟨M,0,none⟩=some (.slice none 0 0):=(by rw[←jV];exact(hbx.alloc _).cell 0 (by simp));have z1:X9.frozen? ⟨M,0,none⟩=false:=(by rw[←jV];exact(hbx.alloc _).frozen 0);subst hMe)
     | ((with_reducible refine vG ((((((((((aU.new _ 28 #[.slice none 0 0]).alloc _).below hb3).below hb4).alloc _).below hb5).below hb6).below lU).alloc _).below nI) ?_);intro M hMe hbx;(try simp only[Deep.nblk_alloc] at hMe);have Kl:∀b,b∈b2∨b∈b5∨b∈b8→w1.heap.size≤b∧b≠M:=(by intro b hb;refine⟨hLO b hb,?_⟩;have hd:=hD.size;rcases hb with hb|hb|hb;(rcases(hf2 b hb).2 with h|h;(have:=(hf2 b hb).1;omega);(have:=hf1 b h;omega));(rcases(vD b hb).2 with h|h|h;(have:=(vD b hb).1;omega);(have:=hf3 b h;omega);(have:=DX b h;omega));(rcases(vC b hb).2 with h|h|h;(have:=(vC b hb).1;omega);(have:=Am b h;omega);(have:=y7 b h;omega)));have DZ:w1.heap.size≤M:=(by have hd:=hD.size;omega);refine named (v8.alloc (Obj.cells #[.string ⟨#[77,83,72]⟩,.slice a2 (aI [⟨#[82,83,80]⟩,⟨#[90,48,49]⟩] ⟨#[]⟩).length c2,.string ⟨#[77,83,65]⟩,.slice a5 (ay List.isEmpty [ah ⟨#[65,65]⟩,ah control]).length c5,.string ⟨#[81,65,75]⟩,.slice a8 (ay List.isEmpty [ah tag,ah ⟨#[79,75]⟩]).length c8] 54)) ?_;intro X9 jV;have nX:Below w1.heap.size w1 X9:=(by rw[←jV];repeat (first|with_reducible exact kX|with_reducible refine Below.mo ?_ (aS _)));have Hf:=kX.size;have z0:X9.cell? ⟨M,0,none⟩=some (.slice none 0 0):=(by rw[←jV];exact(hbx.alloc _).cell 0 (by simp));have z1:X9.frozen? ⟨M,0,none⟩=false:=(by rw[←jV];exact(hbx.alloc _).frozen 0);subst hMe)
     | ((with_reducible refine vG ((((((((aU.new _ 28 #[.slice none 0 0]).below hb4).alloc _).below hb5).below hb6).below lU).alloc _).below nI) ?_);intro M hMe hbx;(try simp only[Deep.nblk_alloc] at hMe);have Kl:∀b,b∈b2∨b∈b5∨b∈b8→w1.heap.size≤b∧b≠M:=(by intro b hb;refine⟨hLO b hb,?_⟩;have hd:=hD.size;rcases hb with hb|hb|hb;(rcases(hf2 b hb).2 with h|h;(have:=(hf2 b hb).1;omega);(have:=hf1 b h;omega));(rcases(vD b hb).2 with h|h|h;(have:=(vD b hb).1;omega);(have:=hf3 b h;omega);(have:=DX b h;omega));(rcases(vC b hb).2 with h|h|h;(have:=(vC b hb).1;omega);(have:=Am b h;omega);(have:=y7 b h;omega)));have DZ:w1.heap.size≤M:=(by have hd:=hD.size;omega);refine named (v8.alloc (Obj.cells #[.string ⟨#[77,83,72]⟩,.slice a2 (aI [⟨#[82,83,80]⟩,⟨#[90,48,49]⟩] ⟨#[]⟩).length c2,.string ⟨#[77,83,65]⟩,.slice a5 (ay List.isEmpty [ah ⟨#[65,65]⟩,ah control]).length c5,.string ⟨#[81,65,75]⟩,.slice a8 (ay List.isEmpty [ah tag,ah ⟨#[79,75]⟩]).length c8] 54)) ?_;intro X9 jV;have nX:Below w1.heap.size w1 X9:=(by rw[←jV];repeat (first|with_reducible exact kX|with_reducible refine Below.mo ?_ (aS _)));have Hf:=kX.size;have z0:X9.cell? ⟨M,0,none⟩=some (.slice none 0 0):=(by rw[←jV];exact(hbx.alloc _).cell 0 (by simp));have z1:X9.frozen? ⟨M,0,none⟩=false:=(by rw[←jV];exact(hbx.alloc _).frozen 0);subst hMe)
     | ((with_reducible refine vG (((((((((aU.new _ 28 #[.slice none 0 0]).alloc _).below hb4).alloc _).below hb5).below hb6).below lU).alloc _).below nI) ?_);intro M hMe hbx;(try simp only[Deep.nblk_alloc] at hMe);have Kl:∀b,b∈b2∨b∈b5∨b∈b8→w1.heap.size≤b∧b≠M:=(by intro b hb;refine⟨hLO b hb,?_⟩;have hd:=hD.size;rcases hb with hb|hb|hb;(rcases(hf2 b hb).2 with h|h;(have:=(hf2 b hb).1;omega);(have:=hf1 b h;omega));(rcases(vD b hb).2 with h|h|h;(have:=(vD b hb).1;omega);(have:=hf3 b h;omega);(have:=DX b h;omega));(rcases(vC b hb).2 with h|h|h;(have:=(vC b hb).1;omega);(have:=Am b h;omega);(have:=y7 b h;omega)));have DZ:w1.heap.size≤M:=(by have hd:=hD.size;omega);refine named (v8.alloc (Obj.cells #[.string ⟨#[77,83,72]⟩,.slice a2 (aI [⟨#[82,83,80]⟩,⟨#[90,48,49]⟩] ⟨#[]⟩).length c2,.string ⟨#[77,83,65]⟩,.slice a5 (ay List.isEmpty [ah ⟨#[65,65]⟩,ah control]).length c5,.string ⟨#[81,65,75]⟩,.slice a8 (ay List.isEmpty [ah tag,ah ⟨#[79,75]⟩]).length c8] 54)) ?_;intro X9 jV;have nX:Below w1.heap.size w1 X9:=(by rw[←jV];repeat (first|with_reducible exact kX|with_reducible refine Below.mo ?_ (aS _)));have Hf:=kX.size;have z0:X9.cell? ⟨M,0,none⟩=some (.slice none 0 0):=(by rw[←jV];exact(hbx.alloc _).cell 0 (by simp));have z1:X9.frozen? ⟨M,0,none⟩=false:=(by rw[←jV];exact(hbx.alloc _).frozen 0);subst hMe)
     | ((with_reducible refine vG ((((((aU.new _ 28 #[.slice none 0 0]).below hb5).below hb6).below lU).alloc _).below nI) ?_);intro M hMe hbx;(try simp only[Deep.nblk_alloc] at hMe);have Kl:∀b,b∈b2∨b∈b5∨b∈b8→w1.heap.size≤b∧b≠M:=(by intro b hb;refine⟨hLO b hb,?_⟩;have hd:=hD.size;rcases hb with hb|hb|hb;(rcases(hf2 b hb).2 with h|h;(have:=(hf2 b hb).1;omega);(have:=hf1 b h;omega));(rcases(vD b hb).2 with h|h|h;(have:=(vD b hb).1;omega);(have:=hf3 b h;omega);(have:=DX b h;omega));(rcases(vC b hb).2 with h|h|h;(have:=(vC b hb).1;omega);(have:=Am b h;omega);(have:=y7 b h;omega)));have DZ:w1.heap.size≤M:=(by have hd:=hD.size;omega);refine named (v8.alloc (Obj.cells #[.string ⟨#[77,83,72]⟩,.slice a2 (aI [⟨#[82,83,80]⟩,⟨#[90,48,49]⟩] ⟨#[]⟩).length c2,.string ⟨#[77,83,65]⟩,.slice a5 (ay List.isEmpty [ah ⟨#[65,65]⟩,ah control]).length c5,.string ⟨#[81,65,75]⟩,.slice a8 (ay List.isEmpty [ah tag,ah ⟨#[79,75]⟩]).length c8] 54)) ?_;intro X9 jV;have nX:Below w1.heap.size w1 X9:=(by rw[←jV];repeat (first|with_reducible exact kX|with_reducible refine Below.mo ?_ (aS _)));have Hf:=kX.size;have z0:X9.cell? ⟨M,0,none⟩=some (.slice none 0 0):=(by rw[←jV];exact(hbx.alloc _).cell 0 (by simp));have z1:X9.frozen? ⟨M,0,none⟩=false:=(by rw[←jV];exact(hbx.alloc _).frozen 0);subst hMe)
     | ((with_reducible refine vG (((((((aU.new _ 28 #[.slice none 0 0]).alloc _).below hb5).below hb6).below lU).alloc _).below nI) ?_);intro M hMe hbx;(try simp only[Deep.nblk_alloc] at hMe);have Kl:∀b,b∈b2∨b∈b5∨b∈b8→w1.heap.size≤b∧b≠M:=(by intro b hb;refine⟨hLO b hb,?_⟩;have hd:=hD.size;rcases hb with hb|hb|hb;(rcases(hf2 b hb).2 with h|h;(have:=(hf2 b hb).1;omega);(have:=hf1 b h;omega));(rcases(vD b hb).2 with h|h|h;(have:=(vD b hb).1;omega);(have:=hf3 b h;omega);(have:=DX b h;omega));(rcases(vC b hb).2 with h|h|h;(have:=(vC b hb).1;omega);(have:=Am b h;omega);(have:=y7 b h;omega)));have DZ:w1.heap.size≤M:=(by have hd:=hD.size;omega);refine named (v8.alloc (Obj.cells #[.string ⟨#[77,83,72]⟩,.slice a2 (aI [⟨#[82,83,80]⟩,⟨#[90,48,49]⟩] ⟨#[]⟩).length c2,.string ⟨#[77,83,65]⟩,.slice a5 (ay List.isEmpty [ah ⟨#[65,65]⟩,ah control]).length c5,.string ⟨#[81,65,75]⟩,.slice a8 (ay List.isEmpty [ah tag,ah ⟨#[79,75]⟩]).length c8] 54)) ?_;intro X9 jV;have nX:Below w1.heap.size w1 X9:=(by rw[←jV];repeat (first|with_reducible exact kX|with_reducible refine Below.mo ?_ (aS _)));have Hf:=kX.size;have z0:X9.cell? ⟨M,0,none⟩=some (.slice none 0 0):=(by rw[←jV];exact(hbx.alloc _).cell 0 (by simp));have z1:X9.frozen? ⟨M,0,none⟩=false:=(by rw[←jV];exact(hbx.alloc _).frozen 0);subst hMe)
     | ((with_reducible refine vG (((((aU.new _ 28 #[.slice none 0 0]).below hb6).below lU).alloc _).below nI) ?_);intro M hMe hbx;(try simp only[Deep.nblk_alloc] at hMe);have Kl:∀b,b∈b2∨b∈b5∨b∈b8→w1.heap.size≤b∧b≠M:=(by intro b hb;refine⟨hLO b hb,?_⟩;have hd:=hD.size;rcases hb with hb|hb|hb;(rcases(hf2 b hb).2 with h|h;(have:=(hf2 b hb).1;omega);(have:=hf1 b h;omega));(rcases(vD b hb).2 with h|h|h;(have:=(vD b hb).1;omega);(have:=hf3 b h;omega);(have:=DX b h;omega));(rcases(vC b hb).2 with h|h|h;(have:=(vC b hb).1;omega);(have:=Am b h;omega);(have:=y7 b h;omega)));have DZ:w1.heap.size≤M:=(by have hd:=hD.size;omega);refine named (v8.alloc (Obj.cells #[.string ⟨#[77,83,72]⟩,.slice a2 (aI [⟨#[82,83,80]⟩,⟨#[90,48,49]⟩] ⟨#[]⟩).length c2,.string ⟨#[77,83,65]⟩,.slice a5 (ay List.isEmpty [ah ⟨#[65,65]⟩,ah control]).length c5,.string ⟨#[81,65,75]⟩,.slice a8 (ay List.isEmpty [ah tag,ah ⟨#[79,75]⟩]).length c8] 54)) ?_;intro X9 jV;have nX:Below w1.heap.size w1 X9:=(by rw[←jV];repeat (first|with_reducible exact kX|with_reducible refine Below.mo ?_ (aS _)));have Hf:=kX.size;have z0:X9.cell? ⟨M,0,none⟩=some (.slice none 0 0):=(by rw[←jV];exact(hbx.alloc _).cell 0 (by simp));have z1:X9.frozen? ⟨M,0,none⟩=false:=(by rw[←jV];exact(hbx.alloc _).frozen 0);subst hMe)
     | ((with_reducible refine vG ((((((aU.new _ 28 #[.slice none 0 0]).alloc _).below hb6).below lU).alloc _).below nI) ?_);intro M hMe hbx;(try simp only[Deep.nblk_alloc] at hMe);have Kl:∀b,b∈b2∨b∈b5∨b∈b8→w1.heap.size≤b∧b≠M:=(by intro b hb;refine⟨hLO b hb,?_⟩;have hd:=hD.size;rcases hb with hb|hb|hb;(rcases(hf2 b hb).2 with h|h;(have:=(hf2 b hb).1;omega);(have:=hf1 b h;omega));(rcases(vD b hb).2 with h|h|h;(have:=(vD b hb).1;omega);(have:=hf3 b h;omega);(have:=DX b h;omega));(rcases(vC b hb).2 with h|h|h;(have:=(vC b hb).1;omega);(have:=Am b h;omega);(have:=y7 b h;omega)));have DZ:w1.heap.size≤M:=(by have hd:=hD.size;omega);refine named (v8.alloc (Obj.cells #[.string ⟨#[77,83,72]⟩,.slice a2 (aI [⟨#[82,83,80]⟩,⟨#[90,48,49]⟩] ⟨#[]⟩).length c2,.string ⟨#[77,83,65]⟩,.slice a5 (ay List.isEmpty [ah ⟨#[65,65]⟩,ah control]).length c5,.string ⟨#[81,65,75]⟩,.slice a8 (ay List.isEmpty [ah tag,ah ⟨#[79,75]⟩]).length c8] 54)) ?_;intro X9 jV;have nX:Below w1.heap.size w1 X9:=(by rw[←jV];repeat (first|with_reducible exact kX|with_reducible refine Below.mo ?_ (aS _)));have Hf:=kX.size;have z0:X9.cell? ⟨M,0,none⟩=some (.slice none 0 0):=(by rw[←jV];exact(hbx.alloc _).cell 0 (by simp));have z1:X9.frozen? ⟨M,0,none⟩=false:=(by rw[←jV];exact(hbx.alloc _).frozen 0);subst hMe)
     | ((with_reducible refine vG ((((aU.new _ 28 #[.slice none 0 0]).below lU).alloc _).below nI) ?_);intro M hMe hbx;(try simp only[Deep.nblk_alloc] at hMe);have Kl:∀b,b∈b2∨b∈b5∨b∈b8→w1.heap.size≤b∧b≠M:=(by intro b hb;refine⟨hLO b hb,?_⟩;have hd:=hD.size;rcases hb with hb|hb|hb;(rcases(hf2 b hb).2 with h|h;(have:=(hf2 b hb).1;omega);(have:=hf1 b h;omega));(rcases(vD b hb).2 with h|h|h;(have:=(vD b hb).1;omega);(have:=hf3 b h;omega);(have:=DX b h;omega));(rcases(vC b hb).2 with h|h|h;(have:=(vC b hb).1;omega);(have:=Am b h;omega);(have:=y7 b h;omega)));have DZ:w1.heap.size≤M:=(by have hd:=hD.size;omega);refine named (v8.alloc (Obj.cells #[.string ⟨#[77,83,72]⟩,.slice a2 (aI [⟨#[82,83,80]⟩,⟨#[90,48,49]⟩] ⟨#[]⟩).length c2,.string ⟨#[77,83,65]⟩,.slice a5 (ay List.isEmpty [ah ⟨#[65,65]⟩,ah control]).length c5,.string ⟨#[81,65,75]⟩,.slice a8 (ay List.isEmpty [ah tag,ah ⟨#[79,75]⟩]).length c8] 54)) ?_;intro X9 jV;have nX:Below w1.heap.size w1 X9:=(by rw[←jV];repeat (first|with_reducible exact kX|with_reducible refine Below.mo ?_ (aS _)));have Hf:=kX.size;have z0:X9.cell? ⟨M,0,none⟩=some (.slice none 0 0):=(by rw[←jV];exact(hbx.alloc _).cell 0 (by simp));have z1:X9.frozen? ⟨M,0,none⟩=false:=(by rw[←jV];exact(hbx.alloc _).frozen 0);subst hMe)
     | ((with_reducible refine vG (((((aU.new _ 28 #[.slice none 0 0]).alloc _).below lU).alloc _).below nI) ?_);intro M hMe hbx;(try simp only[Deep.nblk_alloc] at hMe);have Kl:∀b,b∈b2∨b∈b5∨b∈b8→w1.heap.size≤b∧b≠M:=(by intro b hb;refine⟨hLO b hb,?_⟩;have hd:=hD.size;rcases hb with hb|hb|hb;(rcases(hf2 b hb).2 with h|h;(have:=(hf2 b hb).1;omega);(have:=hf1 b h;omega));(rcases(vD b hb).2 with h|h|h;(have:=(vD b hb).1;omega);(have:=hf3 b h;omega);(have:=DX b h;omega));(rcases(vC b hb).2 with h|h|h;(have:=(vC b hb).1;omega);(have:=Am b h;omega);(have:=y7 b h;omega)));have DZ:w1.heap.size≤M:=(by have hd:=hD.size;omega);refine named (v8.alloc (Obj.cells #[.string ⟨#[77,83,72]⟩,.slice a2 (aI [⟨#[82,83,80]⟩,⟨#[90,48,49]⟩] ⟨#[]⟩).length c2,.string ⟨#[77,83,65]⟩,.slice a5 (ay List.isEmpty [ah ⟨#[65,65]⟩,ah control]).length c5,.string ⟨#[81,65,75]⟩,.slice a8 (ay List.isEmpty [ah tag,ah ⟨#[79,75]⟩]).length c8] 54)) ?_;intro X9 jV;have nX:Below w1.heap.size w1 X9:=(by rw[←jV];repeat (first|with_reducible exact kX|with_reducible refine Below.mo ?_ (aS _)));have Hf:=kX.size;have z0:X9.cell? ⟨M,0,none⟩=some (.slice none 0 0):=(by rw[←jV];exact(hbx.alloc _).cell 0 (by simp));have z1:X9.frozen? ⟨M,0,none⟩=false:=(by rw[←jV];exact(hbx.alloc _).frozen 0);subst hMe)
     | ((with_reducible refine vG ((aU.new _ 28 #[.slice none 0 0]).below nI) ?_);intro M hMe hbx;(try simp only[Deep.nblk_alloc] at hMe);have Kl:∀b,b∈b2∨b∈b5∨b∈b8→w1.heap.size≤b∧b≠M:=(by intro b hb;refine⟨hLO b hb,?_⟩;have hd:=hD.size;rcases hb with hb|hb|hb;(rcases(hf2 b hb).2 with h|h;(have:=(hf2 b hb).1;omega);(have:=hf1 b h;omega));(rcases(vD b hb).2 with h|h|h;(have:=(vD b hb).1;omega);(have:=hf3 b h;omega);(have:=DX b h;omega));(rcases(vC b hb).2 with h|h|h;(have:=(vC b hb).1;omega);(have:=Am b h;omega);(have:=y7 b h;omega)));have DZ:w1.heap.size≤M:=(by have hd:=hD.size;omega);refine named (v8.alloc (Obj.cells #[.string ⟨#[77,83,72]⟩,.slice a2 (aI [⟨#[82,83,80]⟩,⟨#[90,48,49]⟩] ⟨#[]⟩).length c2,.string ⟨#[77,83,65]⟩,.slice a5 (ay List.isEmpty [ah ⟨#[65,65]⟩,ah control]).length c5,.string ⟨#[81,65,75]⟩,.slice a8 (ay List.isEmpty [ah tag,ah ⟨#[79,75]⟩]).length c8] 54)) ?_;intro X9 jV;have nX:Below w1.heap.size w1 X9:=(by rw[←jV];repeat (first|with_reducible exact kX|with_reducible refine Below.mo ?_ (aS _)));have Hf:=kX.size;have z0:X9.cell? ⟨M,0,none⟩=some (.slice none 0 0):=(by rw[←jV];exact(hbx.alloc _).cell 0 (by simp));have z1:X9.frozen? ⟨M,0,none⟩=false:=(by rw[←jV];exact(hbx.alloc _).frozen 0);subst hMe)
     | ((with_reducible refine vG (((aU.new _ 28 #[.slice none 0 0]).alloc _).below nI) ?_);intro M hMe hbx;(try simp only[Deep.nblk_alloc] at hMe);have Kl:∀b,b∈b2∨b∈b5∨b∈b8→w1.heap.size≤b∧b≠M:=(by intro b hb;refine⟨hLO b hb,?_⟩;have hd:=hD.size;rcases hb with hb|hb|hb;(rcases(hf2 b hb).2 with h|h;(have:=(hf2 b hb).1;omega);(have:=hf1 b h;omega));(rcases(vD b hb).2 with h|h|h;(have:=(vD b hb).1;omega);(have:=hf3 b h;omega);(have:=DX b h;omega));(rcases(vC b hb).2 with h|h|h;(have:=(vC b hb).1;omega);(have:=Am b h;omega);(have:=y7 b h;omega)));have DZ:w1.heap.size≤M:=(by have hd:=hD.size;omega);refine named (v8.alloc (Obj.cells #[.string ⟨#[77,83,72]⟩,.slice a2 (aI [⟨#[82,83,80]⟩,⟨#[90,48,49]⟩] ⟨#[]⟩).length c2,.string ⟨#[77,83,65]⟩,.slice a5 (ay List.isEmpty [ah ⟨#[65,65]⟩,ah control]).length c5,.string ⟨#[81,65,75]⟩,.slice a8 (ay List.isEmpty [ah tag,ah ⟨#[79,75]⟩]).length c8] 54)) ?_;intro X9 jV;have nX:Below w1.heap.size w1 X9:=(by rw[←jV];repeat (first|with_reducible exact kX|with_reducible refine Below.mo ?_ (aS _)));have Hf:=kX.size;have z0:X9.cell? ⟨M,0,none⟩=some (.slice none 0 0):=(by rw[←jV];exact(hbx.alloc _).cell 0 (by simp));have z1:X9.frozen? ⟨M,0,none⟩=false:=(by rw[←jV];exact(hbx.alloc _).frozen 0);subst hMe)
     | (refine named ((v8.alloc (Obj.cells #[.slice none 0 0] 28)).alloc (Obj.cells #[.string ⟨#[77,83,72]⟩,.slice a2 (aI [⟨#[82,83,80]⟩,⟨#[90,48,49]⟩] ⟨#[]⟩).length c2,.string ⟨#[77,83,65]⟩,.slice a5 (ay List.isEmpty [ah ⟨#[65,65]⟩,ah control]).length c5,.string ⟨#[81,65,75]⟩,.slice a8 (ay List.isEmpty [ah tag,ah ⟨#[79,75]⟩]).length c8] 54)) ?_;intro X9 jV;have nX:Below w1.heap.size w1 X9:=(by rw[←jV];repeat (first|with_reducible exact kX|with_reducible refine Below.mo ?_ (aS _)));have Hf:=kX.size;have z0:X9.cell? ⟨v8.heap.size,0,none⟩=some (.slice none 0 0):=(by rw[←jV];exact((aU.new v8 28 #[.slice none 0 0]).alloc _).cell 0 (by simp));have z1:X9.frozen? ⟨v8.heap.size,0,none⟩=false:=(by rw[←jV];exact((aU.new v8 28 #[.slice none 0 0]).alloc _).frozen 0);refine named ((v8.alloc (Obj.cells #[.string ⟨#[77,83,72]⟩,.slice a2 (aI [⟨#[82,83,80]⟩,⟨#[90,48,49]⟩] ⟨#[]⟩).length c2,.string ⟨#[77,83,65]⟩,.slice a5 (ay List.isEmpty [ah ⟨#[65,65]⟩,ah control]).length c5,.string ⟨#[81,65,75]⟩,.slice a8 (ay List.isEmpty [ah tag,ah ⟨#[79,75]⟩]).length c8] 54)).alloc (Obj.cells #[.slice none 0 0] 28)) ?_;intro X8 hX8;have sM:Below w1.heap.size w1 X8:=(by rw[←hX8];repeat (first|with_reducible exact kX|with_reducible refine Below.mo ?_ (aS _)));have y0:X8.cell? ⟨v8.heap.size+1,0,none⟩=some (.slice none 0 0):=(by rw[←hX8];exact(aU.newS v8 _ 28 #[.slice none 0 0]).cell 0 (by simp));have y1:X8.frozen? ⟨v8.heap.size+1,0,none⟩=false:=(by rw[←hX8];exact(aU.newS v8 _ 28 #[.slice none 0 0]).frozen 0)))
    | (have _g:=mZ;go_at_call 197;refine(qU ⟨#[79,75]⟩ _ (by decide)).mono ?_;rintro e v7 ⟨a7,c7,rfl,b7,Y9,y7,lU⟩;have hs7:=lU.size;have Q0:Below v6.heap.size v6 v7:=aj lU (by repeat (first|with_reducible exact Below.refl _ _|with_reducible refine Below.mo ?_ (aS _)));have oo:Below w1.heap.size w1 v7:=aj Q0 mZ;(try simp only[Deep.nblk_alloc] at hs7);(try simp only[Deep.nblk_alloc] at y7);have hO2:=kZ hO2 Q0;have qF:=kZ qF Q0;have Kk:=uK Kk Q0)
    | (have _g:=kG;go_at_call 197;refine(qU tag _ ht).mono ?_;rintro e v6 ⟨a6,c6,rfl,b6,Kk,Am,hb6⟩;have hs6:=hb6.size;have hc6:Below v5.heap.size v5 v6:=aj hb6 (by repeat (first|with_reducible exact Below.refl _ _|with_reducible refine Below.mo ?_ (aS _)));have mZ:Below w1.heap.size w1 v6:=aj hc6 kG;(try simp only[Deep.nblk_alloc] at hs6);(try simp only[Deep.nblk_alloc] at Am);have hO2:=kZ hO2 hc6;have qF:=kZ qF hc6)
    | (have _g:=hB4;go_at_call 86;refine(J2 ⟨#[77,83,65]⟩ _ _ (ah ⟨#[65,65]⟩) (ah control) b3 b4 _ _ ?hx5 (uK hO3 (by repeat (first|with_reducible exact Below.refl _ _|with_reducible refine Below.mo ?_ (aS _)))) (uK hO4 (by repeat (first|with_reducible exact Below.refl _ _|with_reducible refine Below.mo ?_ (aS _)))) (jw _) (jw _)).mono ?_;(case hx5=>(first|with_reducible exact aU.new _ _ _|with_reducible exact(aU.new _ _ _).alloc _|with_reducible exact aU.newS _ _ _ _|exact aU.new _ _ _|exact(aU.new _ _ _).alloc _|exact aU.newS _ _ _ _));rintro e v5 ⟨a5,c5,rfl,b5,qF,vD,hb5⟩;have hs5:=hb5.size;have hc5:Below v4.heap.size v4 v5:=aj hb5 (by repeat (first|with_reducible exact Below.refl _ _|with_reducible refine Below.mo ?_ (aS _)));have kG:Below w1.heap.size w1 v5:=aj hc5 hB4;(try simp only[Deep.nblk_alloc] at hs5);(try simp only[Deep.nblk_alloc] at vD);have hO2:=kZ hO2 hc5)
    | (have _g:=hB3;go_at_call 197;refine(qU control _ hc).mono ?_;rintro e v4 ⟨a4,c4,rfl,b4,hO4,DX,hb4⟩;have hs4:=hb4.size;have hc4:Below v3.heap.size v3 v4:=aj hb4 (by repeat (first|with_reducible exact Below.refl _ _|with_reducible refine Below.mo ?_ (aS _)));have hB4:Below w1.heap.size w1 v4:=aj hc4 hB3;(try simp only[Deep.nblk_alloc] at hs4);(try simp only[Deep.nblk_alloc] at DX);have hO2:=kZ hO2 hc4;have hO3:=uK hO3 hc4)
    | (have _g:=hB2;go_at_call 197;refine(qU ⟨#[65,65]⟩ _ (by decide)).mono ?_;rintro e v3 ⟨a3,c3,rfl,b3,hO3,hf3,hb3⟩;have hs3:=hb3.size;have hc3:Below v2.heap.size v2 v3:=aj hb3 (by repeat (first|with_reducible exact Below.refl _ _|with_reducible refine Below.mo ?_ (aS _)));have hB3:Below w1.heap.size w1 v3:=aj hc3 hB2;(try simp only[Deep.nblk_alloc] at hs3);(try simp only[Deep.nblk_alloc] at hf3);have hO2:=kZ hO2 hc3)
    | (go_at_call 196;refine(TB ⟨#[82,83,80]⟩ ⟨#[90,48,49]⟩ ⟨#[]⟩ a1 c1 b1 w1.heap.size _ (aax F7 (by repeat (first|with_reducible exact Below.refl _ _|with_reducible refine Below.mo ?_ (aS _)))) hn1 (fun b h=>by have h1:=(hf1 b h).1;have h2:=hD.size;omega) (Below.size (by repeat (first|with_reducible exact kX|with_reducible exact oo|with_reducible exact mZ|with_reducible exact kG|with_reducible exact hB4|with_reducible exact hB3|with_reducible exact hB2|with_reducible exact hB1|with_reducible exact hD|with_reducible refine Below.mo ?_ (aS _)))) (by decide)).mono ?_;rintro e v2 ⟨a2,c2,rfl,b2,hO2,hf2,hb2⟩;have hs2:=hb2.size;have hc2:Below v1.heap.size v1 v2:=aj hb2 (by repeat (first|with_reducible exact Below.refl _ _|with_reducible refine Below.mo ?_ (aS _)));have hB2:Below w1.heap.size w1 v2:=aj hc2 hB1;(try simp only[Deep.nblk_alloc] at hs2);(try simp only[Deep.nblk_alloc] at hf2))
    | (go_at_call 84;refine(WQ ⟨#[82,83,80]⟩ ⟨#[90,48,49]⟩ _ _ ?hx1 (by decide) (by decide) (by decide)).mono ?_;(case hx1=>(first|with_reducible exact aU.new _ _ _|with_reducible exact(aU.new _ _ _).alloc _|with_reducible exact aU.newS _ _ _ _|exact aU.new _ _ _|exact(aU.new _ _ _).alloc _|exact aU.newS _ _ _ _));rintro e v1 ⟨a1,c1,rfl,b1,F7,hn1,hf1,hb1⟩;have hs1:=hb1.size;have hc1:Below D.heap.size D v1:=aj hb1 (by repeat (first|with_reducible exact Below.refl _ _|with_reducible refine Below.mo ?_ (aS _)));have hB1:Below w1.heap.size w1 v1:=aj hc1 hD;(try simp only[Deep.nblk_alloc] at hs1);(try simp only[Deep.nblk_alloc] at hf1)))
  all_goals
   go_wp2_with fail
   go_meet
   case rel=>first
    | (subst hX8;refine⟨_,[(mD,a2,c2),(mF ⟨#[65,65]⟩ control,a5,c5),(nV tag ⟨#[79,75]⟩,a8,c8)],rfl,?_,rfl⟩;with_reducible exact Px kX hO2 qF hO8 hLO)
    | (subst jV;refine⟨_,[(mD,a2,c2),(mF ⟨#[65,65]⟩ control,a5,c5),(nV tag ⟨#[79,75]⟩,a8,c8)],rfl,?_,rfl⟩;with_reducible exact TN kX hO2 qF hO8 hLO)
    | (subst jV;refine⟨_,[(mD,a2,c2),(mF ⟨#[65,65]⟩ control,a5,c5),(nV tag ⟨#[79,75]⟩,a8,c8)],rfl,?_,rfl⟩;with_reducible exact DN hbx kX DZ hO2 qF hO8 Kl)
 case rest =>
  obtain⟨M,ps0,rfl,hPR,hps⟩:=hcut
  obtain⟨X,rfl⟩:∃x,x=wc:=⟨_,rfl⟩
  obtain⟨x3,hx3⟩:∃l,[mD,mF ⟨#[65,65]⟩ control,nV tag ⟨#[79,75]⟩]=l:=⟨_,rfl⟩
  have ab4:x3.length=3:=by rw[←hx3];rfl
  have HPX:=hide hPR
  rw[hx3] at hps HPM
  have AJ:=hide hps
  clear hPR hps hx3
  obtain⟨p0,p1,p2,p3⟩:=KP.out X HPX.out.below
  go_wp2_with fail
  go_loopg [26] rows.length (fun q i wr=>∃(k:Nat) (ps:List QS),k≤rows.length∧q=rows.length - k∧i=.int .i64 (k:Int)∧jU w1 wr M ps∧ps.map Prod.fst=x3++(rows.take k).map iZ)
  case atStart=>exact⟨0,ps0,eH _,rfl,rfl,HPX.out,by rw[AJ.out];simp⟩
  case round =>
   obtain⟨k,ps,hk,rfl,rfl,hR,hP⟩:=hrel
   obtain⟨Y,rfl⟩:∃x,x=wr:=⟨_,rfl⟩
   have jo:=hide hR.below
   have DZ:w1.heap.size≤M:=hR.low
   obtain⟨ar,cr,aaM,_,_,F9⟩:=hR
   obtain⟨nr,hnr⟩:∃n,ps.length=n:=⟨_,rfl⟩
   have sF:=hide hnr
   have ahv:nr≤3+200:=by
    have:=congrArg List.length hP
    rw[List.length_map,List.length_append,List.length_map,List.length_take] at this
    omega
   rw[hnr] at aaM F9
   have jr:=hide aaM
   have HRW:=hide F9
   have D7:=hide hP
   clear aaM F9 hP hnr p0 p1 p2 p3
   obtain⟨p0,p1,p2,p3⟩:=KP.out Y jo.out
   by_cases hlt:k<rows.length
   ·have hki:(k:Int)<(rows.length:Int):=by omega
    obtain⟨a',cap',e',hc'⟩:=(At.kept bE F4.out jo.out).form
    injection e' with ea eb ec
    subst ea ec
    clear eb
    obtain⟨b,off,rfl,_,hbl,hcell,_⟩:=hc' k hlt
    clear hc'
    rw[Nat.mul_one] at hcell
    obtain⟨x,hx⟩:∃x,rows[k]=x:=⟨_,rfl⟩
    rw[hx] at hcell
    have hxz:x.size≤1048576:=by rw[←hx];exact HZ.out _ (List.getElem_mem hlt)
    have Li:Hid (x3++(rows.take (k+1)).map iZ=x3++(rows.take k).map iZ++[iZ x]):=by show _=_;rw[List.take_succ_eq_append_getElem hlt,List.map_append,hx,List.append_assoc];rfl
    clear hx
    go_upto_region 5 with fail
    obtain⟨D,hDe⟩:∃D,Y.drew=D:=⟨_,rfl⟩
    have hD:Below Y.heap.size Y D:=by rw[←hDe];exact(Below.refl _ _).drew
    have hSd:(fun X:World=>X.cell? ⟨M,0,none⟩=some (.slice ar nr cr)∧X.cell? ⟨w.heap.size,3,none⟩=some (.string pointer)) D:=⟨(jr.out.below hD).cell 0 (by simp),(KP.out D (aj hD jo.out)).2.2.2⟩
    have Dc:=hDe
    refine iF (fun X:World=>X.cell? ⟨M,0,none⟩=some (.slice ar nr cr)∧X.cell? ⟨w.heap.size,3,none⟩=some (.string pointer)) 8 (by kernel_rfl) ?_
    rw[hDe]
    clear hDe Dc
    refine aR (i:=0) (some 30) (v:=?ahw) rfl rfl (by kernel_rfl) (by kernel_rfl) (by kernel_rfl) (by kernel_rfl) (fun _ _ _ h=>h) hSd (Or.inl ⟨by rfl,?adl⟩) ?ad1
    case adl=>(intro w hSw;(try dsimp only at hSw);go_simp;try with_reducible rfl)
    try simp only[Act.put,List.setIfInBounds_toArray,List.set_cons_zero,List.set_cons_succ]
    refine aR (i:=1) (some 31) (v:=?ahx) rfl rfl (by kernel_rfl) (by kernel_rfl) (by kernel_rfl) (by kernel_rfl) (fun _ _ _ h=>h) hSd (Or.inl ⟨by rfl,?adn⟩) ?ad2
    case adn=>(intro w hSw;(try dsimp only at hSw);go_simp;try with_reducible rfl)
    try simp only[Act.put,List.setIfInBounds_toArray,List.set_cons_zero,List.set_cons_succ]
    refine aR (i:=2) (some 32) (v:=?ahy) rfl rfl (by kernel_rfl) (by kernel_rfl) (by kernel_rfl) (by kernel_rfl) (fun _ _ _ h=>h) hSd (Or.inl ⟨by rfl,?ado⟩) ?ad3
    case ado=>(intro w hSw;(try dsimp only at hSw);go_simp;try with_reducible rfl)
    try simp only[Act.put,List.setIfInBounds_toArray,List.set_cons_zero,List.set_cons_succ]
    refine aQ (j:=3) (by kernel_rfl) rfl (fun K hK=>?_)
    go_simp
    refine(qU x D hxz).mono ?_
    rintro e Z1 ⟨a1,c1,rfl,b1,F7,hf1,hb1⟩
    dsimp only
    have Aq:Below Y.heap.size Y Z1:=aj hb1 hD
    refine hK.out _ _ (fun _=>⟨(jr.out.below Aq).cell 0 (by simp),(KP.out Z1 (aj Aq jo.out)).2.2.2⟩) ?_
    clear hK K
    try simp only[Act.put,List.setIfInBounds_toArray,List.set_cons_zero,List.set_cons_succ]
    have hY2:Below Y.heap.size Y (Z1.alloc (Obj.cells #[.slice a1 (ah x).length c1] 57)):=Below.mo Aq (aS _)
    refine aQ (j:=4) (by kernel_rfl) rfl (fun K hK=>?_)
    go_simp
    refine hK.out _ _ (fun _=>⟨(jr.out.below hY2).cell 0 (by simp),(KP.out _ (aj hY2 jo.out)).2.2.2⟩) ?_
    clear hK K
    try simp only[Act.put,List.setIfInBounds_toArray,List.set_cons_zero,List.set_cons_succ]
    refine aQ (j:=5) (by kernel_rfl) rfl (fun K hK=>?_)
    go_simp
    refine(JZ ⟨#[82,68,84]⟩ _ (ah x) b1 _ _ (aU.new _ _ _) (uK F7 (aO _ _)) (jw _)).mono ?_
    rintro e Z2 ⟨a2,c2,rfl,b2,hO2,hf2,hb2⟩
    dsimp only
    have D5:Below Y.heap.size Y Z2:=aj hb2 hY2
    refine hK.out _ _ (fun _=>⟨(jr.out.below D5).cell 0 (by simp),(KP.out Z2 (aj D5 jo.out)).2.2.2⟩) ?_
    clear hK K
    try simp only[Act.put,List.setIfInBounds_toArray,List.set_cons_zero,List.set_cons_succ]
    have hY4:Below Y.heap.size Y (Z2.alloc (Obj.cells #[.string ⟨#[82,68,84]⟩,.slice a2 (ay List.isEmpty [ah x]).length c2] 54)):=Below.mo D5 (aS _)
    refine aQ (j:=6) (by kernel_rfl) rfl (fun K hK=>?_)
    go_simp
    refine hK.out _ _ (fun _=>⟨(jr.out.below hY4).cell 0 (by simp),(KP.out _ (aj hY4 jo.out)).2.2.2⟩) ?_
    clear hK K
    try simp only[Act.put,List.setIfInBounds_toArray,List.set_cons_zero,List.set_cons_succ]
    have hds:=hD.size
    have h1s:=hb1.size
    have h2s:=hb2.size
    rw[Deep.nblk_alloc] at h2s
    have hML:M<Y.heap.size:=jr.out.lt
    have hOl:∀b,(Value.slice ar nr cr).ownBlock=some b→w1.heap.size≤b∧b<Y.heap.size:=fun b hb=>HRW.out.row.own b (by rw[hb];simp)
    have aaN:=D5.size
    have hwY:=jo.out.size
    obtain⟨v',Z',hr2,DR,rR⟩:=(HRW.out.below D5).push (by omega) (by omega) (by rw[sF.out];omega) (iZ x,a2,c2) (by first|decide|exact(by decide:(3:Nat)≤9223372036854775807)) (bs:=b2) hO2 (fun b hb=>by
     have hb':Y.heap.size≤b:=by
      rcases(hf2 b hb).2 with h|h
      ·rw[Deep.nblk_alloc] at h;omega
      ·have:=(hf1 b h).1;omega
     exact⟨by omega,by omega,fun e=>by have:=(hOl b e).2;omega⟩) 26
    have yI:M ∉ (Value.slice ar nr cr).ownBlock.toList:=fun hm=>HRW.out.own (by simpa using hm)
    have nJ:aU Z' M 28 #[.slice ar nr cr]:=((jr.out.below D5).only rR yI)
    have hwZ:Below w1.heap.size w1 Z2:=aj D5 jo.out
    have Ms:Below w1.heap.size w1 Z':=hwZ.trans (rR.below hwZ.size fun d hd=>(hOl d (by simpa using hd)).1)
    have r4:Z'.cell? ⟨M,0,none⟩=some (.slice ar nr cr):=nJ.cell 0 (by simp)
    have rf4:=nJ.frozen 0
    obtain⟨a8,c8,e8⟩:=DR.form
    rw[List.length_append,List.length_singleton,sF.out] at e8
    subst e8
    refine aQ (j:=7) (by kernel_rfl) rfl (fun K hK=>?_)
    refine oL rfl _ _ 26 rfl hr2 (by first|rfl|simp[Act.eval,Act.put]) (by first|rfl|simp[Act.eval,Act.put]) ?_
    show K (Act.put _ (some 37) _) _
    refine hK.out _ _ (fun _=>⟨r4,(KP.out Z' Ms).2.2.2⟩) ?_
    clear hK K
    try simp only[Act.put,List.setIfInBounds_toArray,List.set_cons_zero,List.set_cons_succ]
    refine aQ (j:=8) (by kernel_rfl) rfl (fun K hK=>?_)
    go_simp
    refine hK.out _ _ (fun h=>absurd h (by decide)) ?_
    clear hK K
    refine aQ (j:=9) (by kernel_rfl) rfl (fun K hK=>?_)
    go_simp
    refine hK.out _ _ (fun h=>absurd h (by decide)) ?_
    clear hK K
    refine kV (by kernel_rfl) ?_ _
    have hBZ:aU (Z'.setCell ⟨M,0,none⟩ (.slice a8 (nr+1) c8)) M 28 #[.slice a8 (ps++[(iZ x,a2,c2)]).length c8]:=by
     have:=nJ.set 0 (.slice a8 (nr+1) c8)
     rw[List.length_append,List.length_singleton,sF.out]
     simpa using this
    have TP:Below w1.heap.size w1 (Z'.setCell ⟨M,0,none⟩ (.slice a8 (nr+1) c8)):=Ms.setCell (p:=⟨M,0,none⟩) DZ _
    have J7:nK w1.heap.size M (Z'.setCell ⟨M,0,none⟩ (.slice a8 (nr+1) c8)) (.slice a8 (ps++[(iZ x,a2,c2)]).length c8) (ps++[(iZ x,a2,c2)]):=by
     rw[List.length_append,List.length_singleton,sF.out]
     exact DR.set _
    clear hSd r4 rf4 hr2 DR rR yI nJ Ms hwZ D5 hY2 Aq hY4 hds h1s h2s hML hOl aaN F7 hO2 hf1 hf2 hb1 hb2 hD hwY
    have qc:Hid (jU w1 (Z'.setCell ⟨M,0,none⟩ (.slice a8 (nr+1) c8)) M (ps++[(iZ x,a2,c2)])):=⟨a8,c8,hBZ,TP,DZ,J7⟩
    have HPN:Hid ((ps++[(iZ x,a2,c2)]).map Prod.fst=x3++(rows.take (k+1)).map iZ):=by show _=_;rw[List.map_append,D7.out,Li.out];rfl
    clear hBZ TP J7
    go_wp2_with fail
    go_roundg (rows.length - (k+1))
    case measure=>omega
    case rel=>exact⟨k+1,_,by omega,rfl,by go_num,qc.out,HPN.out⟩
   ·have hki:¬(k:Int)<(rows.length:Int):=by omega
    obtain rfl:k=rows.length:=by omega
    have Kg:Hid (ps.map Prod.fst=x3++rows.map iZ):=by have:=D7.out;rw[List.take_length] at this;exact this
    clear D7
    go_upto_if 42 with fail
    go_cut [42] (fun v42 wx=>∃ps,jU w1 wx M ps∧ps.map Prod.fst=Us)
    case first =>
     by_cases hp0:pointer.size=0
     ·obtain⟨e1,e2,e3⟩:=mU hp0
      have e4:(!pointer.toList.isEmpty)=false:=by rw[e2];rfl
      rw[e4]
      have P7:Hid (ps.map Prod.fst=Us):=by show _=_;rw[Kg.out,HPM.out];unfold sN;rw[if_pos hp0,List.append_nil]
      have Ct:Hid (jU w1 Y M ps):=⟨ar,cr,by rw[sF.out];exact jr.out,jo.out,DZ,by rw[sF.out];exact HRW.out⟩
      go_wp2_with fail
      go_meet
      case rel=>exact⟨_,Ct.out,P7.out⟩
     ·obtain⟨e1,e2,e3⟩:=oW hp0
      have e4:(!pointer.toList.isEmpty)=true:=by rw[e2];rfl
      rw[e4]
      have P7:Hid (x3++rows.map iZ++[wO pointer]=Us):=by show _=_;rw[HPM.out];unfold sN;rw[if_neg hp0]
      go_upto_region 8 with fail
      obtain⟨D,hDe⟩:∃D,Y.drew=D:=⟨_,rfl⟩
      have hD:Below Y.heap.size Y D:=by rw[←hDe];exact(Below.refl _ _).drew
      have hSd:(fun X:World=>X.cell? ⟨M,0,none⟩=some (.slice ar nr cr)∧X.cell? ⟨w.heap.size,3,none⟩=some (.string pointer)) D:=⟨(jr.out.below hD).cell 0 (by simp),(KP.out D (aj hD jo.out)).2.2.2⟩
      have Dc:=hDe
      refine iF (fun X:World=>X.cell? ⟨M,0,none⟩=some (.slice ar nr cr)∧X.cell? ⟨w.heap.size,3,none⟩=some (.string pointer)) 9 (by kernel_rfl) ?_
      rw[hDe]
      clear hDe Dc
      refine aR (i:=0) (some 43) (v:=?ahz) rfl rfl (by kernel_rfl) (by kernel_rfl) (by kernel_rfl) (by kernel_rfl) (fun _ _ _ h=>h) hSd (Or.inl ⟨by rfl,?adp⟩) ?ad4
      case adp=>(intro w hSw;(try dsimp only at hSw);go_simp;try with_reducible rfl)
      try simp only[Act.put,List.setIfInBounds_toArray,List.set_cons_zero,List.set_cons_succ]
      refine aR (i:=1) (some 44) (v:=?ahA) rfl rfl (by kernel_rfl) (by kernel_rfl) (by kernel_rfl) (by kernel_rfl) (fun _ _ _ h=>h) hSd (Or.inl ⟨by rfl,?adq⟩) ?ad5
      case adq=>(intro w hSw;(try dsimp only at hSw);go_simp;try with_reducible rfl)
      try simp only[Act.put,List.setIfInBounds_toArray,List.set_cons_zero,List.set_cons_succ]
      refine aR (i:=2) (some 45) (v:=?ahB) rfl rfl (by kernel_rfl) (by kernel_rfl) (by kernel_rfl) (by kernel_rfl) (fun _ _ _ h=>h) hSd (Or.inl ⟨by rfl,?adr⟩) ?ad6
      case adr=>(intro w hSw;(try dsimp only at hSw);go_simp;try with_reducible rfl)
      try simp only[Act.put,List.setIfInBounds_toArray,List.set_cons_zero,List.set_cons_succ]
      refine aR (i:=3) (some 46) (v:=?ahC) rfl rfl (by kernel_rfl) (by kernel_rfl) (by kernel_rfl) (by kernel_rfl) (fun _ _ _ h=>h) hSd (Or.inl ⟨by rfl,?ads⟩) ?ad7
      case ads=>(intro w hSw;(try dsimp only at hSw);go_simp;try with_reducible rfl)
      try simp only[Act.put,List.setIfInBounds_toArray,List.set_cons_zero,List.set_cons_succ]
      refine aQ (j:=4) (by kernel_rfl) rfl (fun K hK=>?_)
      go_simp
      refine(qU pointer D hp).mono ?_
      rintro e Z1 ⟨a1,c1,rfl,b1,F7,hf1,hb1⟩
      dsimp only
      have Aq:Below Y.heap.size Y Z1:=aj hb1 hD
      refine hK.out _ _ (fun _=>⟨(jr.out.below Aq).cell 0 (by simp),(KP.out Z1 (aj Aq jo.out)).2.2.2⟩) ?_
      clear hK K
      try simp only[Act.put,List.setIfInBounds_toArray,List.set_cons_zero,List.set_cons_succ]
      have hY2:Below Y.heap.size Y (Z1.alloc (Obj.cells #[.slice a1 (ah pointer).length c1] 57)):=Below.mo Aq (aS _)
      refine aQ (j:=5) (by kernel_rfl) rfl (fun K hK=>?_)
      go_simp
      refine hK.out _ _ (fun _=>⟨(jr.out.below hY2).cell 0 (by simp),(KP.out _ (aj hY2 jo.out)).2.2.2⟩) ?_
      clear hK K
      try simp only[Act.put,List.setIfInBounds_toArray,List.set_cons_zero,List.set_cons_succ]
      refine aQ (j:=6) (by kernel_rfl) rfl (fun K hK=>?_)
      go_simp
      refine(JZ ⟨#[68,83,67]⟩ _ (ah pointer) b1 _ _ (aU.new _ _ _) (uK F7 (aO _ _)) (jw _)).mono ?_
      rintro e Z2 ⟨a2,c2,rfl,b2,hO2,hf2,hb2⟩
      dsimp only
      have D5:Below Y.heap.size Y Z2:=aj hb2 hY2
      refine hK.out _ _ (fun _=>⟨(jr.out.below D5).cell 0 (by simp),(KP.out Z2 (aj D5 jo.out)).2.2.2⟩) ?_
      clear hK K
      try simp only[Act.put,List.setIfInBounds_toArray,List.set_cons_zero,List.set_cons_succ]
      have hY4:Below Y.heap.size Y (Z2.alloc (Obj.cells #[.string ⟨#[68,83,67]⟩,.slice a2 (ay List.isEmpty [ah pointer]).length c2] 54)):=Below.mo D5 (aS _)
      refine aQ (j:=7) (by kernel_rfl) rfl (fun K hK=>?_)
      go_simp
      refine hK.out _ _ (fun _=>⟨(jr.out.below hY4).cell 0 (by simp),(KP.out _ (aj hY4 jo.out)).2.2.2⟩) ?_
      clear hK K
      try simp only[Act.put,List.setIfInBounds_toArray,List.set_cons_zero,List.set_cons_succ]
      have hds:=hD.size
      have h1s:=hb1.size
      have h2s:=hb2.size
      rw[Deep.nblk_alloc] at h2s
      have hML:M<Y.heap.size:=jr.out.lt
      have hOl:∀b,(Value.slice ar nr cr).ownBlock=some b→w1.heap.size≤b∧b<Y.heap.size:=fun b hb=>HRW.out.row.own b (by rw[hb];simp)
      have aaN:=D5.size
      have hwY:=jo.out.size
      obtain⟨v',Z',hr2,DR,rR⟩:=(HRW.out.below D5).push (by omega) (by omega) (by rw[sF.out];omega) (wO pointer,a2,c2) (by first|decide|exact(by decide:(3:Nat)≤9223372036854775807)) (bs:=b2) hO2 (fun b hb=>by
       have hb':Y.heap.size≤b:=by
        rcases(hf2 b hb).2 with h|h
        ·rw[Deep.nblk_alloc] at h;omega
        ·have:=(hf1 b h).1;omega
       exact⟨by omega,by omega,fun e=>by have:=(hOl b e).2;omega⟩) 26
      have yI:M ∉ (Value.slice ar nr cr).ownBlock.toList:=fun hm=>HRW.out.own (by simpa using hm)
      have nJ:aU Z' M 28 #[.slice ar nr cr]:=((jr.out.below D5).only rR yI)
      have hwZ:Below w1.heap.size w1 Z2:=aj D5 jo.out
      have Ms:Below w1.heap.size w1 Z':=hwZ.trans (rR.below hwZ.size fun d hd=>(hOl d (by simpa using hd)).1)
      have r4:Z'.cell? ⟨M,0,none⟩=some (.slice ar nr cr):=nJ.cell 0 (by simp)
      have rf4:=nJ.frozen 0
      obtain⟨a8,c8,e8⟩:=DR.form
      rw[List.length_append,List.length_singleton,sF.out] at e8
      subst e8
      refine aQ (j:=8) (by kernel_rfl) rfl (fun K hK=>?_)
      refine oL rfl _ _ 26 rfl hr2 (by first|rfl|simp[Act.eval,Act.put]) (by first|rfl|simp[Act.eval,Act.put]) ?_
      show K (Act.put _ (some 51) _) _
      refine hK.out _ _ (fun _=>⟨r4,(KP.out Z' Ms).2.2.2⟩) ?_
      clear hK K
      try simp only[Act.put,List.setIfInBounds_toArray,List.set_cons_zero,List.set_cons_succ]
      refine aQ (j:=9) (by kernel_rfl) rfl (fun K hK=>?_)
      go_simp
      refine hK.out _ _ (fun h=>absurd h (by decide)) ?_
      clear hK K
      refine aQ (j:=10) (by kernel_rfl) rfl (fun K hK=>?_)
      go_simp
      refine hK.out _ _ (fun h=>absurd h (by decide)) ?_
      clear hK K
      refine kV (by kernel_rfl) ?_ _
      have hBZ:aU (Z'.setCell ⟨M,0,none⟩ (.slice a8 (nr+1) c8)) M 28 #[.slice a8 (ps++[(wO pointer,a2,c2)]).length c8]:=by
       have:=nJ.set 0 (.slice a8 (nr+1) c8)
       rw[List.length_append,List.length_singleton,sF.out]
       simpa using this
      have TP:Below w1.heap.size w1 (Z'.setCell ⟨M,0,none⟩ (.slice a8 (nr+1) c8)):=Ms.setCell (p:=⟨M,0,none⟩) DZ _
      have J7:nK w1.heap.size M (Z'.setCell ⟨M,0,none⟩ (.slice a8 (nr+1) c8)) (.slice a8 (ps++[(wO pointer,a2,c2)]).length c8) (ps++[(wO pointer,a2,c2)]):=by
       rw[List.length_append,List.length_singleton,sF.out]
       exact DR.set _
      clear hSd r4 rf4 hr2 DR rR yI nJ Ms hwZ D5 hY2 Aq hY4 hds h1s h2s hML hOl aaN F7 hO2 hf1 hf2 hb1 hb2 hD hwY
      have qc:Hid (jU w1 (Z'.setCell ⟨M,0,none⟩ (.slice a8 (nr+1) c8)) M (ps++[(wO pointer,a2,c2)])):=⟨a8,c8,hBZ,TP,DZ,J7⟩
      have HPN:Hid ((ps++[(wO pointer,a2,c2)]).map Prod.fst=Us):=by show _=_;rw[List.map_append,Kg.out,←P7.out];rfl
      clear hBZ TP J7
      go_wp2_with fail
      go_meet
      case rel=>exact⟨_,qc.out,HPN.out⟩
    case rest =>
     obtain⟨ps9,hR9,hP9⟩:=hcut
     obtain⟨X9,rfl⟩:∃x,x=wc:=⟨_,rfl⟩
     obtain⟨a9,c9,nX,ou,_,hM9⟩:=hR9
     have TQ:=hide (vE.out.below ou)
     have h9l:ps9.length≤9223372036854775807:=by
      obtain⟨a0,c0,e0,q1,q2⟩:=hM9.row.form
      omega
     have hsw:=wZ.out
     have Ll:Hid (∀y,aX w.heap.size (X9.setCell ⟨w.heap.size+1,0,none⟩ y) (.slice a9 ps9.length c9) Us):=fun y=>by
      rw[←hP9]
      exact At.mono qy ((hM9.low (b:=w.heap.size+1) (o:=0) (by omega) y).kg h9l) (by omega)
     have jH:Hid (∀y,Below w.heap.size w (X9.setCell ⟨w.heap.size+1,0,none⟩ y)):=fun y=>(aJ ou HB1.out).setCell (p:=⟨w.heap.size+1,0,none⟩) (Nat.le_succ _) y
     obtain⟨n9,hn9⟩:∃n,ps9.length=n:=⟨_,rfl⟩
     rw[hn9] at nX Ll
     have m0:X9.cell? ⟨M,0,none⟩=some (.slice a9 n9 c9):=nX.cell 0 (by simp)
     have r0:X9.cell? ⟨w.heap.size+1,0,none⟩=some (.slice none 0 0):=TQ.out.cell 0 (by simp)
     have rf:X9.frozen? ⟨w.heap.size+1,0,none⟩=false:=TQ.out.frozen 0
     have rl:w.heap.size+1<X9.heap.size:=TQ.out.lt
     clear hM9 hP9 ou nX h9l hn9 p0 p1 p2 p3
     go_wp2_with fail
     exact bodyPost_ret (v:=.agg #[.slice a9 n9 c9]) (by simp[results,Tryz.results208,go_sem,r0,rl]) rfl ⟨_,rfl,Ll.out _,jH.out _⟩
end Go.Proofs.YtfdihjnlgdiioaaGreatDoor.dB
