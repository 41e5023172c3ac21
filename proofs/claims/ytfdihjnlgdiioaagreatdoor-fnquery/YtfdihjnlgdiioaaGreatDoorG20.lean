import Derived.Test.YtfdihjnlgdiioaaGreatDoorG19
import Derived.Deep.RegionHeld3
namespace Go.Proofs.YtfdihjnlgdiioaaGreatDoor.dB
open Go.ChangeShapes Go.WideShapes Go.ChangeAt Go.RowKit
set_option linter.unusedVariables false
set_option linter.unusedSimpArgs false
theorem AV (s1 s2:ByteArray) (w:World) (h1:s1.size≤1048576) (h2:s2.size≤1048576) (h20:s2.size≠0) :
  Calls Tryz.prog 84 #[.slice (some ⟨w.heap.size,0,none⟩) 2 2] (w.alloc (.cells #[.string s1,.string s2] 9)) fun e w'=>∃u,e=.returned (.agg #[u])∧∃bs,fV w' u [s1,s2] bs∧bs.Nodup∧(∀b∈bs,w.heap.size≤b∧b<w'.heap.size)∧Below w.heap.size w w':=by
 have hb1:=(Below.refl w.heap.size w).alloc (aS _) (.cells #[.string s1,.string s2] 9)
 have hsb:oG w.heap.size (w.alloc (.cells #[.string s1,.string s2] 9)) (.slice (some ⟨w.heap.size,0,none⟩) 2 2) ([s1.data.toList,s2.data.toList].map txt):=by
  unfold oG
  have h:=World.ownsRow_lit (base:=w.heap.size) (e:=9) (size:=1) w #[.string s1,.string s2] 2 (aS _) (by unfold maxLen;omega) rfl
  simpa [qj] using h
 refine(oJ [s1.data.toList,s2.data.toList] _ _ _ hsb (by simp) (by simp) (by intro p hp;simp at hp;rcases hp with rfl|rfl <;> simp <;> assumption)).mono ?_
 rintro e w' ⟨u,rfl,hu,hb⟩
 have e2:aK List.isEmpty [s1.data.toList,s2.data.toList]=2:=by
  unfold aK
  unfold aK
  rw[show aK List.isEmpty ([]:List (List UInt8))=0 from rfl]
  simp only
  rw[isE (s:=s2),decide_eq_false h20]
  rfl
 have hT:ay List.isEmpty [s1.data.toList,s2.data.toList]=[s1.data.toList,s2.data.toList]:=by unfold ay;rw[e2];rfl
 rw[hT] at hu
 have hu':w'.ownsRow (w.alloc (.cells #[.string s1,.string s2] 9)).heap.size 9 1 u [Value.string s1,.string s2].length [.string s1,.string s2]:=by
  unfold oG at hu
  simpa [qj] using hu
 obtain⟨h,_⟩|⟨g,cap,rfl,hg,hlt,hc⟩:=gu hu'
 ·cases h
 have hg':w.heap.size+1≤g:=by simpa using hg
 refine⟨_,rfl,[g],⟨by simp,.inr ⟨g,0,cap,[[],[]],rfl,hlt,rfl,rfl,fun i hi hi2=>?_⟩⟩,by simp,?_,aJ hb hb1⟩
 ·have hc':=hc i hi
  have hi':i<2:=hi
  match i,hi' with
  | 0,_=>exact⟨hc'.1,hc'.2,by show s1.size≤_;omega,rfl⟩
  | 1,_=>exact⟨hc'.1,hc'.2,by show s2.size≤_;omega,rfl⟩
 ·intro b hb'
  simp at hb'
  subst hb'
  exact⟨by omega,hlt⟩
theorem M5 (kg:List Seg) (us:List Value) (bss:List (List Nat)) (base:Nat) (w:World) (hP:Parts aN base w us (kg.map Seg.fields) bss) (hn:∀x∈kg,x.name.size≤9223372036854775807) (hl:kg.length≤9223372036854775807) (hp:0<kg.length) :
  pV (w.alloc (.cells (dw kg us).toArray 54)) (.slice (some ⟨w.heap.size,0,none⟩) kg.length kg.length) kg (w.heap.size :: bss.flatten)∧(w.heap.size :: bss.flatten).Nodup∧(∀b∈bss.flatten,base≤b∧b<w.heap.size):=by
 obtain⟨h1,h2,h3,h4⟩:=hP
 rw[List.length_map] at h1 h2
 have hb1:=(Below.refl w.heap.size w).alloc (aS _) (.cells (dw kg us).toArray 54)
 have hin:∀b∈bss.flatten,base≤b∧b<w.heap.size:=fun b hb'=>by
  rw[List.mem_flatten] at hb'
  obtain⟨l,hl',ha⟩:=hb'
  obtain⟨i,hi,rfl⟩:=List.getElem_of_mem hl'
  exact(h4 i (by rw[List.length_map];omega) (by omega) hi).2 b ha
 refine⟨⟨hl,.inr ⟨w.heap.size,0,kg.length,bss,rfl,by simp,rfl,h2,fun i hi hi2=>?_⟩⟩,?_,hin⟩
 ·have hc:=pY kg us i h1 hi
  obtain⟨k1,k2⟩:=h4 i (by rw[List.length_map];exact hi) (by omega) hi2
  rw[List.getElem_map] at k1
  refine⟨?_,?_,hn _ (List.getElem_mem _),us[i]'(by omega),?_,bS.kept bQ k1 hb1.size fun d hd=>hb1.block d (k2 d hd).2⟩
  ·rw[World.cell?_alloc_new];simpa using hc.1
  ·exact World.frozen?_alloc_new _ _ _ _
  ·rw[World.cell?_alloc_new];simpa using hc.2
 ·rw[List.nodup_cons]
  exact⟨fun hm=>by have:=(hin _ hm).2;omega,h3⟩
def fI (control tag:ByteArray):List Seg:=[⟨⟨#[77,83,72]⟩,aI [⟨#[81,67,78]⟩,⟨#[74,48,49]⟩] control⟩,⟨⟨#[81,73,68]⟩,ay List.isEmpty [ah tag]⟩]
def fA (w:World) (xs:List Seg) (e:Ending) (w':World):Prop:=∃u,e=.returned (.agg #[u])∧∃bs,pV w' u xs bs∧bs.Nodup∧(∀b∈bs,w.heap.size≤b)∧Below w.heap.size w w'
theorem OL (w0 w1:World) (s:ByteArray) (u:Value) (bs:List Nat) (base:Nat) (hbase:base≤w0.heap.size) (hb:Below w0.heap.size w0 w1) (hO:bP w1 u (ah s) bs) (hn:bs.Nodup) (hf:∀b∈bs,w0.heap.size≤b):Parts bP base w1 [u] [ah s] [bs] :=
 Parts.push bO (Parts.nil bP base w0) hbase hb hO hn fun b h=>⟨hf b h,bS.lt dJ hO b h⟩
set_option maxRecDepth 100000 in
set_option maxHeartbeats 4000000 in
theorem Ao (control tag:ByteArray) (w:World) (hc:control.size≤1048576) (ht:tag.size≤1048576) :
  Calls Tryz.prog 203 #[.agg #[.string control,.string tag]] w (fA w (fI control tag)):=by
 obtain⟨x1,hx1⟩:∃x1,w.alloc (Obj.cells #[.string control,.string tag] 100)=x1:=⟨_,rfl⟩
 obtain⟨w1,hw1⟩:∃w1,x1.alloc (Obj.cells #[.slice none 0 0] 28)=w1:=⟨_,rfl⟩
 have bN:x1.heap.size=w.heap.size+1:=by rw[←hx1];simp
 have dG:w1.heap.size=w.heap.size+1+1:=by rw[←hw1];simp[bN]
 have bx1:Below w.heap.size w x1:=by rw[←hx1];exact aO _ _
 have dV:Below x1.heap.size x1 w1:=by rw[←hw1];exact aO _ _
 have c0:w1.cell? ⟨w.heap.size,0,none⟩=some (.string control):=(dV.cell (p:=⟨w.heap.size,0,none⟩) (by rw[bN];simp)).trans (by rw[←hx1];simp)
 have c1:w1.cell? ⟨w.heap.size,1,none⟩=some (.string tag):=(dV.cell (p:=⟨w.heap.size,1,none⟩) (by rw[bN];simp)).trans (by rw[←hx1];simp)
 have c2:w1.cell? ⟨w.heap.size+1,0,none⟩=some (.slice none 0 0):=by rw[←hw1,←bN];simp
 have f2:w1.frozen? ⟨w.heap.size+1,0,none⟩=false:=by rw[←hw1,←bN];simp
 have HB1:=hide (aJ dV bx1)
 have HW1:Hid ((w.alloc (Obj.cells #[.string control,.string tag] 100)).alloc (Obj.cells #[.slice none 0 0] 28)=w1):=by rw[hx1];exact hw1
 have KEEP:Hid (∀X,Below w1.heap.size w1 X→X.cell? ⟨w.heap.size,0,none⟩=some (.string control)∧X.cell? ⟨w.heap.size,1,none⟩=some (.string tag)∧Below w.heap.size w X):=fun X h =>
  ⟨(h.cell (p:=⟨w.heap.size,0,none⟩) (by rw[dG];dsimp only;omega)).trans c0,(h.cell (p:=⟨w.heap.size,1,none⟩) (by rw[dG];dsimp only;omega)).trans c1,aJ h HB1.out⟩
 have jL:Hid (∀X,Below w1.heap.size w1 X→X.cell? ⟨w.heap.size+1,0,none⟩=some (.slice none 0 0)∧X.frozen? ⟨w.heap.size+1,0,none⟩=false∧w.heap.size+1<X.heap.size):=fun X h =>
  ⟨(h.cell (p:=⟨w.heap.size+1,0,none⟩) (by rw[dG];dsimp only;omega)).trans c2,(h.frozen (p:=⟨w.heap.size+1,0,none⟩) (by rw[dG];dsimp only;omega)).trans f2,by have:=h.size;omega⟩
 have n1:(⟨w.heap.size+1,0,none⟩:Addr).block≠w.heap.size:=by dsimp only;omega
 have HST:Hid (∀X,Below w1.heap.size w1 X→∀x,(X.setCell ⟨w.heap.size+1,0,none⟩ x).cell? ⟨w.heap.size,0,none⟩=some (.string control)∧(X.setCell ⟨w.heap.size+1,0,none⟩ x).cell? ⟨w.heap.size,1,none⟩=some (.string tag)∧Below w.heap.size w (X.setCell ⟨w.heap.size+1,0,none⟩ x)):=fun X h x=>by
  obtain⟨g1,g2,g3⟩:=KEEP.out X h
  exact⟨(World.cell?_setCell_far _ ⟨w.heap.size+1,0,none⟩ ⟨w.heap.size,0,none⟩ _ n1).trans g1,(World.cell?_setCell_far _ ⟨w.heap.size+1,0,none⟩ ⟨w.heap.size,1,none⟩ _ n1).trans g2,g3.setCell (p:=⟨w.heap.size+1,0,none⟩) (Nat.le_succ _) x⟩
 obtain⟨wd,hwd⟩:∃wd,w1.drew=wd:=⟨_,rfl⟩
 have hbd:Below w1.heap.size w1 wd:=by rw[←hwd];exact(Below.refl _ _).drew
 have sd:wd.heap.size=w1.heap.size:=by rw[←hwd];rfl
 have K9:=hide hwd
 have wZ:=hide dG
 have DW:=hide sd
 clear hx1 hw1 bN dG bx1 dV c0 c1 c2 f2 hwd sd n1
 go_enter Tryz.func203,Tryz.ntmps203
 go_wp2_with fail
 rw[HW1.out]
 have uh:=(Below.refl w1.heap.size w1).drew
 have hwd:=K9.out
 go_region_held3 (fun X=>X.cell? ⟨w.heap.size,0,none⟩=some (.string control)∧X.cell? ⟨w.heap.size,1,none⟩=some (.string tag)∧Below w.heap.size w X)
  (first|with_reducible exact KEEP.out _ uh|with_reducible exact KEEP.out _ hbd|with_reducible exact KEEP.out _ (hbd.alloc hbd.size _)|with_reducible exact KEEP.out _ gI|with_reducible exact KEEP.out _ l7|with_reducible exact KEEP.out _ hbC|with_reducible exact KEEP.out _ (hbC.alloc hbC.size _)|with_reducible exact KEEP.out _ hbD|with_reducible exact KEEP.out _ (hbD.alloc hbD.size _)|with_reducible exact HST.out _ (hbD.alloc hbD.size _) _)
  (first
   | (go_at_call 84;refine(AV ⟨#[81,67,78]⟩ ⟨#[74,48,49]⟩ wd (by decide) (by decide) (by decide)).mono ?_;rintro e w2 ⟨u1,rfl,bk,F7,hn1,hf1,hb2⟩;obtain⟨a1,c1,rfl⟩:=ow F7;have gI:=aj hb2 hbd)
   | (go_at_call 196;refine(kF [⟨#[81,67,78]⟩,⟨#[74,48,49]⟩] control _ bk w1.heap.size w2 F7 (by simp) (by simp) hn1 (fun b h=>⟨by have h1:=(hf1 b h).1;have h2:=DW.out;omega,(hf1 b h).2⟩) gI.size hc).mono ?_;rintro e w3 ⟨u2,rfl,bh,hO2,hn2,hf2,hb3⟩;obtain⟨a2,c2,rfl⟩:=dA hO2;have l7:=aj hb3 gI)
   | (go_at_call 197;refine(dx tag w3 ht).mono ?_;rintro e w4 ⟨u3,rfl,bt,hO3,hn3,hf3,hb4⟩;obtain⟨a3,c3,rfl⟩:=dN hO3;have hbC:=aj hb4 l7)
   | (go_at_call 86;refine(oh _ [.slice a3 (ah tag).length c3] [ah tag] [bt] w1.heap.size w4 hbC.size (OL w3 w4 tag _ bt _ l7.size hb4 hO3 hn3 hf3) (by simp) (by simp) (by intro x hx;simp at hx;subst hx;have:=jw tag;omega) 1 rfl).mono ?_;rintro e w5 ⟨u4,rfl,bs,hO4,hn4,DX,hb5⟩;obtain⟨a4,c4,rfl⟩:=dA hO4;have hbD:=aj hb5 hbC;obtain⟨r0,rf,rl⟩:=jL.out _ (hbD.alloc hbD.size (Obj.cells #[.string ⟨#[77,83,72]⟩,.slice a2 (aI [⟨#[81,67,78]⟩,⟨#[74,48,49]⟩] control).length c2,.string ⟨#[81,73,68]⟩,.slice a4 (ay List.isEmpty [ah tag]).length c4] 54))))
 have hs1:=HB1.out.size
 have hsB:=l7.size
 have hsD:=hbD.size
 have hsw:=wZ.out
 have p1:Parts aN w1.heap.size w3 [.slice a2 (aI [⟨#[81,67,78]⟩,⟨#[74,48,49]⟩] control).length c2] [aI [⟨#[81,67,78]⟩,⟨#[74,48,49]⟩] control] [bh]:=Parts.uV fF (Parts.nil aN w1.heap.size w2) hb3 hO2 hn2 (fun b h=>⟨(hf2 b h).1,(hf2 b h).2.1,by simp⟩)
 have p2:Parts aN w1.heap.size w5 [.slice a2 (aI [⟨#[81,67,78]⟩,⟨#[74,48,49]⟩] control).length c2,.slice a4 (ay List.isEmpty [ah tag]).length c4] ((fI control tag).map Seg.fields) [bh,bs]:=Parts.push fF p1 hsB (aj hb5 hb4) hO4 hn4 (fun b h=>⟨by
  rcases(DX b h).2.2 with h'|h'
  ·have:=hb4.size;omega
  ·simp at h';exact hf3 b h',(DX b h).2.1⟩)
 obtain⟨hS,hN,hin⟩:=M5 (fI control tag) _ _ _ w5 p2 (by intro x hx;simp[fI] at hx;rcases hx with rfl|rfl <;> exact(by decide:(3:Nat)≤9223372036854775807)) (by simp[fI]) (by simp[fI])
 have HS:Hid (∀x,pV ((w5.alloc (.cells (dw (fI control tag) [.slice a2 (aI [⟨#[81,67,78]⟩,⟨#[74,48,49]⟩] control).length c2,.slice a4 (ay List.isEmpty [ah tag]).length c4]).toArray 54)).setCell ⟨w.heap.size+1,0,none⟩ x) (.slice (some ⟨w5.heap.size,0,none⟩) 2 2) (fI control tag) (w5.heap.size :: [bh,bs].flatten)):=fun x =>
  bS.kept iR hS (by rw[Deep.nblk_setCell];exact aS _) fun d hd=>Deep.blk_setCell_other _ ⟨w.heap.size+1,0,none⟩ _ d (by
   rw[List.mem_cons] at hd
   dsimp only
   rcases hd with rfl|hd
   ·omega
   ·have:=(hin d hd).1;omega)
 have HN:=hide hN
 have sQ:=hide (show ∀b∈(w5.heap.size :: [bh,bs].flatten),w.heap.size≤b by
  intro d hd
  rw[List.mem_cons] at hd
  rcases hd with rfl|hd
  ·omega
  ·have:=(hin d hd).1;omega)
 have jH:Hid (∀o x,Below w.heap.size w ((w5.alloc o).setCell ⟨w.heap.size+1,0,none⟩ x)):=fun o x=>(HST.out _ (hbD.alloc hbD.size o) x).2.2
 clear hsw
 go_wp2_with fail
 exact bodyPost_ret (v:=.agg #[.slice (some ⟨w5.heap.size,0,none⟩) 2 2]) (by simp[results,Tryz.results203,go_sem,r0,rl]) rfl ⟨_,rfl,_,HS.out _,HN.out,sQ.out,jH.out _ _⟩
def iC (control tag query pointer:ByteArray):List Seg:=[⟨⟨#[77,83,72]⟩,aI [⟨#[81,66,80]⟩,⟨#[90,48,49]⟩] control⟩,⟨⟨#[81,80,68]⟩,ay List.isEmpty [ah ⟨#[81]⟩,ah tag,ah query]⟩,⟨⟨#[68,83,67]⟩,ay List.isEmpty [ah pointer]⟩]
theorem oZ {xs:List Field} (h:∀x∈xs,x=[]∨∃s,x=ah s):∀x∈xs,x.length≤1048576:=fun x hx=>by
 rcases h x hx with rfl|⟨s,rfl⟩
 ·simp
 ·have:=jw s;omega
set_option maxRecDepth 100000 in
set_option maxHeartbeats 8000000 in
theorem Ec (control tag query pointer:ByteArray) (w:World) (hc:control.size≤1048576) (ht:tag.size≤1048576) (hq:query.size≤1048576) (hp:pointer.size≤1048576) :
  Calls Tryz.prog 200 #[.agg #[.string control,.string tag,.string query,.string pointer]] w (fA w (iC control tag query pointer)):=by
 obtain⟨x1,hx1⟩:∃x1,w.alloc (Obj.cells #[.string control,.string tag,.string query,.string pointer] 98)=x1:=⟨_,rfl⟩
 obtain⟨w1,hw1⟩:∃w1,x1.alloc (Obj.cells #[.slice none 0 0] 28)=w1:=⟨_,rfl⟩
 have bN:x1.heap.size=w.heap.size+1:=by rw[←hx1];simp
 have dG:w1.heap.size=w.heap.size+1+1:=by rw[←hw1];simp[bN]
 have bx1:Below w.heap.size w x1:=by rw[←hx1];exact aO _ _
 have dV:Below x1.heap.size x1 w1:=by rw[←hw1];exact aO _ _
 have c0:w1.cell? ⟨w.heap.size,0,none⟩=some (.string control):=(dV.cell (p:=⟨w.heap.size,0,none⟩) (by rw[bN];simp)).trans (by rw[←hx1];simp)
 have c1:w1.cell? ⟨w.heap.size,1,none⟩=some (.string tag):=(dV.cell (p:=⟨w.heap.size,1,none⟩) (by rw[bN];simp)).trans (by rw[←hx1];simp)
 have c2:w1.cell? ⟨w.heap.size,2,none⟩=some (.string query):=(dV.cell (p:=⟨w.heap.size,2,none⟩) (by rw[bN];simp)).trans (by rw[←hx1];simp)
 have c3:w1.cell? ⟨w.heap.size,3,none⟩=some (.string pointer):=(dV.cell (p:=⟨w.heap.size,3,none⟩) (by rw[bN];simp)).trans (by rw[←hx1];simp)
 have cr:w1.cell? ⟨w.heap.size+1,0,none⟩=some (.slice none 0 0):=by rw[←hw1,←bN];simp
 have fr:w1.frozen? ⟨w.heap.size+1,0,none⟩=false:=by rw[←hw1,←bN];simp
 have HB1:=hide (aJ dV bx1)
 have HW1:Hid ((w.alloc (Obj.cells #[.string control,.string tag,.string query,.string pointer] 98)).alloc (Obj.cells #[.slice none 0 0] 28)=w1):=by rw[hx1];exact hw1
 have KEEP:Hid (∀X,Below w1.heap.size w1 X→X.cell? ⟨w.heap.size,0,none⟩=some (.string control)∧X.cell? ⟨w.heap.size,1,none⟩=some (.string tag)∧X.cell? ⟨w.heap.size,2,none⟩=some (.string query)∧X.cell? ⟨w.heap.size,3,none⟩=some (.string pointer)∧Below w.heap.size w X):=fun X h =>
  ⟨(h.cell (p:=⟨w.heap.size,0,none⟩) (by rw[dG];dsimp only;omega)).trans c0,(h.cell (p:=⟨w.heap.size,1,none⟩) (by rw[dG];dsimp only;omega)).trans c1,(h.cell (p:=⟨w.heap.size,2,none⟩) (by rw[dG];dsimp only;omega)).trans c2,(h.cell (p:=⟨w.heap.size,3,none⟩) (by rw[dG];dsimp only;omega)).trans c3,aJ h HB1.out⟩
 have jL:Hid (∀X,Below w1.heap.size w1 X→X.cell? ⟨w.heap.size+1,0,none⟩=some (.slice none 0 0)∧X.frozen? ⟨w.heap.size+1,0,none⟩=false∧w.heap.size+1<X.heap.size):=fun X h =>
  ⟨(h.cell (p:=⟨w.heap.size+1,0,none⟩) (by rw[dG];dsimp only;omega)).trans cr,(h.frozen (p:=⟨w.heap.size+1,0,none⟩) (by rw[dG];dsimp only;omega)).trans fr,by have:=h.size;omega⟩
 have n1:(⟨w.heap.size+1,0,none⟩:Addr).block≠w.heap.size:=by dsimp only;omega
 have HST:Hid (∀X,Below w1.heap.size w1 X→∀x,(X.setCell ⟨w.heap.size+1,0,none⟩ x).cell? ⟨w.heap.size,0,none⟩=some (.string control)∧(X.setCell ⟨w.heap.size+1,0,none⟩ x).cell? ⟨w.heap.size,1,none⟩=some (.string tag)∧(X.setCell ⟨w.heap.size+1,0,none⟩ x).cell? ⟨w.heap.size,2,none⟩=some (.string query)∧(X.setCell ⟨w.heap.size+1,0,none⟩ x).cell? ⟨w.heap.size,3,none⟩=some (.string pointer)∧Below w.heap.size w (X.setCell ⟨w.heap.size+1,0,none⟩ x)):=fun X h x=>by
  obtain⟨g0,g1,g2,g3,gB⟩:=KEEP.out X h
  exact⟨(World.cell?_setCell_far _ ⟨w.heap.size+1,0,none⟩ ⟨w.heap.size,0,none⟩ _ n1).trans g0,(World.cell?_setCell_far _ ⟨w.heap.size+1,0,none⟩ ⟨w.heap.size,1,none⟩ _ n1).trans g1,(World.cell?_setCell_far _ ⟨w.heap.size+1,0,none⟩ ⟨w.heap.size,2,none⟩ _ n1).trans g2,(World.cell?_setCell_far _ ⟨w.heap.size+1,0,none⟩ ⟨w.heap.size,3,none⟩ _ n1).trans g3,gB.setCell (p:=⟨w.heap.size+1,0,none⟩) (Nat.le_succ _) x⟩
 obtain⟨wd,hwd⟩:∃wd,w1.drew=wd:=⟨_,rfl⟩
 have hbd:Below w1.heap.size w1 wd:=by rw[←hwd];exact(Below.refl _ _).drew
 have sd:wd.heap.size=w1.heap.size:=by rw[←hwd];rfl
 have K9:=hide hwd
 have wZ:=hide dG
 have DW:=hide sd
 clear hx1 hw1 bN dG bx1 dV c0 c1 c2 c3 cr fr hwd sd n1
 go_enter Tryz.func200,Tryz.ntmps200
 go_wp2_with fail
 rw[HW1.out]
 have uh:=(Below.refl w1.heap.size w1).drew
 have hwd:=K9.out
 go_region_held3 (fun X=>X.cell? ⟨w.heap.size,0,none⟩=some (.string control)∧X.cell? ⟨w.heap.size,1,none⟩=some (.string tag)∧X.cell? ⟨w.heap.size,2,none⟩=some (.string query)∧X.cell? ⟨w.heap.size,3,none⟩=some (.string pointer)∧Below w.heap.size w X)
  (first|with_reducible exact KEEP.out _ uh|with_reducible exact KEEP.out _ hbd|with_reducible exact KEEP.out _ (hbd.alloc hbd.size _)|with_reducible exact KEEP.out _ hB0|with_reducible exact KEEP.out _ hB1|with_reducible exact KEEP.out _ hB2|with_reducible exact KEEP.out _ (hB2.alloc hB2.size _)|with_reducible exact KEEP.out _ hB3|with_reducible exact KEEP.out _ (hB3.alloc hB3.size _)|with_reducible exact KEEP.out _ hB4|with_reducible exact KEEP.out _ (hB4.alloc hB4.size _)|with_reducible exact KEEP.out _ kG|with_reducible exact KEEP.out _ (kG.alloc kG.size _)|with_reducible exact KEEP.out _ mZ|with_reducible exact KEEP.out _ (mZ.alloc mZ.size _)|with_reducible exact KEEP.out _ oo|with_reducible exact KEEP.out _ (oo.alloc oo.size _)|with_reducible exact HST.out _ (oo.alloc oo.size _) _)
  (first
   | (go_at_call 86;refine(oh _ [.slice aw3 (ah pointer).length kw3] [ah pointer] [bw3] w1.heap.size v6 mZ.size (Parts.push bO (Parts.nil bP w1.heap.size v5) kG.size hb6 Ck RJ (fun b h=>⟨hfw3 b h,bS.lt dJ Ck b h⟩)) (by simp) (by simp) (oZ (by intro x hx;simp at hx;first|(subst hx;exact .inr ⟨_,rfl⟩)|(rcases hx with rfl|rfl|rfl <;> exact .inr ⟨_,rfl⟩))) 1 rfl).mono ?_;rintro e v7 ⟨us2,rfl,yH,Jf,RL,Jg,lU⟩;obtain⟨Ld,Le,rfl⟩:=dA Jf;have oo:=aj lU mZ;obtain⟨r0,rf,rl⟩:=jL.out _ (oo.alloc oo.size (Obj.cells #[.string ⟨#[77,83,72]⟩,.slice a2 (aI [⟨#[81,66,80]⟩,⟨#[90,48,49]⟩] control).length k2,.string ⟨#[81,80,68]⟩,.slice G9 (ay List.isEmpty [ah ⟨#[81]⟩,ah tag,ah query]).length He,.string ⟨#[68,83,67]⟩,.slice Ld (ay List.isEmpty [ah pointer]).length Le] 54)))
   | (go_at_call 197;refine(dx pointer v5 hp).mono ?_;rintro e v6 ⟨uw3,rfl,bw3,Ck,RJ,hfw3,hb6⟩;obtain⟨aw3,kw3,rfl⟩:=dN Ck;have mZ:=aj hb6 kG)
   | (go_at_call 86;refine(oh _ [.slice aw0 (ah ⟨#[81]⟩).length kw0,.slice aw1 (ah tag).length kw1,.slice aw2 (ah query).length kw2] [ah ⟨#[81]⟩,ah tag,ah query] [bw0,dV,bw2] w1.heap.size v4 hB4.size (Parts.push bO (Parts.push bO (Parts.push bO (Parts.nil bP w1.heap.size v1) hB1.size hb2 Cm RN (fun b h=>⟨Jh b h,bS.lt dJ Cm b h⟩)) hB2.size hb3 Co RO (fun b h=>⟨Ji b h,bS.lt dJ Co b h⟩)) hB3.size hb4 Cq RS (fun b h=>⟨hfw2 b h,bS.lt dJ Cq b h⟩)) (by simp) (by simp) (oZ (by intro x hx;simp at hx;first|(subst hx;exact .inr ⟨_,rfl⟩)|(rcases hx with rfl|rfl|rfl <;> exact .inr ⟨_,rfl⟩))) 3 rfl).mono ?_;rintro e v5 ⟨us1,rfl,Cr,Jj,RU,Jk,hb5⟩;obtain⟨G9,He,rfl⟩:=dA Jj;have kG:=aj hb5 hB4)
   | (go_at_call 197;refine(dx query v3 hq).mono ?_;rintro e v4 ⟨uw2,rfl,bw2,Cq,RS,hfw2,hb4⟩;obtain⟨aw2,kw2,rfl⟩:=dN Cq;have hB4:=aj hb4 hB3)
   | (go_at_call 197;refine(dx tag v2 ht).mono ?_;rintro e v3 ⟨uw1,rfl,dV,Co,RO,Ji,hb3⟩;obtain⟨aw1,kw1,rfl⟩:=dN Co;have hB3:=aj hb3 hB2)
   | (go_at_call 197;refine(dx ⟨#[81]⟩ v1 (by decide)).mono ?_;rintro e v2 ⟨uw0,rfl,bw0,Cm,RN,Jh,hb2⟩;obtain⟨aw0,kw0,rfl⟩:=dN Cm;have hB2:=aj hb2 hB1)
   | (go_at_call 196;refine(kF [⟨#[81,66,80]⟩,⟨#[90,48,49]⟩] control _ bk w1.heap.size v0 F7 (by simp) (by simp) hn1 (fun b h=>⟨by have h1:=(hf1 b h).1;have h2:=DW.out;omega,(hf1 b h).2⟩) hB0.size hc).mono ?_;rintro e v1 ⟨u2,rfl,bh,hO2,hn2,hf2,hb1⟩;obtain⟨a2,k2,rfl⟩:=dA hO2;have hB1:=aj hb1 hB0)
   | (go_at_call 84;refine(AV ⟨#[81,66,80]⟩ ⟨#[90,48,49]⟩ wd (by decide) (by decide) (by decide)).mono ?_;rintro e v0 ⟨u1,rfl,bk,F7,hn1,hf1,hb0⟩;obtain⟨a1,k1,rfl⟩:=ow F7;have hB0:=aj hb0 hbd))
 have hs1:=HB1.out.size
 have hsw:=wZ.out
 have hz0:=hB0.size
 have hy0:=hb0.size
 have hz1:=hB1.size
 have hy1:=hb1.size
 have hz2:=hB2.size
 have hy2:=hb2.size
 have hz3:=hB3.size
 have hy3:=hb3.size
 have MZ:=hB4.size
 have hy4:=hb4.size
 have Xy:=kG.size
 have Uq:=hb5.size
 have hz6:=mZ.size
 have Zc:=hb6.size
 have hz7:=oo.size
 have Zd:=lU.size
 have p1:Parts aN w1.heap.size v1 [.slice a2 (aI [⟨#[81,66,80]⟩,⟨#[90,48,49]⟩] control).length k2] [aI [⟨#[81,66,80]⟩,⟨#[90,48,49]⟩] control] [bh]:=Parts.uV fF (Parts.nil aN w1.heap.size v0) hb1 hO2 hn2 (fun b h=>⟨(hf2 b h).1,(hf2 b h).2.1,by simp⟩)
 have p2:Parts aN w1.heap.size v5 [.slice a2 (aI [⟨#[81,66,80]⟩,⟨#[90,48,49]⟩] control).length k2,.slice G9 (ay List.isEmpty [ah ⟨#[81]⟩,ah tag,ah query]).length He] [aI [⟨#[81,66,80]⟩,⟨#[90,48,49]⟩] control,ay List.isEmpty [ah ⟨#[81]⟩,ah tag,ah query]] [bh,Cr]:=Parts.push fF p1 hz1 (aj (aj (aj (hb5) hb4) hb3) hb2) Jj RU (fun b h=>⟨by
  rcases(Jk b h).2.2 with h'|h'
  ·omega
  ·simp only[List.flatten_cons,List.flatten_nil,List.nil_append,List.append_nil,List.mem_append] at h'
   rcases h' with h'|h'|h'
   ·have:=Jh b h';omega
   ·have:=Ji b h';omega
   ·have:=hfw2 b h';omega,(Jk b h).2.1⟩)
 have p3:Parts aN w1.heap.size v7 [.slice a2 (aI [⟨#[81,66,80]⟩,⟨#[90,48,49]⟩] control).length k2,.slice G9 (ay List.isEmpty [ah ⟨#[81]⟩,ah tag,ah query]).length He,.slice Ld (ay List.isEmpty [ah pointer]).length Le] [aI [⟨#[81,66,80]⟩,⟨#[90,48,49]⟩] control,ay List.isEmpty [ah ⟨#[81]⟩,ah tag,ah query],ay List.isEmpty [ah pointer]] [bh,Cr,yH]:=Parts.push fF p2 Xy (aj (lU) hb6) Jf RL (fun b h=>⟨by
  rcases(Jg b h).2.2 with h'|h'
  ·omega
  ·simp at h';have:=hfw3 b h';omega,(Jg b h).2.1⟩)
 obtain⟨hS,hN,hin⟩:=M5 (iC control tag query pointer) [.slice a2 (aI [⟨#[81,66,80]⟩,⟨#[90,48,49]⟩] control).length k2,.slice G9 (ay List.isEmpty [ah ⟨#[81]⟩,ah tag,ah query]).length He,.slice Ld (ay List.isEmpty [ah pointer]).length Le] [bh,Cr,yH] _ v7 p3 (by intro x hx;simp[iC] at hx;rcases hx with rfl|rfl|rfl <;> exact(by decide:(3:Nat)≤9223372036854775807)) (by simp[iC]) (by simp[iC])
 have HS:Hid (∀x,pV ((v7.alloc (.cells (dw (iC control tag query pointer) [.slice a2 (aI [⟨#[81,66,80]⟩,⟨#[90,48,49]⟩] control).length k2,.slice G9 (ay List.isEmpty [ah ⟨#[81]⟩,ah tag,ah query]).length He,.slice Ld (ay List.isEmpty [ah pointer]).length Le]).toArray 54)).setCell ⟨w.heap.size+1,0,none⟩ x) (.slice (some ⟨v7.heap.size,0,none⟩) 3 3) (iC control tag query pointer) (v7.heap.size :: [bh,Cr,yH].flatten)):=fun x =>
  bS.kept iR hS (by rw[Deep.nblk_setCell];exact aS _) fun d hd=>Deep.blk_setCell_other _ ⟨w.heap.size+1,0,none⟩ _ d (by
   rw[List.mem_cons] at hd
   dsimp only
   rcases hd with rfl|hd
   ·omega
   ·have:=(hin d hd).1;omega)
 have HN:=hide hN
 have sQ:=hide (show ∀b∈(v7.heap.size :: [bh,Cr,yH].flatten),w.heap.size≤b by
  intro d hd
  rw[List.mem_cons] at hd
  rcases hd with rfl|hd
  ·omega
  ·have:=(hin d hd).1;omega)
 have jH:Hid (∀o x,Below w.heap.size w ((v7.alloc o).setCell ⟨w.heap.size+1,0,none⟩ x)):=fun o x=>(HST.out _ (oo.alloc oo.size o) x).2.2.2.2
 clear hsw hz0 hy0 hz1 hy1 hz2 hy2 hz3 hy3 MZ hy4 Xy Uq hz6 Zc hz7 Zd
 go_wp2_with fail
 exact bodyPost_ret (v:=.agg #[.slice (some ⟨v7.heap.size,0,none⟩) 3 3]) (by simp[results,Tryz.results200,go_sem,r0,rl]) rfl ⟨_,rfl,_,HS.out _,HN.out,sQ.out,jH.out _ _⟩
def mg (control tag query dt:ByteArray):List Seg:=[⟨⟨#[77,83,72]⟩,aI [⟨#[81,66,80]⟩,⟨#[90,48,49]⟩] control⟩,⟨⟨#[81,80,68]⟩,ay List.isEmpty [ah ⟨#[81]⟩,ah tag,ah query]⟩,⟨⟨#[82,67,80]⟩,ay List.isEmpty [([]:Field),ah dt]⟩]
set_option maxRecDepth 100000 in
set_option maxHeartbeats 8000000 in
theorem F8 (control tag query dt:ByteArray) (page:Int) (w:World) (hc:control.size≤1048576) (ht:tag.size≤1048576) (hq:query.size≤1048576) (hp:dt.size≤1048576) (HI:Hid (∀W,Calls Tryz.prog 100 #[.int .i64 page] W fun e w'=>e=.returned (.string dt)∧w'=W)) :
  Calls Tryz.prog 192 #[.agg #[.string control,.string tag,.string query,.int .i64 page]] w (fA w (mg control tag query dt)):=by
 obtain⟨x1,hx1⟩:∃x1,w.alloc (Obj.cells #[.string control,.string tag,.string query,.int .i64 page] 96)=x1:=⟨_,rfl⟩
 obtain⟨w1,hw1⟩:∃w1,x1.alloc (Obj.cells #[.slice none 0 0] 28)=w1:=⟨_,rfl⟩
 have bN:x1.heap.size=w.heap.size+1:=by rw[←hx1];simp
 have dG:w1.heap.size=w.heap.size+1+1:=by rw[←hw1];simp[bN]
 have bx1:Below w.heap.size w x1:=by rw[←hx1];exact aO _ _
 have dV:Below x1.heap.size x1 w1:=by rw[←hw1];exact aO _ _
 have c0:w1.cell? ⟨w.heap.size,0,none⟩=some (.string control):=(dV.cell (p:=⟨w.heap.size,0,none⟩) (by rw[bN];simp)).trans (by rw[←hx1];simp)
 have c1:w1.cell? ⟨w.heap.size,1,none⟩=some (.string tag):=(dV.cell (p:=⟨w.heap.size,1,none⟩) (by rw[bN];simp)).trans (by rw[←hx1];simp)
 have c2:w1.cell? ⟨w.heap.size,2,none⟩=some (.string query):=(dV.cell (p:=⟨w.heap.size,2,none⟩) (by rw[bN];simp)).trans (by rw[←hx1];simp)
 have c3:w1.cell? ⟨w.heap.size,3,none⟩=some (.int .i64 page):=(dV.cell (p:=⟨w.heap.size,3,none⟩) (by rw[bN];simp)).trans (by rw[←hx1];simp)
 have cr:w1.cell? ⟨w.heap.size+1,0,none⟩=some (.slice none 0 0):=by rw[←hw1,←bN];simp
 have fr:w1.frozen? ⟨w.heap.size+1,0,none⟩=false:=by rw[←hw1,←bN];simp
 have HB1:=hide (aJ dV bx1)
 have HW1:Hid ((w.alloc (Obj.cells #[.string control,.string tag,.string query,.int .i64 page] 96)).alloc (Obj.cells #[.slice none 0 0] 28)=w1):=by rw[hx1];exact hw1
 have KEEP:Hid (∀X,Below w1.heap.size w1 X→X.cell? ⟨w.heap.size,0,none⟩=some (.string control)∧X.cell? ⟨w.heap.size,1,none⟩=some (.string tag)∧X.cell? ⟨w.heap.size,2,none⟩=some (.string query)∧X.cell? ⟨w.heap.size,3,none⟩=some (.int .i64 page)∧Below w.heap.size w X):=fun X h =>
  ⟨(h.cell (p:=⟨w.heap.size,0,none⟩) (by rw[dG];dsimp only;omega)).trans c0,(h.cell (p:=⟨w.heap.size,1,none⟩) (by rw[dG];dsimp only;omega)).trans c1,(h.cell (p:=⟨w.heap.size,2,none⟩) (by rw[dG];dsimp only;omega)).trans c2,(h.cell (p:=⟨w.heap.size,3,none⟩) (by rw[dG];dsimp only;omega)).trans c3,aJ h HB1.out⟩
 have jL:Hid (∀X,Below w1.heap.size w1 X→X.cell? ⟨w.heap.size+1,0,none⟩=some (.slice none 0 0)∧X.frozen? ⟨w.heap.size+1,0,none⟩=false∧w.heap.size+1<X.heap.size):=fun X h =>
  ⟨(h.cell (p:=⟨w.heap.size+1,0,none⟩) (by rw[dG];dsimp only;omega)).trans cr,(h.frozen (p:=⟨w.heap.size+1,0,none⟩) (by rw[dG];dsimp only;omega)).trans fr,by have:=h.size;omega⟩
 have n1:(⟨w.heap.size+1,0,none⟩:Addr).block≠w.heap.size:=by dsimp only;omega
 have HST:Hid (∀X,Below w1.heap.size w1 X→∀x,(X.setCell ⟨w.heap.size+1,0,none⟩ x).cell? ⟨w.heap.size,0,none⟩=some (.string control)∧(X.setCell ⟨w.heap.size+1,0,none⟩ x).cell? ⟨w.heap.size,1,none⟩=some (.string tag)∧(X.setCell ⟨w.heap.size+1,0,none⟩ x).cell? ⟨w.heap.size,2,none⟩=some (.string query)∧(X.setCell ⟨w.heap.size+1,0,none⟩ x).cell? ⟨w.heap.size,3,none⟩=some (.int .i64 page)∧Below w.heap.size w (X.setCell ⟨w.heap.size+1,0,none⟩ x)):=fun X h x=>by
  obtain⟨g0,g1,g2,g3,gB⟩:=KEEP.out X h
  exact⟨(World.cell?_setCell_far _ ⟨w.heap.size+1,0,none⟩ ⟨w.heap.size,0,none⟩ _ n1).trans g0,(World.cell?_setCell_far _ ⟨w.heap.size+1,0,none⟩ ⟨w.heap.size,1,none⟩ _ n1).trans g1,(World.cell?_setCell_far _ ⟨w.heap.size+1,0,none⟩ ⟨w.heap.size,2,none⟩ _ n1).trans g2,(World.cell?_setCell_far _ ⟨w.heap.size+1,0,none⟩ ⟨w.heap.size,3,none⟩ _ n1).trans g3,gB.setCell (p:=⟨w.heap.size+1,0,none⟩) (Nat.le_succ _) x⟩
 obtain⟨wd,hwd⟩:∃wd,w1.drew=wd:=⟨_,rfl⟩
 have hbd:Below w1.heap.size w1 wd:=by rw[←hwd];exact(Below.refl _ _).drew
 have sd:wd.heap.size=w1.heap.size:=by rw[←hwd];rfl
 have K9:=hide hwd
 have wZ:=hide dG
 have DW:=hide sd
 clear hx1 hw1 bN dG bx1 dV c0 c1 c2 c3 cr fr hwd sd n1
 go_enter Tryz.func192,Tryz.ntmps192
 go_wp2_with fail
 rw[HW1.out]
 have uh:=(Below.refl w1.heap.size w1).drew
 have hwd:=K9.out
 go_region_held3 (fun X=>X.cell? ⟨w.heap.size,0,none⟩=some (.string control)∧X.cell? ⟨w.heap.size,1,none⟩=some (.string tag)∧X.cell? ⟨w.heap.size,2,none⟩=some (.string query)∧X.cell? ⟨w.heap.size,3,none⟩=some (.int .i64 page)∧Below w.heap.size w X)
  (first|with_reducible exact KEEP.out _ uh|with_reducible exact KEEP.out _ hbd|with_reducible exact KEEP.out _ (hbd.alloc hbd.size _)|with_reducible exact KEEP.out _ hB0|with_reducible exact KEEP.out _ hB1|with_reducible exact KEEP.out _ hB2|with_reducible exact KEEP.out _ (hB2.alloc hB2.size _)|with_reducible exact KEEP.out _ hB3|with_reducible exact KEEP.out _ (hB3.alloc hB3.size _)|with_reducible exact KEEP.out _ hB4|with_reducible exact KEEP.out _ (hB4.alloc hB4.size _)|with_reducible exact KEEP.out _ kG|with_reducible exact KEEP.out _ (kG.alloc kG.size _)|with_reducible exact KEEP.out _ mZ|with_reducible exact KEEP.out _ (mZ.alloc mZ.size _)|with_reducible exact KEEP.out _ oo|with_reducible exact KEEP.out _ (oo.alloc oo.size _)|with_reducible exact HST.out _ (oo.alloc oo.size _) _)
  (first
   | (go_at_call 100;refine(HI.out _).mono ?_;rintro e w' ⟨rfl,hw'⟩;rw[hw'];clear hw' w')
   | (go_at_call 86;refine(oh _ [.slice none 0 0,.slice aw3 (ah dt).length kw3] [([]:Field),ah dt] [[],bw3] w1.heap.size v6 mZ.size (Parts.push bO (Parts.vR bO (Parts.nil bP w1.heap.size v5) kG.size (qL v5 none 0)) kG.size hb6 Ck RJ (fun b h=>⟨hfw3 b h,bS.lt dJ Ck b h⟩)) (by simp) (by simp) (oZ (by intro x hx;simp at hx;first|(subst hx;exact .inr ⟨_,rfl⟩)|(rcases hx with rfl|rfl|rfl <;> exact .inr ⟨_,rfl⟩)|(rcases hx with rfl|rfl;exact .inl rfl;exact .inr ⟨_,rfl⟩))) 2 rfl).mono ?_;rintro e v7 ⟨us2,rfl,yH,Jf,RL,Jg,lU⟩;obtain⟨Ld,Le,rfl⟩:=dA Jf;have oo:=aj lU mZ;obtain⟨r0,rf,rl⟩:=jL.out _ (oo.alloc oo.size (Obj.cells #[.string ⟨#[77,83,72]⟩,.slice a2 (aI [⟨#[81,66,80]⟩,⟨#[90,48,49]⟩] control).length k2,.string ⟨#[81,80,68]⟩,.slice G9 (ay List.isEmpty [ah ⟨#[81]⟩,ah tag,ah query]).length He,.string ⟨#[82,67,80]⟩,.slice Ld (ay List.isEmpty [([]:Field),ah dt]).length Le] 54)))
   | (go_at_call 197;refine(dx dt v5 hp).mono ?_;rintro e v6 ⟨uw3,rfl,bw3,Ck,RJ,hfw3,hb6⟩;obtain⟨aw3,kw3,rfl⟩:=dN Ck;have mZ:=aj hb6 kG)
   | (go_at_call 86;refine(oh _ [.slice aw0 (ah ⟨#[81]⟩).length kw0,.slice aw1 (ah tag).length kw1,.slice aw2 (ah query).length kw2] [ah ⟨#[81]⟩,ah tag,ah query] [bw0,dV,bw2] w1.heap.size v4 hB4.size (Parts.push bO (Parts.push bO (Parts.push bO (Parts.nil bP w1.heap.size v1) hB1.size hb2 Cm RN (fun b h=>⟨Jh b h,bS.lt dJ Cm b h⟩)) hB2.size hb3 Co RO (fun b h=>⟨Ji b h,bS.lt dJ Co b h⟩)) hB3.size hb4 Cq RS (fun b h=>⟨hfw2 b h,bS.lt dJ Cq b h⟩)) (by simp) (by simp) (oZ (by intro x hx;simp at hx;first|(subst hx;exact .inr ⟨_,rfl⟩)|(rcases hx with rfl|rfl|rfl <;> exact .inr ⟨_,rfl⟩)|(rcases hx with rfl|rfl;exact .inl rfl;exact .inr ⟨_,rfl⟩))) 3 rfl).mono ?_;rintro e v5 ⟨us1,rfl,Cr,Jj,RU,Jk,hb5⟩;obtain⟨G9,He,rfl⟩:=dA Jj;have kG:=aj hb5 hB4)
   | (go_at_call 197;refine(dx query v3 hq).mono ?_;rintro e v4 ⟨uw2,rfl,bw2,Cq,RS,hfw2,hb4⟩;obtain⟨aw2,kw2,rfl⟩:=dN Cq;have hB4:=aj hb4 hB3)
   | (go_at_call 197;refine(dx tag v2 ht).mono ?_;rintro e v3 ⟨uw1,rfl,dV,Co,RO,Ji,hb3⟩;obtain⟨aw1,kw1,rfl⟩:=dN Co;have hB3:=aj hb3 hB2)
   | (go_at_call 197;refine(dx ⟨#[81]⟩ v1 (by decide)).mono ?_;rintro e v2 ⟨uw0,rfl,bw0,Cm,RN,Jh,hb2⟩;obtain⟨aw0,kw0,rfl⟩:=dN Cm;have hB2:=aj hb2 hB1)
   | (go_at_call 196;refine(kF [⟨#[81,66,80]⟩,⟨#[90,48,49]⟩] control _ bk w1.heap.size v0 F7 (by simp) (by simp) hn1 (fun b h=>⟨by have h1:=(hf1 b h).1;have h2:=DW.out;omega,(hf1 b h).2⟩) hB0.size hc).mono ?_;rintro e v1 ⟨u2,rfl,bh,hO2,hn2,hf2,hb1⟩;obtain⟨a2,k2,rfl⟩:=dA hO2;have hB1:=aj hb1 hB0)
   | (go_at_call 84;refine(AV ⟨#[81,66,80]⟩ ⟨#[90,48,49]⟩ wd (by decide) (by decide) (by decide)).mono ?_;rintro e v0 ⟨u1,rfl,bk,F7,hn1,hf1,hb0⟩;obtain⟨a1,k1,rfl⟩:=ow F7;have hB0:=aj hb0 hbd))
 have hs1:=HB1.out.size
 have hsw:=wZ.out
 have hz0:=hB0.size
 have hy0:=hb0.size
 have hz1:=hB1.size
 have hy1:=hb1.size
 have hz2:=hB2.size
 have hy2:=hb2.size
 have hz3:=hB3.size
 have hy3:=hb3.size
 have MZ:=hB4.size
 have hy4:=hb4.size
 have Xy:=kG.size
 have Uq:=hb5.size
 have hz6:=mZ.size
 have Zc:=hb6.size
 have hz7:=oo.size
 have Zd:=lU.size
 have p1:Parts aN w1.heap.size v1 [.slice a2 (aI [⟨#[81,66,80]⟩,⟨#[90,48,49]⟩] control).length k2] [aI [⟨#[81,66,80]⟩,⟨#[90,48,49]⟩] control] [bh]:=Parts.uV fF (Parts.nil aN w1.heap.size v0) hb1 hO2 hn2 (fun b h=>⟨(hf2 b h).1,(hf2 b h).2.1,by simp⟩)
 have p2:Parts aN w1.heap.size v5 [.slice a2 (aI [⟨#[81,66,80]⟩,⟨#[90,48,49]⟩] control).length k2,.slice G9 (ay List.isEmpty [ah ⟨#[81]⟩,ah tag,ah query]).length He] [aI [⟨#[81,66,80]⟩,⟨#[90,48,49]⟩] control,ay List.isEmpty [ah ⟨#[81]⟩,ah tag,ah query]] [bh,Cr]:=Parts.push fF p1 hz1 (aj (aj (aj (hb5) hb4) hb3) hb2) Jj RU (fun b h=>⟨by
  rcases(Jk b h).2.2 with h'|h'
  ·omega
  ·simp only[List.flatten_cons,List.flatten_nil,List.nil_append,List.append_nil,List.mem_append] at h'
   rcases h' with h'|h'|h'
   ·have:=Jh b h';omega
   ·have:=Ji b h';omega
   ·have:=hfw2 b h';omega,(Jk b h).2.1⟩)
 have p3:Parts aN w1.heap.size v7 [.slice a2 (aI [⟨#[81,66,80]⟩,⟨#[90,48,49]⟩] control).length k2,.slice G9 (ay List.isEmpty [ah ⟨#[81]⟩,ah tag,ah query]).length He,.slice Ld (ay List.isEmpty [([]:Field),ah dt]).length Le] [aI [⟨#[81,66,80]⟩,⟨#[90,48,49]⟩] control,ay List.isEmpty [ah ⟨#[81]⟩,ah tag,ah query],ay List.isEmpty [([]:Field),ah dt]] [bh,Cr,yH]:=Parts.push fF p2 Xy (aj (lU) hb6) Jf RL (fun b h=>⟨by
  rcases(Jg b h).2.2 with h'|h'
  ·omega
  ·simp at h';have:=hfw3 b h';omega,(Jg b h).2.1⟩)
 obtain⟨hS,hN,hin⟩:=M5 (mg control tag query dt) [.slice a2 (aI [⟨#[81,66,80]⟩,⟨#[90,48,49]⟩] control).length k2,.slice G9 (ay List.isEmpty [ah ⟨#[81]⟩,ah tag,ah query]).length He,.slice Ld (ay List.isEmpty [([]:Field),ah dt]).length Le] [bh,Cr,yH] _ v7 p3 (by intro x hx;simp[mg] at hx;rcases hx with rfl|rfl|rfl <;> exact(by decide:(3:Nat)≤9223372036854775807)) (by simp[mg]) (by simp[mg])
 have HS:Hid (∀x,pV ((v7.alloc (.cells (dw (mg control tag query dt) [.slice a2 (aI [⟨#[81,66,80]⟩,⟨#[90,48,49]⟩] control).length k2,.slice G9 (ay List.isEmpty [ah ⟨#[81]⟩,ah tag,ah query]).length He,.slice Ld (ay List.isEmpty [([]:Field),ah dt]).length Le]).toArray 54)).setCell ⟨w.heap.size+1,0,none⟩ x) (.slice (some ⟨v7.heap.size,0,none⟩) 3 3) (mg control tag query dt) (v7.heap.size :: [bh,Cr,yH].flatten)):=fun x =>
  bS.kept iR hS (by rw[Deep.nblk_setCell];exact aS _) fun d hd=>Deep.blk_setCell_other _ ⟨w.heap.size+1,0,none⟩ _ d (by
   rw[List.mem_cons] at hd
   dsimp only
   rcases hd with rfl|hd
   ·omega
   ·have:=(hin d hd).1;omega)
 have HN:=hide hN
 have sQ:=hide (show ∀b∈(v7.heap.size :: [bh,Cr,yH].flatten),w.heap.size≤b by
  intro d hd
  rw[List.mem_cons] at hd
  rcases hd with rfl|hd
  ·omega
  ·have:=(hin d hd).1;omega)
 have jH:Hid (∀o x,Below w.heap.size w ((v7.alloc o).setCell ⟨w.heap.size+1,0,none⟩ x)):=fun o x=>(HST.out _ (oo.alloc oo.size o) x).2.2.2.2
 clear hsw hz0 hy0 hz1 hy1 hz2 hy2 hz3 hy3 MZ hy4 Xy Uq hz6 Zc hz7 Zd
 go_wp2_with fail
 exact bodyPost_ret (v:=.agg #[.slice (some ⟨v7.heap.size,0,none⟩) 3 3]) (by simp[results,Tryz.results192,go_sem,r0,rl]) rfl ⟨_,rfl,_,HS.out _,HN.out,sQ.out,jH.out _ _⟩
end Go.Proofs.YtfdihjnlgdiioaaGreatDoor.dB
