import Derived.Test.YtfdihjnlgdiioaaGreatDoorG24
namespace Go.Proofs.YtfdihjnlgdiioaaGreatDoor.dB
open Go.ChangeShapes Go.WideShapes Go.ChangeAt Go.RowKit
set_option linter.unusedVariables false
set_option linter.unusedSimpArgs false
def nU (ack control tag dt:ByteArray):List Seg:=[⟨⟨#[77,83,72]⟩,aI [⟨#[82,83,80]⟩,⟨#[90,48,49]⟩] ⟨#[]⟩⟩,⟨⟨#[77,83,65]⟩,ay List.isEmpty [ah ack,ah control]⟩,⟨⟨#[69,82,82]⟩,ay List.isEmpty [([]:Field),([]:Field),ah dt]⟩,⟨⟨#[81,65,75]⟩,ay List.isEmpty [ah tag,ah ack]⟩]
set_option maxRecDepth 100000 in
set_option maxHeartbeats 8000000 in
theorem CF (ack control tag dt:ByteArray) (code:Int) (w:World) (ha:ack.size≤1048576) (hc:control.size≤1048576) (ht:tag.size≤1048576) (hd:dt.size≤1048576) (HI:Hid (∀W,Below w.heap.size w W→Calls Tryz.prog 100 #[.int .i64 code] W fun e w'=>e=.returned (.string dt)∧Below W.heap.size W w')) :
  Calls Tryz.prog 212 #[.agg #[.string ack,.string control,.int .i64 code,.string tag]] w (fA w (nU ack control tag dt)):=by
 obtain⟨x1,hx1⟩:∃x1,w.alloc (Obj.cells #[.string ack,.string control,.int .i64 code,.string tag] 122)=x1:=⟨_,rfl⟩
 obtain⟨w1,hw1⟩:∃w1,x1.alloc (Obj.cells #[.slice none 0 0] 28)=w1:=⟨_,rfl⟩
 have bN:x1.heap.size=w.heap.size+1:=by rw[←hx1];simp
 have dG:w1.heap.size=w.heap.size+1+1:=by rw[←hw1];simp[bN]
 have bx1:Below w.heap.size w x1:=by rw[←hx1];exact aO _ _
 have dV:Below x1.heap.size x1 w1:=by rw[←hw1];exact aO _ _
 have c0:w1.cell? ⟨w.heap.size,0,none⟩=some (.string ack):=(dV.cell (p:=⟨w.heap.size,0,none⟩) (by rw[bN];simp)).trans (by rw[←hx1];simp)
 have c1:w1.cell? ⟨w.heap.size,1,none⟩=some (.string control):=(dV.cell (p:=⟨w.heap.size,1,none⟩) (by rw[bN];simp)).trans (by rw[←hx1];simp)
 have c2:w1.cell? ⟨w.heap.size,2,none⟩=some (.int .i64 code):=(dV.cell (p:=⟨w.heap.size,2,none⟩) (by rw[bN];simp)).trans (by rw[←hx1];simp)
 have c3:w1.cell? ⟨w.heap.size,3,none⟩=some (.string tag):=(dV.cell (p:=⟨w.heap.size,3,none⟩) (by rw[bN];simp)).trans (by rw[←hx1];simp)
 have cr:w1.cell? ⟨w.heap.size+1,0,none⟩=some (.slice none 0 0):=by rw[←hw1,←bN];simp
 have fr:w1.frozen? ⟨w.heap.size+1,0,none⟩=false:=by rw[←hw1,←bN];simp
 have HB1:=hide (aJ dV bx1)
 have HW1:Hid ((w.alloc (Obj.cells #[.string ack,.string control,.int .i64 code,.string tag] 122)).alloc (Obj.cells #[.slice none 0 0] 28)=w1):=by rw[hx1];exact hw1
 have KEEP:Hid (∀X,Below w1.heap.size w1 X→X.cell? ⟨w.heap.size,0,none⟩=some (.string ack)∧X.cell? ⟨w.heap.size,1,none⟩=some (.string control)∧X.cell? ⟨w.heap.size,2,none⟩=some (.int .i64 code)∧X.cell? ⟨w.heap.size,3,none⟩=some (.string tag)∧Below w.heap.size w X):=fun X h =>
  ⟨(h.cell (p:=⟨w.heap.size,0,none⟩) (by rw[dG];dsimp only;omega)).trans c0,(h.cell (p:=⟨w.heap.size,1,none⟩) (by rw[dG];dsimp only;omega)).trans c1,(h.cell (p:=⟨w.heap.size,2,none⟩) (by rw[dG];dsimp only;omega)).trans c2,(h.cell (p:=⟨w.heap.size,3,none⟩) (by rw[dG];dsimp only;omega)).trans c3,aJ h HB1.out⟩
 have jL:Hid (∀X,Below w1.heap.size w1 X→X.cell? ⟨w.heap.size+1,0,none⟩=some (.slice none 0 0)∧X.frozen? ⟨w.heap.size+1,0,none⟩=false∧w.heap.size+1<X.heap.size):=fun X h =>
  ⟨(h.cell (p:=⟨w.heap.size+1,0,none⟩) (by rw[dG];dsimp only;omega)).trans cr,(h.frozen (p:=⟨w.heap.size+1,0,none⟩) (by rw[dG];dsimp only;omega)).trans fr,by have:=h.size;omega⟩
 have n1:(⟨w.heap.size+1,0,none⟩:Addr).block≠w.heap.size:=by dsimp only;omega
 have HST:Hid (∀X,Below w1.heap.size w1 X→∀x,(X.setCell ⟨w.heap.size+1,0,none⟩ x).cell? ⟨w.heap.size,0,none⟩=some (.string ack)∧(X.setCell ⟨w.heap.size+1,0,none⟩ x).cell? ⟨w.heap.size,1,none⟩=some (.string control)∧(X.setCell ⟨w.heap.size+1,0,none⟩ x).cell? ⟨w.heap.size,2,none⟩=some (.int .i64 code)∧(X.setCell ⟨w.heap.size+1,0,none⟩ x).cell? ⟨w.heap.size,3,none⟩=some (.string tag)∧Below w.heap.size w (X.setCell ⟨w.heap.size+1,0,none⟩ x)):=fun X h x=>by
  obtain⟨g0,g1,g2,g3,gB⟩:=KEEP.out X h
  exact⟨(World.cell?_setCell_far _ ⟨w.heap.size+1,0,none⟩ ⟨w.heap.size,0,none⟩ _ n1).trans g0,(World.cell?_setCell_far _ ⟨w.heap.size+1,0,none⟩ ⟨w.heap.size,1,none⟩ _ n1).trans g1,(World.cell?_setCell_far _ ⟨w.heap.size+1,0,none⟩ ⟨w.heap.size,2,none⟩ _ n1).trans g2,(World.cell?_setCell_far _ ⟨w.heap.size+1,0,none⟩ ⟨w.heap.size,3,none⟩ _ n1).trans g3,gB.setCell (p:=⟨w.heap.size+1,0,none⟩) (Nat.le_succ _) x⟩
 obtain⟨wd,hwd⟩:∃wd,w1.drew=wd:=⟨_,rfl⟩
 have hbd:Below w1.heap.size w1 wd:=by rw[←hwd];exact(Below.refl _ _).drew
 have sd:wd.heap.size=w1.heap.size:=by rw[←hwd];rfl
 have K9:=hide hwd
 have wZ:=hide dG
 have DW:=hide sd
 clear hx1 hw1 bN dG bx1 dV c0 c1 c2 c3 cr fr hwd sd n1
 go_enter Tryz.func212,Tryz.ntmps212
 go_wp2_with fail
 rw[HW1.out]
 have uh:=(Below.refl w1.heap.size w1).drew
 have hwd:=K9.out
 go_region_held3 (fun X=>X.cell? ⟨w.heap.size,0,none⟩=some (.string ack)∧X.cell? ⟨w.heap.size,1,none⟩=some (.string control)∧X.cell? ⟨w.heap.size,2,none⟩=some (.int .i64 code)∧X.cell? ⟨w.heap.size,3,none⟩=some (.string tag)∧Below w.heap.size w X)
  (first|with_reducible exact KEEP.out _ uh|with_reducible exact KEEP.out _ hbd|with_reducible exact KEEP.out _ (hbd.alloc hbd.size _)|with_reducible exact KEEP.out _ hB0|with_reducible exact KEEP.out _ hB1|with_reducible exact KEEP.out _ hB2|with_reducible exact KEEP.out _ (hB2.alloc hB2.size _)|with_reducible exact KEEP.out _ hB3|with_reducible exact KEEP.out _ (hB3.alloc hB3.size _)|with_reducible exact KEEP.out _ hB4|with_reducible exact KEEP.out _ (hB4.alloc hB4.size _)|with_reducible exact KEEP.out _ kG|with_reducible exact KEEP.out _ (kG.alloc kG.size _)|with_reducible exact KEEP.out _ mZ|with_reducible exact KEEP.out _ (mZ.alloc mZ.size _)|with_reducible exact KEEP.out _ oo|with_reducible exact KEEP.out _ (oo.alloc oo.size _)|with_reducible exact KEEP.out _ kX|with_reducible exact KEEP.out _ (kX.alloc kX.size _)|with_reducible exact KEEP.out _ nX|with_reducible exact KEEP.out _ (nX.alloc nX.size _)|with_reducible exact KEEP.out _ sM|with_reducible exact KEEP.out _ (sM.alloc sM.size _)|with_reducible exact HST.out _ (sM.alloc sM.size _) _)
  (first
   | (go_at_call 86;refine(oh _ [.slice aw3 (ah tag).length kw3,.slice aw4 (ah ack).length kw4] [ah tag,ah ack] [bw3,bw4] w1.heap.size v9 nX.size (Parts.push bO (Parts.push bO (Parts.nil bP w1.heap.size v7) oo.size nI Ck RJ (fun b h=>⟨hfw3 b h,bS.lt dJ Ck b h⟩)) kX.size ou Zy aeP (fun b h=>⟨abP b h,bS.lt dJ Zy b h⟩)) (by simp) (by simp) (oZ (by intro x hx;simp at hx;first|(subst hx;exact .inr ⟨_,rfl⟩)|(rcases hx with rfl|rfl;exact .inr ⟨_,rfl⟩;exact .inr ⟨_,rfl⟩)|(rcases hx with rfl|rfl;exact .inl rfl;exact .inr ⟨_,rfl⟩))) 2 rfl).mono ?_;rintro e v10 ⟨us3,rfl,XC,abQ,aeQ,abR,nQ⟩;obtain⟨as3,ks3,rfl⟩:=dA abQ;have sM:=aj nQ nX;obtain⟨r0,rf,rl⟩:=jL.out _ (sM.alloc sM.size (Obj.cells #[.string ⟨#[77,83,72]⟩,.slice a2 (aI [⟨#[82,83,80]⟩,⟨#[90,48,49]⟩] ⟨#[]⟩).length k2,.string ⟨#[77,83,65]⟩,.slice G9 (ay List.isEmpty [ah ack,ah control]).length He,.string ⟨#[69,82,82]⟩,.slice Ld (ay List.isEmpty [([]:Field),([]:Field),ah dt]).length Le,.string ⟨#[81,65,75]⟩,.slice as3 (ay List.isEmpty [ah tag,ah ack]).length ks3] 54)))
   | (go_at_call 197;refine(dx ack v8 ha).mono ?_;rintro e v9 ⟨uw4,rfl,bw4,Zy,aeP,abP,ou⟩;obtain⟨aw4,kw4,rfl⟩:=dN Zy;have nX:=aj ou kX)
   | (go_at_call 197;refine(dx tag v7 ht).mono ?_;rintro e v8 ⟨uw3,rfl,bw3,Ck,RJ,hfw3,nI⟩;obtain⟨aw3,kw3,rfl⟩:=dN Ck;have kX:=aj nI oo)
   | (go_at_call 86;refine(oh _ [.slice none 0 0,.slice none 0 0,.slice aw2 (ah dt).length kw2] [([]:Field),([]:Field),ah dt] [[],[],bw2] w1.heap.size v6 mZ.size (Parts.push bO (Parts.vR bO (Parts.vR bO (Parts.nil bP w1.heap.size v4) hB4.size (qL v4 none 0)) hB4.size (qL v4 none 0)) hB4.size (aj hb6 hb5) Cq RS (fun b h=>⟨Nat.le_trans hb5.size (hfw2 b h),bS.lt dJ Cq b h⟩)) (by simp) (by simp) (oZ (by intro x hx;simp at hx;first|(subst hx;exact .inr ⟨_,rfl⟩)|(rcases hx with rfl|rfl;exact .inr ⟨_,rfl⟩;exact .inr ⟨_,rfl⟩)|(rcases hx with rfl|rfl;exact .inl rfl;exact .inr ⟨_,rfl⟩))) 3 rfl).mono ?_;rintro e v7 ⟨us2,rfl,yH,Jf,RL,Jg,lU⟩;obtain⟨Ld,Le,rfl⟩:=dA Jf;have oo:=aj lU mZ)
   | (go_at_call 197;refine(dx dt v5 hd).mono ?_;rintro e v6 ⟨uw2,rfl,bw2,Cq,RS,hfw2,hb6⟩;obtain⟨aw2,kw2,rfl⟩:=dN Cq;have mZ:=aj hb6 kG)
   | (go_at_call 100;refine(HI.out v4 (KEEP.out _ hB4).2.2.2.2).mono ?_;rintro e v5 ⟨rfl,hb5⟩;have kG:=aj hb5 hB4)
   | (go_at_call 86;refine(oh _ [.slice aw0 (ah ack).length kw0,.slice aw1 (ah control).length kw1] [ah ack,ah control] [bw0,dV] w1.heap.size v3 hB3.size (Parts.push bO (Parts.push bO (Parts.nil bP w1.heap.size v1) hB1.size hb2 Cm RN (fun b h=>⟨Jh b h,bS.lt dJ Cm b h⟩)) hB2.size hb3 Co RO (fun b h=>⟨Ji b h,bS.lt dJ Co b h⟩)) (by simp) (by simp) (oZ (by intro x hx;simp at hx;first|(subst hx;exact .inr ⟨_,rfl⟩)|(rcases hx with rfl|rfl;exact .inr ⟨_,rfl⟩;exact .inr ⟨_,rfl⟩)|(rcases hx with rfl|rfl;exact .inl rfl;exact .inr ⟨_,rfl⟩))) 2 rfl).mono ?_;rintro e v4 ⟨us1,rfl,Cr,Jj,RU,Jk,hb4⟩;obtain⟨G9,He,rfl⟩:=dA Jj;have hB4:=aj hb4 hB3)
   | (go_at_call 197;refine(dx control v2 hc).mono ?_;rintro e v3 ⟨uw1,rfl,dV,Co,RO,Ji,hb3⟩;obtain⟨aw1,kw1,rfl⟩:=dN Co;have hB3:=aj hb3 hB2)
   | (go_at_call 197;refine(dx ack v1 ha).mono ?_;rintro e v2 ⟨uw0,rfl,bw0,Cm,RN,Jh,hb2⟩;obtain⟨aw0,kw0,rfl⟩:=dN Cm;have hB2:=aj hb2 hB1)
   | (go_at_call 196;refine(kF [⟨#[82,83,80]⟩,⟨#[90,48,49]⟩] ⟨#[]⟩ _ bk w1.heap.size v0 F7 (by simp) (by simp) hn1 (fun b h=>⟨by have h1:=(hf1 b h).1;have h2:=DW.out;omega,(hf1 b h).2⟩) hB0.size (by decide)).mono ?_;rintro e v1 ⟨u2,rfl,bh,hO2,hn2,hf2,hb1⟩;obtain⟨a2,k2,rfl⟩:=dA hO2;have hB1:=aj hb1 hB0)
   | (go_at_call 84;refine(AV ⟨#[82,83,80]⟩ ⟨#[90,48,49]⟩ wd (by decide) (by decide) (by decide)).mono ?_;rintro e v0 ⟨u1,rfl,bk,F7,hn1,hf1,hb0⟩;obtain⟨a1,k1,rfl⟩:=ow F7;have hB0:=aj hb0 hbd))
 have hs1:=HB1.out.size
 have hsw:=wZ.out
 have hz0:=hB0.size
 have hy0:=hb0.size
 have hz1:=hB1.size
 have hy1:=hb1.size
 have hz2:=hB2.size
 have hy2:=hb2.size
 have hz3:=hB3.size
 have hy3:=hb3.size
 have MZ:=hB4.size
 have hy4:=hb4.size
 have Xy:=kG.size
 have Uq:=hb5.size
 have hz6:=mZ.size
 have Zc:=hb6.size
 have hz7:=oo.size
 have Zd:=lU.size
 have Hf:=kX.size
 have hy8:=nI.size
 have hz9:=nX.size
 have hy9:=ou.size
 have aeR:=sM.size
 have aeS:=nQ.size
 have p1:Parts aN w1.heap.size v1 [.slice a2 (aI [⟨#[82,83,80]⟩,⟨#[90,48,49]⟩] ⟨#[]⟩).length k2] [aI [⟨#[82,83,80]⟩,⟨#[90,48,49]⟩] ⟨#[]⟩] [bh]:=Parts.uV fF (Parts.nil aN w1.heap.size v0) hb1 hO2 hn2 (fun b h=>⟨(hf2 b h).1,(hf2 b h).2.1,by simp⟩)
 have p2:Parts aN w1.heap.size v4 [.slice a2 (aI [⟨#[82,83,80]⟩,⟨#[90,48,49]⟩] ⟨#[]⟩).length k2,.slice G9 (ay List.isEmpty [ah ack,ah control]).length He] [aI [⟨#[82,83,80]⟩,⟨#[90,48,49]⟩] ⟨#[]⟩,ay List.isEmpty [ah ack,ah control]] [bh,Cr]:=Parts.push fF p1 hz1 (aj (aj (hb4) hb3) hb2) Jj RU (fun b h=>⟨by
  rcases(Jk b h).2.2 with h'|h'
  ·omega
  ·simp only[List.flatten_cons,List.flatten_nil,List.nil_append,List.append_nil,List.mem_append] at h'
   rcases h' with h'|h'
   ·have:=Jh b h';omega
   ·have:=Ji b h';omega,(Jk b h).2.1⟩)
 have p3:Parts aN w1.heap.size v7 [.slice a2 (aI [⟨#[82,83,80]⟩,⟨#[90,48,49]⟩] ⟨#[]⟩).length k2,.slice G9 (ay List.isEmpty [ah ack,ah control]).length He,.slice Ld (ay List.isEmpty [([]:Field),([]:Field),ah dt]).length Le] [aI [⟨#[82,83,80]⟩,⟨#[90,48,49]⟩] ⟨#[]⟩,ay List.isEmpty [ah ack,ah control],ay List.isEmpty [([]:Field),([]:Field),ah dt]] [bh,Cr,yH]:=Parts.push fF p2 MZ (aj (aj (lU) hb6) hb5) Jf RL (fun b h=>⟨by
  rcases(Jg b h).2.2 with h'|h'
  ·omega
  ·simp at h';have:=hfw2 b h';omega,(Jg b h).2.1⟩)
 have p4:Parts aN w1.heap.size v10 [.slice a2 (aI [⟨#[82,83,80]⟩,⟨#[90,48,49]⟩] ⟨#[]⟩).length k2,.slice G9 (ay List.isEmpty [ah ack,ah control]).length He,.slice Ld (ay List.isEmpty [([]:Field),([]:Field),ah dt]).length Le,.slice as3 (ay List.isEmpty [ah tag,ah ack]).length ks3] [aI [⟨#[82,83,80]⟩,⟨#[90,48,49]⟩] ⟨#[]⟩,ay List.isEmpty [ah ack,ah control],ay List.isEmpty [([]:Field),([]:Field),ah dt],ay List.isEmpty [ah tag,ah ack]] [bh,Cr,yH,XC]:=Parts.push fF p3 hz7 (aj (aj (nQ) ou) nI) abQ aeQ (fun b h=>⟨by
  rcases(abR b h).2.2 with h'|h'
  ·omega
  ·simp only[List.flatten_cons,List.flatten_nil,List.nil_append,List.append_nil,List.mem_append] at h'
   rcases h' with h'|h'
   ·have:=hfw3 b h';omega
   ·have:=abP b h';omega,(abR b h).2.1⟩)
 obtain⟨hS,hN,hin⟩:=M5 (nU ack control tag dt) [.slice a2 (aI [⟨#[82,83,80]⟩,⟨#[90,48,49]⟩] ⟨#[]⟩).length k2,.slice G9 (ay List.isEmpty [ah ack,ah control]).length He,.slice Ld (ay List.isEmpty [([]:Field),([]:Field),ah dt]).length Le,.slice as3 (ay List.isEmpty [ah tag,ah ack]).length ks3] [bh,Cr,yH,XC] _ v10 p4 (by intro x hx;simp[nU] at hx;rcases hx with rfl|rfl|rfl|rfl <;> exact(by decide:(3:Nat)≤9223372036854775807)) (by simp[nU]) (by simp[nU])
 have HS:Hid (∀x,pV ((v10.alloc (.cells (dw (nU ack control tag dt) [.slice a2 (aI [⟨#[82,83,80]⟩,⟨#[90,48,49]⟩] ⟨#[]⟩).length k2,.slice G9 (ay List.isEmpty [ah ack,ah control]).length He,.slice Ld (ay List.isEmpty [([]:Field),([]:Field),ah dt]).length Le,.slice as3 (ay List.isEmpty [ah tag,ah ack]).length ks3]).toArray 54)).setCell ⟨w.heap.size+1,0,none⟩ x) (.slice (some ⟨v10.heap.size,0,none⟩) 4 4) (nU ack control tag dt) (v10.heap.size :: [bh,Cr,yH,XC].flatten)):=fun x =>
  bS.kept iR hS (by rw[Deep.nblk_setCell];exact aS _) fun d hd=>Deep.blk_setCell_other _ ⟨w.heap.size+1,0,none⟩ _ d (by
   rw[List.mem_cons] at hd
   dsimp only
   rcases hd with rfl|hd
   ·omega
   ·have:=(hin d hd).1;omega)
 have HN:=hide hN
 have sQ:=hide (show ∀b∈(v10.heap.size :: [bh,Cr,yH,XC].flatten),w.heap.size≤b by
  intro d hd
  rw[List.mem_cons] at hd
  rcases hd with rfl|hd
  ·omega
  ·have:=(hin d hd).1;omega)
 have jH:Hid (∀o x,Below w.heap.size w ((v10.alloc o).setCell ⟨w.heap.size+1,0,none⟩ x)):=fun o x=>(HST.out _ (sM.alloc sM.size o) x).2.2.2.2
 clear hsw hz0 hy0 hz1 hy1 hz2 hy2 hz3 hy3 MZ hy4 Xy Uq hz6 Zc hz7 Zd Hf hy8 hz9 hy9 aeR aeS
 go_wp2_with fail
 exact bodyPost_ret (v:=.agg #[.slice (some ⟨v10.heap.size,0,none⟩) 4 4]) (by simp[results,Tryz.results212,go_sem,r0,rl]) rfl ⟨_,rfl,_,HS.out _,HN.out,sQ.out,jH.out _ _⟩
end Go.Proofs.YtfdihjnlgdiioaaGreatDoor.dB
namespace Go.Proofs.YtfdihjnlgdiioaaGreatDoor.dB
set_option linter.unusedVariables false
set_option linter.unusedSimpArgs false
theorem zV {α:Type} (p:α→Bool):∀(xs:List α) (m:Nat),aK p xs=m+1→∃h:m<xs.length,p xs[m]=false
 | [],m,h=>by simp[aK] at h
 | x :: xs,m,h=>by
  simp only[aK] at h
  cases hk:aK p xs with
  | zero =>
   rw[hk] at h
   simp only at h
   cases hp:p x
   ·rw[hp] at h
    simp at h
    subst h
    exact⟨by simp,by simpa using hp⟩
   ·rw[hp] at h
    simp at h
  | succ n =>
   rw[hk] at h
   simp only at h
   obtain rfl:m=n+1:=by omega
   obtain⟨h1,h2⟩:=zV p xs n hk
   exact⟨by simp;omega,by simpa using h2⟩
theorem Sj (xs:List Field):iT List.length (ay List.isEmpty xs)=true:=by
 cases hm:aK List.isEmpty xs with
 | zero=>unfold ay;rw[hm];rfl
 | succ m =>
  obtain⟨h1,h2⟩:=zV List.isEmpty xs m hm
  have hl:(ay List.isEmpty xs).length=m+1:=by unfold ay;rw[hm,List.length_take];omega
  rw[pW List.length _ (by omega),decide_eq_true_eq]
  have e:(ay List.isEmpty xs)[(ay List.isEmpty xs).length - 1]'(by omega)=xs[m]:=by
   unfold ay
   rw[List.getElem_take]
   congr 1
   rw[List.length_take,hm]
   omega
  rw[e]
  cases hx:xs[m] with
  | nil=>rw[hx] at h2;cases h2
  | cons a r=>simp
theorem uy (s:ByteArray) (hp:dI s=true) (hz:s.size≤40000):gW (ah s)=true:=by
 unfold ah
 split
 ·rfl
 ·rename_i h
  unfold gW tL sJ nW iT
  simp[hp,hz,tL,sJ,nW,iT]
  omega
theorem abS (xs:List Field) (hl:xs.length≤30) (h:∀f∈xs,gW f=true):(sJ 30 List.length (ay List.isEmpty xs) && (ay List.isEmpty xs).all gW)=true:=by
 have h1:(ay List.isEmpty xs).length≤30:=by unfold ay;rw[List.length_take];omega
 unfold sJ
 rw[Sj,decide_eq_true h1,Bool.true_and,Bool.true_and,List.all_eq_true]
 intro f hf
 unfold ay at hf
 exact h f (List.mem_of_mem_take hf)
theorem kY (s:ByteArray):aF (ah s)≤2+s.size:=by
 unfold ah
 split
 ·simp[aF,aH,sumOf]
 ·simp[aF,aH,sumOf,iw,pU];omega
theorem Zz (xs:List Field):aH aF (ay List.isEmpty xs)≤aH aF xs:=by
 have h1:=FI aF xs (aK List.isEmpty xs)
 unfold aH ay
 rw[List.length_take]
 omega
theorem Gd (kg:List Seg) (h1:1≤kg.length) (h2:kg.length≤10) (hp:Places kg kg.length) (hs:sumOf bB kg≤3000):dW kg=true∧aT kg≤1048576:=by
 refine⟨E5 kg h1 (by omega) hp ?_,by have e:aT kg=kg.length+sumOf bB kg:=rfl;omega⟩
 rw[List.take_length]
 have:∀xs:List Seg,(iV xs).length≤6 * xs.length+3 * sumOf bB xs:=by
  intro xs
  induction xs with
  | nil=>simp[iV,sumOf]
  | cons x r ih =>
   have hx:=Cc x
   unfold iV at ih ⊢
   unfold sumOf at ih ⊢
   rw[List.flatMap_cons,List.length_append,List.map_cons,List.sum_cons,List.length_cons]
   omega
 have:=this kg
 omega
theorem jT {lo hi:Nat} {s:ByteArray} (h:kW lo hi s=true):dI s=true∧s.size≤hi:=by
 unfold kW at h
 simp only[Bool.and_eq_true,decide_eq_true_eq] at h
 exact⟨h.2.2,h.2.1⟩
theorem oz (name:ByteArray) (xs:List Field) (hn:dY name=true) (hl:xs.length≤30) (h:∀f∈xs,gW f=true):rD ⟨name,ay List.isEmpty xs⟩=true:=by
 unfold rD
 rw[abS xs hl h,hn]
 rfl
theorem Sk (kr:lW) (ctl:ByteArray) (hk:gW [kr]=true) (hc:dI ctl=true) (hz:ctl.size≤40000):rD ⟨⟨#[77,83,72]⟩,aI kr ctl⟩=true:=by
 have h:=oz ⟨#[77,83,72]⟩ (aI kr ctl) (by decide) (by simp[aI]) (fun f hf=>by
  simp only[aI,List.mem_cons,List.not_mem_nil,or_false] at hf
  rcases hf with rfl|rfl|rfl|rfl|rfl|rfl|rfl|rfl|rfl|rfl
  ·rfl
  ·rfl
  ·rfl
  ·rfl
  ·rfl
  ·rfl
  ·exact hk
  ·exact uy ctl hc hz
  ·rfl
  ·exact uy wL (by decide) (by decide))
 rw[Ca] at h
 exact h
theorem Gf (kr:lW) (ctl:ByteArray):bB ⟨⟨#[77,83,72]⟩,aI kr ctl⟩≤60+iw kr+ctl.size:=by
 have h1:=kY ctl
 have h2:=kY wL
 have h3:wL.size=5:=rfl
 have h4:(⟨#[77,83,72]⟩:ByteArray).size=3:=rfl
 have h5:aF ([]:Field)=0:=rfl
 have h6:aF [kr]=1+iw kr:=by simp[aF,aH,sumOf]
 unfold bB aH sumOf aI
 simp only[List.map_cons,List.map_nil,List.sum_cons,List.sum_nil,List.length_cons,List.length_nil,h5,h6,h4]
 omega
theorem lI (name:ByteArray) (xs:List Field):bB ⟨name,ay List.isEmpty xs⟩≤name.size+aH aF xs:=by
 have:=Zz xs
 unfold bB
 simp only
 omega
theorem uz (a b c:UInt8):ig ⟨#[a,b,c]⟩=([a,b,c] == [77,83,72]):=by unfold ig;rw[ByteArray.toList_eq]
theorem Lv (x:Seg) (h:rD x=true) (hm:ig x.name=true):l8 0 x=true:=by unfold l8;rw[h,hm];rfl
theorem CG (k:Nat) (x:Seg) (h:rD x=true) (hm:ig x.name=false):l8 (k+1) x=true:=by unfold l8;rw[h,hm];rfl
theorem CJ (control tag:ByteArray) (hc:aL control=true) (ht:fH tag=true):dW (fI control tag)=true∧aT (fI control tag)≤1048576:=by
 obtain⟨c1,c2⟩:=jT hc
 obtain⟨t1,t2⟩:=jT ht
 have i1:=Sk [⟨#[81,67,78]⟩,⟨#[74,48,49]⟩] control (by decide) c1 (by omega)
 have i2:=oz ⟨#[81,73,68]⟩ [ah tag] (by decide) (by simp) (fun f hf=>by simp at hf;subst hf;exact uy tag t1 (by omega))
 refine Gd _ (by simp[fI]) (by simp[fI]) ?_ ?_
 ·intro j hj _
  have hj':j<2:=hj
  match j,hj' with
  | 0,_=>exact Lv _ i1 (uz 77 83 72)
  | 1,_=>exact CG 0 _ i2 (uz 81 73 68)
 ·have s1:=Gf [⟨#[81,67,78]⟩,⟨#[74,48,49]⟩] control
  have s2:=lI ⟨#[81,73,68]⟩ [ah tag]
  have s3:iw [⟨#[81,67,78]⟩,⟨#[74,48,49]⟩]=8:=rfl
  have s4:(⟨#[81,73,68]⟩:ByteArray).size=3:=rfl
  have s5:=kY tag
  have s6:aH aF [ah tag]=1+aF (ah tag):=by simp[aH,sumOf]
  unfold sumOf fI
  simp only[List.map_cons,List.map_nil,List.sum_cons,List.sum_nil]
  omega
theorem Jr (control tag query pointer:ByteArray) (hc:aL control=true) (ht:fH tag=true) (hq:aW query=true) (hp:aW pointer=true):dW (iC control tag query pointer)=true∧aT (iC control tag query pointer)≤1048576:=by
 obtain⟨c1,c2⟩:=jT hc
 obtain⟨t1,t2⟩:=jT ht
 obtain⟨q1,q2⟩:=jT hq
 obtain⟨p1,p2⟩:=jT hp
 have i1:=Sk [⟨#[81,66,80]⟩,⟨#[90,48,49]⟩] control (by decide) c1 (by omega)
 have i2:=oz ⟨#[81,80,68]⟩ [ah ⟨#[81]⟩,ah tag,ah query] (by decide) (by simp) (fun f hf=>by
  simp at hf
  rcases hf with rfl|rfl|rfl
  ·exact uy _ (by decide) (by decide)
  ·exact uy tag t1 (by omega)
  ·exact uy query q1 (by omega))
 have i3:=oz ⟨#[68,83,67]⟩ [ah pointer] (by decide) (by simp) (fun f hf=>by simp at hf;subst hf;exact uy pointer p1 (by omega))
 refine Gd _ (by simp[iC]) (by simp[iC]) ?_ ?_
 ·intro j hj _
  have hj':j<3:=hj
  match j,hj' with
  | 0,_=>exact Lv _ i1 (uz 77 83 72)
  | 1,_=>exact CG 0 _ i2 (uz 81 80 68)
  | 2,_=>exact CG 1 _ i3 (uz 68 83 67)
 ·have s1:=Gf [⟨#[81,66,80]⟩,⟨#[90,48,49]⟩] control
  have s2:=lI ⟨#[81,80,68]⟩ [ah ⟨#[81]⟩,ah tag,ah query]
  have s3:iw [⟨#[81,66,80]⟩,⟨#[90,48,49]⟩]=8:=rfl
  have s4:(⟨#[81,80,68]⟩:ByteArray).size=3:=rfl
  have s5:=kY tag
  have s6:aH aF [ah ⟨#[81]⟩,ah tag,ah query]=3+(aF (ah ⟨#[81]⟩)+(aF (ah tag)+aF (ah query))):=by simp[aH,sumOf]
  have s7:=kY query
  have s8:=kY pointer
  have s9:=kY ⟨#[81]⟩
  have s10:(⟨#[81]⟩:ByteArray).size=1:=rfl
  have s11:=lI ⟨#[68,83,67]⟩ [ah pointer]
  have s12:(⟨#[68,83,67]⟩:ByteArray).size=3:=rfl
  have s13:aH aF [ah pointer]=1+aF (ah pointer):=by simp[aH,sumOf]
  unfold sumOf iC
  simp only[List.map_cons,List.map_nil,List.sum_cons,List.sum_nil]
  omega
theorem M9 (control tag query dt:ByteArray) (hc:aL control=true) (ht:fH tag=true) (hq:aW query=true) (hp:dI dt=true) (hd:dt.size≤20):dW (mg control tag query dt)=true∧aT (mg control tag query dt)≤1048576:=by
 obtain⟨c1,c2⟩:=jT hc
 obtain⟨t1,t2⟩:=jT ht
 obtain⟨q1,q2⟩:=jT hq
 have i1:=Sk [⟨#[81,66,80]⟩,⟨#[90,48,49]⟩] control (by decide) c1 (by omega)
 have i2:=oz ⟨#[81,80,68]⟩ [ah ⟨#[81]⟩,ah tag,ah query] (by decide) (by simp) (fun f hf=>by
  simp at hf
  rcases hf with rfl|rfl|rfl
  ·exact uy _ (by decide) (by decide)
  ·exact uy tag t1 (by omega)
  ·exact uy query q1 (by omega))
 have i3:=oz ⟨#[82,67,80]⟩ [([]:Field),ah dt] (by decide) (by simp) (fun f hf=>by
  simp at hf
  rcases hf with rfl|rfl
  ·rfl
  ·exact uy dt hp (by omega))
 refine Gd _ (by simp[mg]) (by simp[mg]) ?_ ?_
 ·intro j hj _
  have hj':j<3:=hj
  match j,hj' with
  | 0,_=>exact Lv _ i1 (uz 77 83 72)
  | 1,_=>exact CG 0 _ i2 (uz 81 80 68)
  | 2,_=>exact CG 1 _ i3 (uz 82 67 80)
 ·have s1:=Gf [⟨#[81,66,80]⟩,⟨#[90,48,49]⟩] control
  have s2:=lI ⟨#[81,80,68]⟩ [ah ⟨#[81]⟩,ah tag,ah query]
  have s3:iw [⟨#[81,66,80]⟩,⟨#[90,48,49]⟩]=8:=rfl
  have s4:(⟨#[81,80,68]⟩:ByteArray).size=3:=rfl
  have s5:=kY tag
  have s6:aH aF [ah ⟨#[81]⟩,ah tag,ah query]=3+(aF (ah ⟨#[81]⟩)+(aF (ah tag)+aF (ah query))):=by simp[aH,sumOf]
  have s7:=kY query
  have s8:=kY dt
  have s9:=kY ⟨#[81]⟩
  have s10:(⟨#[81]⟩:ByteArray).size=1:=rfl
  have s11:=lI ⟨#[82,67,80]⟩ [([]:Field),ah dt]
  have s12:(⟨#[82,67,80]⟩:ByteArray).size=3:=rfl
  have s13:aH aF [([]:Field),ah dt]=2+(aF ([]:Field)+aF (ah dt)):=by simp[aH,sumOf]
  have s14:aF ([]:Field)=0:=rfl
  unfold sumOf mg
  simp only[List.map_cons,List.map_nil,List.sum_cons,List.sum_nil]
  omega
end Go.Proofs.YtfdihjnlgdiioaaGreatDoor.dB
namespace Go.Proofs.YtfdihjnlgdiioaaGreatDoor.dB
open Go.ChangeShapes Go.WideShapes Go.ChangeAt Go.RowKit
set_option linter.unusedVariables false
set_option linter.unusedSimpArgs false
def iZ (s:ByteArray):Seg:=⟨⟨#[82,68,84]⟩,ay List.isEmpty [ah s]⟩
def wO (s:ByteArray):Seg:=⟨⟨#[68,83,67]⟩,ay List.isEmpty [ah s]⟩
def sN (p:ByteArray):List Seg:=if p.size=0 then [] else [wO p]
def mD:Seg:=⟨⟨#[77,83,72]⟩,aI [⟨#[82,83,80]⟩,⟨#[90,48,49]⟩] ⟨#[]⟩⟩
def mF (ack control:ByteArray):Seg:=⟨⟨#[77,83,65]⟩,ay List.isEmpty [ah ack,ah control]⟩
def nV (tag st:ByteArray):Seg:=⟨⟨#[81,65,75]⟩,ay List.isEmpty [ah tag,ah st]⟩
def Eh (dt:ByteArray):Seg:=⟨⟨#[69,82,82]⟩,ay List.isEmpty [([]:Field),([]:Field),ah dt]⟩
def kH (control tag:ByteArray) (rows:List ByteArray) (pointer:ByteArray):List Seg:=[mD,mF ⟨#[65,65]⟩ control,nV tag ⟨#[79,75]⟩]++rows.map iZ++sN pointer
theorem Na (ack control tag dt:ByteArray):nU ack control tag dt=[mD,mF ack control,Eh dt,nV tag ack]:=rfl
def iD (r:jM):Bool:=fB r.control r.tag && (aW r.pointer && (lH r.rows 200 && (if sK r.ack then decide (r.code=0) else (M7 r.ack || M8 r.ack) && (decide (1≤r.code) && (decide (r.code≤999) && (decide (r.rows.length=0) && decide (r.pointer.size=0)))))))
def lJ (r:jM):List Seg:=if sK r.ack then kH r.control r.tag r.rows r.pointer else nU r.ack r.control r.tag (bR r.code.toNat)
def gq (xs:List Seg):List Seg:=if dW xs then xs else []
def fE (r:jM):List Seg:=if iD r then gq (lJ r) else []
theorem Js {c t:ByteArray} (h:fB c t=true):c.size≤20∧t.size≤16:=by
 unfold fB at h
 simp only[Bool.and_eq_true,Bool.or_eq_true,decide_eq_true_eq] at h
 refine⟨?_,?_⟩
 ·rcases h.1 with h|h
  ·omega
  ·exact(jT h).2
 ·rcases h.2 with h|h
  ·omega
  ·exact(jT h).2
theorem Gg {rows:List ByteArray} (h:lH rows 200=true):rows.length≤200∧∀s∈rows,s.size≤200:=by
 unfold lH at h
 simp only[Bool.and_eq_true,decide_eq_true_eq,List.all_eq_true] at h
 exact⟨h.1,fun s hs=>(jT (h.2 s hs)).2⟩
theorem Sl (name s:ByteArray):bB ⟨name,ay List.isEmpty [ah s]⟩≤name.size+3+s.size:=by
 have h1:=lI name [ah s]
 have h2:aH aF [ah s]=1+aF (ah s):=by simp[aH,sumOf]
 have h3:=kY s
 omega
theorem Gh (name s t:ByteArray):bB ⟨name,ay List.isEmpty [ah s,ah t]⟩≤name.size+6+s.size+t.size:=by
 have h1:=lI name [ah s,ah t]
 have h2:aH aF [ah s,ah t]=2+(aF (ah s)+aF (ah t)):=by simp[aH,sumOf]
 have h3:=kY s
 have h4:=kY t
 omega
theorem abT (rows:List ByteArray) (h:∀s∈rows,s.size≤200):sumOf bB (rows.map iZ)≤206 * rows.length:=by
 induction rows with
 | nil=>simp[sumOf]
 | cons a t ih =>
  have h1:=ih (fun s hs=>h s (List.mem_cons_of_mem _ hs))
  have h2:=h a (List.mem_cons_self ..)
  have h3:=Sl ⟨#[82,68,84]⟩ a
  have h4:(⟨#[82,68,84]⟩:ByteArray).size=3:=rfl
  have h5:sumOf bB ((a :: t).map iZ)=bB (iZ a)+sumOf bB (t.map iZ):=by simp[sumOf]
  have h6:bB (iZ a)≤206:=by unfold iZ;omega
  rw[h5,List.length_cons]
  omega
theorem E9 {α:Type} (f:α→Nat) (xs ys:List α):sumOf f (xs++ys)=sumOf f xs+sumOf f ys:=by simp[sumOf]
theorem XD:bB mD≤100:=by
 have h1:=Gf [⟨#[82,83,80]⟩,⟨#[90,48,49]⟩] ⟨#[]⟩
 have h2:iw [⟨#[82,83,80]⟩,⟨#[90,48,49]⟩]=8:=rfl
 have h3:(⟨#[]⟩:ByteArray).size=0:=rfl
 unfold mD
 omega
theorem abU (dt:ByteArray):bB (Eh dt)≤20+dt.size:=by
 have h1:=lI ⟨#[69,82,82]⟩ [([]:Field),([]:Field),ah dt]
 have h2:aH aF [([]:Field),([]:Field),ah dt]=3+(aF ([]:Field)+(aF ([]:Field)+aF (ah dt))):=by simp[aH,sumOf]
 have h3:=kY dt
 have h4:(⟨#[69,82,82]⟩:ByteArray).size=3:=rfl
 have h5:aF ([]:Field)=0:=rfl
 unfold Eh
 omega
theorem Jt {control tag pointer:ByteArray} {rows:List ByteArray} (h1:fB control tag=true) (h2:lH rows 200=true) (h3:aW pointer=true):aT (kH control tag rows pointer)≤1048576:=by
 obtain⟨c1,c2⟩:=Js h1
 obtain⟨r1,r2⟩:=Gg h2
 have p1:=(jT h3).2
 have e1:=abT rows r2
 have e2:=XD
 have e3:=Gh ⟨#[77,83,65]⟩ ⟨#[65,65]⟩ control
 have e4:=Gh ⟨#[81,65,75]⟩ tag ⟨#[79,75]⟩
 have e5:=Sl ⟨#[68,83,67]⟩ pointer
 have k1:(⟨#[77,83,65]⟩:ByteArray).size=3:=rfl
 have k2:(⟨#[81,65,75]⟩:ByteArray).size=3:=rfl
 have k3:(⟨#[68,83,67]⟩:ByteArray).size=3:=rfl
 have k4:(⟨#[65,65]⟩:ByteArray).size=2:=rfl
 have k5:(⟨#[79,75]⟩:ByteArray).size=2:=rfl
 have e6:sumOf bB (sN pointer)≤300∧(sN pointer).length≤1:=by
  unfold sN
  split
  ·exact⟨by simp[sumOf],by simp⟩
  ·refine⟨?_,by simp⟩
   have:sumOf bB [wO pointer]=bB (wO pointer):=by simp[sumOf]
   rw[this]
   unfold wO
   omega
 have e7:sumOf bB [mD,mF ⟨#[65,65]⟩ control,nV tag ⟨#[79,75]⟩]=bB mD+(bB (mF ⟨#[65,65]⟩ control)+bB (nV tag ⟨#[79,75]⟩)):=by simp[sumOf]
 unfold aT aH kH
 rw[E9,E9,e7]
 simp only[List.length_append,List.length_map,List.length_cons,List.length_nil]
 unfold mF nV
 omega
theorem Nb {ack control tag dt:ByteArray} (h1:fB control tag=true) (h2:ack.size≤200) (h3:dt.size≤200):aT (nU ack control tag dt)≤1048576:=by
 obtain⟨c1,c2⟩:=Js h1
 have e2:=XD
 have e3:=Gh ⟨#[77,83,65]⟩ ack control
 have e4:=Gh ⟨#[81,65,75]⟩ tag ack
 have e5:=abU dt
 have k1:(⟨#[77,83,65]⟩:ByteArray).size=3:=rfl
 have k2:(⟨#[81,65,75]⟩:ByteArray).size=3:=rfl
 rw[Na]
 have e7:sumOf bB [mD,mF ack control,Eh dt,nV tag ack]=bB mD+(bB (mF ack control)+(bB (Eh dt)+bB (nV tag ack))):=by simp[sumOf]
 unfold aT aH
 rw[e7]
 simp only[List.length_cons,List.length_nil]
 unfold mF nV
 omega
theorem Sm {s:ByteArray} (h:M7 s=true∨M8 s=true):s.size=2:=by
 rw[←qb]
 rcases h with h|h
 ·unfold M7 at h;rw[eq_of_beq h];rfl
 ·unfold M8 at h;rw[eq_of_beq h];rfl
theorem ZA {s:ByteArray} (h:sK s=true):s=⟨#[65,65]⟩:=by
 unfold sK at h
 have e:=eq_of_beq h
 apply ByteArray.ext
 rw[ByteArray.toList_eq] at e
 have:s.data.toList=(⟨#[65,65]⟩:ByteArray).data.toList:=e
 exact Array.toList_inj.1 this
theorem Lx {s:ByteArray} (h:s.size=0):aW s=true:=by
 unfold aW kW
 rw[decide_eq_true (eH _),decide_eq_true (by omega:s.size≤200)]
 have:s=⟨#[]⟩:=by
  apply ByteArray.ext
  exact Array.eq_empty_of_size_eq_zero h
 rw[this]
 decide
theorem ok_none {r:jM} (h:gD r=0):iD r=false:=by
 unfold gD at h
 unfold iD
 cases h1:sK r.ack
 ·rw[h1] at h
  simp only[Bool.false_eq_true,if_false] at h ⊢
  cases h2:(M7 r.ack || M8 r.ack)
  ·simp
  ·rw[h2] at h
   simp only[if_true] at h
   by_cases h3:r.rows.length=0∧r.pointer.size=0
   ·rw[if_pos h3] at h;cases h
   ·cases hx:(decide (r.rows.length=0) && decide (r.pointer.size=0))
    ·simp
    ·simp only[Bool.and_eq_true,decide_eq_true_eq] at hx
     exact absurd hx h3
 ·rw[h1] at h
  simp only[if_true] at h ⊢
  by_cases h3:r.code=0
  ·rw[if_pos h3] at h;cases h
  ·rw[decide_eq_false h3];simp
theorem VT {r:jM} (h:gD r=1):sK r.ack=true∧r.code=0∧iD r=(uw r.control r.tag r.rows r.pointer).isNone:=by
 unfold gD at h
 cases h1:sK r.ack
 ·rw[h1] at h
  simp only[Bool.false_eq_true,if_false] at h
  split at h
  ·split at h <;> cases h
  ·cases h
 ·rw[h1] at h
  simp only[if_true] at h
  by_cases h3:r.code=0
  ·refine⟨rfl,h3,?_⟩
   unfold iD uw
   rw[h1]
   simp only[if_true]
   rw[decide_eq_true h3]
   cases fB r.control r.tag <;> cases aW r.pointer <;> cases lH r.rows 200 <;> rfl
  ·rw[if_neg h3] at h;cases h
theorem ZB {r:jM} (h:gD r=2):sK r.ack=false∧(M7 r.ack=true∨M8 r.ack=true)∧iD r=(mX r.control r.code r.tag).isNone:=by
 unfold gD at h
 cases h1:sK r.ack
 ·rw[h1] at h
  simp only[Bool.false_eq_true,if_false] at h
  cases h2:(M7 r.ack || M8 r.ack)
  ·rw[h2] at h
   simp only[Bool.false_eq_true,if_false] at h
   cases h
  ·rw[h2] at h
   simp only[if_true] at h
   by_cases h3:r.rows.length=0∧r.pointer.size=0
   ·refine⟨rfl,by simpa using h2,?_⟩
    have hr:lH r.rows 200=true:=by
     unfold lH
     rw[List.length_eq_zero_iff.1 h3.1]
     rfl
    unfold iD mX
    rw[h1,h2,Lx h3.2,hr,decide_eq_true h3.1,decide_eq_true h3.2]
    simp only[Bool.false_eq_true,if_false]
    cases fB r.control r.tag <;> cases decide (1≤r.code) <;> cases decide (r.code≤999) <;> rfl
   ·rw[if_neg h3] at h;cases h
 ·rw[h1] at h
  simp only[if_true] at h
  split at h <;> cases h
theorem LA (r:jM):gD r=0∨gD r=1∨gD r=2:=by
 unfold gD
 split
 ·split
  ·exact .inr (.inl rfl)
  ·exact .inl rfl
 ·split
  ·split
   ·exact .inr (.inr rfl)
   ·exact .inl rfl
  ·exact .inl rfl
end Go.Proofs.YtfdihjnlgdiioaaGreatDoor.dB
