import Derived.Test.YtfdihjnlgdiioaaGreatDoorG29
import Derived.Deep.DeepCutAuto
namespace Go.Proofs.YtfdihjnlgdiioaaGreatDoor.dB
open Go.ChangeShapes Go.WideShapes Go.ChangeAt Go.RowKit
set_option linter.unusedVariables false
set_option linter.unusedSimpArgs false
theorem vo (w:World) (s t:ByteArray) (hs:s.size≤1048576) (ht:t.size≤1048576):bq 0 (w.alloc (Obj.cells #[.string s,.string t] 9)) (.slice (some ⟨w.heap.size,0,none⟩) 2 2) [s,t] :=
 xX w [s,t] (by intro x hx;simp at hx;rcases hx with rfl|rfl <;> omega) (by simp)
theorem qP (w:World) (s t q:ByteArray) (hs:s.size≤1048576) (ht:t.size≤1048576) (hq:q.size≤1048576):bq 0 (w.alloc (Obj.cells #[.string s,.string t,.string q] 9)) (.slice (some ⟨w.heap.size,0,none⟩) 3 3) [s,t,q] :=
 xX w [s,t,q] (by intro x hx;simp at hx;rcases hx with rfl|rfl|rfl <;> omega) (by simp)
theorem uF {s t:ByteArray}:[s,t].length≤1000:=by simp
theorem kI {s t q:ByteArray}:[s,t,q].length≤1000:=by simp
theorem Gs {s t:ByteArray} (h:s.size≤1048576) (h2:t.size≤1048576):∀x∈[s,t],x.size≤1048576:=fun x hx=>by
 simp at hx;rcases hx with rfl|rfl <;> assumption
theorem uG {s t q:ByteArray} (h:s.size≤1048576) (h2:t.size≤1048576) (h3:q.size≤1048576):∀x∈[s,t,q],x.size≤1048576:=fun x hx=>by
 simp at hx;rcases hx with rfl|rfl|rfl <;> assumption
theorem CX {lo:Nat} {w3 w5 w6:World} {x y z:Seg} {a b c v':Value} (hlo:lo≤w3.heap.size) (ha:aG lo w3 a x.fields) (hb:aG lo w3 b y.fields) {l5:Nat} (hc:aG l5 w5 c z.fields) (hl5:w3.heap.size+1≤l5)
  (hb5:Below (w3.heap.size+1) (w3.alloc (Obj.cells #[.string x.name,a,.string y.name,b] 54)) w5) (o:Obj)
  (hown:w6.ownsRow lo 54 2 v' 3 (dw [x,y] [a,b]++[.string z.name,c])) (hg:(w5.alloc o).grownBy w6 (some w3.heap.size))
  (hx:x.name.size≤9223372036854775807) (hy:y.name.size≤9223372036854775807) (hz:z.name.size≤9223372036854775807):aX lo w6 v' [x,y,z]:=by
 have s5:=hb5.size
 rw[Deep.nblk_alloc] at s5
 have s6:=hg.size
 rw[Deep.nblk_alloc] at s6
 have q:Below w3.heap.size w3 w5:=⟨hb5.os,hb5.tape,hb5.output,by omega,fun k hk=>(hb5.block k (by omega)).trans (Deep.blk_alloc_lt _ _ _ hk)⟩
 have q6:∀k,k<w5.heap.size→k≠w3.heap.size→w6.heap[k]?=w5.heap[k]?:=fun k hk hne=>(hg.block k (by rw[Deep.nblk_alloc];omega) (by intro e;injection e with e;exact hne e)).trans (Deep.blk_alloc_lt _ _ _ hk)
 have hs3:Same lo w3 w6:=⟨by omega,fun k _ hk=>(q6 k (by omega) (by omega)).trans (q.block k hk)⟩
 have hs5:Same l5 w5 w6:=⟨by omega,fun k h1 hk=>q6 k hk (by omega)⟩
 refine uD [x,y,z] [a,b,c] rfl hown (aS _) ?_ (by simp) ?_
 ·intro s hs
  simp only[List.mem_cons,List.not_mem_nil,or_false] at hs
  rcases hs with rfl|rfl|rfl <;> assumption
 ·intro i h h'
  match i,h with
  | 0,_=>exact At.same aP ha hs3
  | 1,_=>exact At.same aP hb hs3
  | 2,_=>exact gP (At.same aP hc hs5) (by omega)
set_option maxRecDepth 100000 in
set_option maxHeartbeats 4000000 in
theorem Jy (control tag query pointer:ByteArray) (page:Int) (w:World) (h1:control.size≤1048576) (h2:tag.size≤1048576) (h3:query.size≤1048576) (h4:pointer.size≤1048576) (hok:nM ⟨2,control,tag,query,page,pointer⟩=true) :
  Calls Tryz.prog 7 #[bY ⟨2,control,tag,query,page,pointer⟩] w (pE w (iC control tag query pointer)):=by
 unfold bY
 obtain⟨iS,XI,hS0,hS1,hS2⟩:=gV qH
 obtain⟨x1,hx1⟩:∃x1,w.alloc (Obj.cells #[.int .i64 2,.string control,.string tag,.string query,.int .i64 page,.string pointer] 24)=x1:=⟨_,rfl⟩
 obtain⟨w1,hw1⟩:∃w1,x1.alloc (Obj.cells #[.slice none 0 0] 28)=w1:=⟨_,rfl⟩
 have bN:x1.heap.size=w.heap.size+1:=by rw[←hx1];simp
 have dG:w1.heap.size=w.heap.size+1+1:=by rw[←hw1];simp[bN]
 have bx1:Below w.heap.size w x1:=by rw[←hx1];exact aO _ _
 have dV:Below x1.heap.size x1 w1:=by rw[←hw1];exact aO _ _
 have HC:Hid (w1.cell? ⟨w.heap.size,0,none⟩=some (.int .i64 2)∧w1.cell? ⟨w.heap.size,1,none⟩=some (.string control)∧w1.cell? ⟨w.heap.size,2,none⟩=some (.string tag)∧w1.cell? ⟨w.heap.size,3,none⟩=some (.string query)∧w1.cell? ⟨w.heap.size,4,none⟩=some (.int .i64 page)∧w1.cell? ⟨w.heap.size,5,none⟩=some (.string pointer)):=by
  refine⟨?_,?_,?_,?_,?_,?_⟩ <;> exact(dV.cell (by rw[bN];simp)).trans (by rw[←hx1];simp)
 obtain⟨k0,k1,k2,k3,k4,k5⟩:=HC.out
 have c2:w1.cell? ⟨w.heap.size+1,0,none⟩=some (.slice none 0 0):=by rw[←hw1,←bN];simp
 have f2:w1.frozen? ⟨w.heap.size+1,0,none⟩=false:=by rw[←hw1,←bN];simp
 have HB1:=hide (aJ dV bx1)
 go_enter Tryz.func7,Tryz.ntmps7
 go_wp2_with fail
 refine(xR ⟨2,control,tag,query,page,pointer⟩ _ (by simp only;omega) (by simp only;omega) (by simp only;omega) (by simp only;omega)).mono ?_
 rintro e W ⟨rfl,hb⟩
 rw[hok]
 have rl:w.heap.size+1<W.heap.size:=by have:=hb.size;omega
 have pF:w.heap.size<w1.heap.size:=by rw[dG];omega
 have g0:W.cell? ⟨w.heap.size,0,none⟩=some (.int .i64 2):=(hb.cell (p:=⟨w.heap.size,0,none⟩) pF).trans k0
 have r0:W.cell? ⟨w.heap.size+1,0,none⟩=some (.slice none 0 0):=(hb.cell (p:=⟨w.heap.size+1,0,none⟩) (by rw[dG];simp)).trans c2
 have rf:W.frozen? ⟨w.heap.size+1,0,none⟩=false:=(hb.frozen (p:=⟨w.heap.size+1,0,none⟩) (by rw[dG];simp)).trans f2
 have sO:Hid (∀X,Below W.heap.size W X→X.cell? ⟨w.heap.size,0,none⟩=some (.int .i64 2)∧X.cell? ⟨w.heap.size,4,none⟩=some (.int .i64 page)∧X.cell? ⟨w.heap.size,5,none⟩=some (.string pointer)):=fun X h =>
  ⟨(h.cell (p:=⟨w.heap.size,0,none⟩) (by dsimp only;omega)).trans g0,(h.cell (p:=⟨w.heap.size,4,none⟩) (by dsimp only;omega)).trans ((hb.cell (p:=⟨w.heap.size,4,none⟩) pF).trans k4),(h.cell (p:=⟨w.heap.size,5,none⟩) (by dsimp only;omega)).trans ((hb.cell (p:=⟨w.heap.size,5,none⟩) pF).trans k5)⟩
 have KEEP:Hid (∀X,Below W.heap.size W X→X.cell? ⟨w.heap.size,1,none⟩=some (.string control)∧X.cell? ⟨w.heap.size,2,none⟩=some (.string tag)∧X.cell? ⟨w.heap.size,3,none⟩=some (.string query)∧Below w.heap.size w X):=fun X h =>
  ⟨(h.cell (p:=⟨w.heap.size,1,none⟩) (by dsimp only;omega)).trans ((hb.cell (p:=⟨w.heap.size,1,none⟩) pF).trans k1),(h.cell (p:=⟨w.heap.size,2,none⟩) (by dsimp only;omega)).trans ((hb.cell (p:=⟨w.heap.size,2,none⟩) pF).trans k2),(h.cell (p:=⟨w.heap.size,3,none⟩) (by dsimp only;omega)).trans ((hb.cell (p:=⟨w.heap.size,3,none⟩) pF).trans k3),aJ h (aJ hb HB1.out)⟩
 have jL:Hid (∀X,Below W.heap.size W X→X.cell? ⟨w.heap.size+1,0,none⟩=some (.slice none 0 0)∧X.frozen? ⟨w.heap.size+1,0,none⟩=false∧w.heap.size+1<X.heap.size):=fun X h =>
  ⟨(h.cell (p:=⟨w.heap.size+1,0,none⟩) rl).trans r0,(h.frozen (p:=⟨w.heap.size+1,0,none⟩) rl).trans rf,by have:=h.size;omega⟩
 obtain⟨wd,hwd⟩:∃wd,W.drew=wd:=⟨_,rfl⟩
 have hbd:Below W.heap.size W wd:=by rw[←hwd];exact(Below.refl _ _).drew
 have DW:Hid (wd.heap.size=W.heap.size):=by rw[←hwd];exact rfl
 have qc:=hide rl
 have K9:=hide hwd
 have uh:=(Below.refl W.heap.size W).drew
 have nA:=hide (aJ hb HB1.out)
 clear k0 k1 k2 k3 k4 k5 hx1 hw1 bN dG bx1 dV c2 f2 hb r0 rf hwd hok HC rl pF
 go_upto_region 5 with fail
 go_cut [3] (fun v3 wx=>∃(w3:World) (a1:Option Addr) (c1:Nat) (a2:Option Addr) (c2:Nat),v3=.slice (some ⟨w3.heap.size,0,none⟩) 2 2∧wx=w3.alloc (Obj.cells #[.string ⟨#[77,83,72]⟩,.slice a1 (aI [⟨#[81,66,80]⟩,⟨#[90,48,49]⟩] control).length c1,.string ⟨#[81,80,68]⟩,.slice a2 (ay List.isEmpty [ah ⟨#[81]⟩,ah tag,ah query]).length c2] 54)∧aG W.heap.size w3 (.slice a1 (aI [⟨#[81,66,80]⟩,⟨#[90,48,49]⟩] control).length c1) (aI [⟨#[81,66,80]⟩,⟨#[90,48,49]⟩] control)∧aG W.heap.size w3 (.slice a2 (ay List.isEmpty [ah ⟨#[81]⟩,ah tag,ah query]).length c2) (ay List.isEmpty [ah ⟨#[81]⟩,ah tag,ah query])∧Below W.heap.size W w3)
 case first =>
  clear g0
  have hwd:=K9.out
  go_region_held3 (fun X=>X.cell? ⟨w.heap.size,1,none⟩=some (.string control)∧X.cell? ⟨w.heap.size,2,none⟩=some (.string tag)∧X.cell? ⟨w.heap.size,3,none⟩=some (.string query)∧Below w.heap.size w X)
   (first|with_reducible exact KEEP.out _ uh|with_reducible exact KEEP.out _ hbd|with_reducible exact KEEP.out _ (hbd.alloc hbd.size _)|with_reducible exact KEEP.out _ gI|with_reducible exact KEEP.out _ (gI.alloc gI.size _)|with_reducible exact KEEP.out _ l7|with_reducible exact KEEP.out _ (l7.alloc l7.size _))
   (first
    | (go_at_call 25;refine(vg ⟨#[81,66,80]⟩ ⟨#[90,48,49]⟩ control _ (by decide) (by decide) h1).mono ?_;rintro e w2 ⟨u1,rfl,hF1,hb2⟩;obtain⟨a1,c1,rfl⟩:=gN hF1;
       first
       | (have gI:Below W.heap.size W w2:=by with_reducible exact aj hb2 hbd
          have hG1:aG W.heap.size w2 _ _:=gP hF1 (by rw[DW.out];exact Nat.le_succ _))
       | (have gI:Below W.heap.size W w2:=by with_reducible exact aj hb2 (hbd.alloc hbd.size _)
          have hG1:aG W.heap.size w2 _ _:=gP hF1 (by rw[Deep.nblk_alloc,DW.out];omega)))
    | (go_at_call 26;
       first
       | (with_reducible refine(iO ⟨#[81,80,68]⟩ [⟨#[81]⟩,tag,query] (.slice (some ⟨w2.heap.size,0,none⟩) 3 3) (w2.alloc (Obj.cells #[.string ⟨#[81]⟩,.string tag,.string query] 9)) (qP w2 ⟨#[81]⟩ tag query (by decide) h2 h3) kI (uG (by decide) h2 h3)).mono ?_;rintro e w3 ⟨u2,rfl,hR2,hb3⟩
          have hF2:aG W.heap.size w3 u2 (ay List.isEmpty [ah ⟨#[81]⟩,ah tag,ah query]):=gP (gY [⟨#[81]⟩,tag,query] hR2 kI) (by rw[Deep.nblk_alloc];have:=gI.size;omega)
          have l7:=aj hb3 (gI.alloc gI.size _)
          have hG2:aG W.heap.size w3 _ _:=At.kept aP (At.kept aP hG1 (aO _ _)) hb3
          clear hR2;obtain⟨a2,c2,rfl⟩:=gN hF2)
       | (with_reducible refine(iO ⟨#[81,80,68]⟩ [⟨#[81]⟩,tag,query] (.slice (some ⟨wd.heap.size,0,none⟩) 3 3) w2 (vk (qP wd ⟨#[81]⟩ tag query (by decide) h2 h3) hb2) kI (uG (by decide) h2 h3)).mono ?_;rintro e w3 ⟨u2,rfl,hR2,hb3⟩
          have hF2:aG W.heap.size w3 u2 (ay List.isEmpty [ah ⟨#[81]⟩,ah tag,ah query]):=gP (gY [⟨#[81]⟩,tag,query] hR2 kI) (by have:=gI.size;omega)
          have l7:=aj hb3 gI
          have hG2:aG W.heap.size w3 _ _:=At.kept aP hG1 hb3
          clear hR2;obtain⟨a2,c2,rfl⟩:=gN hF2)))
  all_goals
   have lZ:=hide (And.intro hG2 (And.intro hF2 l7))
   clear hG1 hG2 hF1 hF2 hb2 hb3 gI l7
   go_wp2_with fail
   go_meet
   case rel=>exact⟨w3,a1,c1,a2,c2,rfl,rfl,lZ.out.1,lZ.out.2.1,lZ.out.2.2⟩
 case rest =>
  obtain⟨w3,a1,c1,a2,c2,rfl,rfl,hG,hF,hb3⟩:=hcut
  have Gt:=hb3.alloc hb3.size (Obj.cells #[.string ⟨#[77,83,72]⟩,.slice a1 (aI [⟨#[81,66,80]⟩,⟨#[90,48,49]⟩] control).length c1,.string ⟨#[81,80,68]⟩,.slice a2 (ay List.isEmpty [ah ⟨#[81]⟩,ah tag,ah query]).length c2] 54)
  obtain⟨W4,O1⟩:∃W4,w3.alloc (Obj.cells #[.string ⟨#[77,83,72]⟩,.slice a1 (aI [⟨#[81,66,80]⟩,⟨#[90,48,49]⟩] control).length c1,.string ⟨#[81,80,68]⟩,.slice a2 (ay List.isEmpty [ah ⟨#[81]⟩,ah tag,ah query]).length c2] 54)=W4:=⟨_,rfl⟩
  have hs4:W4.heap.size=w3.heap.size+1:=by rw[←O1];simp
  have Sv:Hid (W4.ownsRow W.heap.size 54 2 (.slice (some ⟨w3.heap.size,0,none⟩) 2 2) 2 (dw [⟨⟨#[77,83,72]⟩,(aI [⟨#[81,66,80]⟩,⟨#[90,48,49]⟩] control)⟩,⟨⟨#[81,80,68]⟩,(ay List.isEmpty [ah ⟨#[81]⟩,ah tag,ah query])⟩] [.slice a1 (aI [⟨#[81,66,80]⟩,⟨#[90,48,49]⟩] control).length c1,.slice a2 (ay List.isEmpty [ah ⟨#[81]⟩,ah tag,ah query]).length c2])):=by
   rw[←O1];exact AY W.heap.size w3 ⟨⟨#[77,83,72]⟩,(aI [⟨#[81,66,80]⟩,⟨#[90,48,49]⟩] control)⟩ ⟨⟨#[81,80,68]⟩,(ay List.isEmpty [ah ⟨#[81]⟩,ah tag,ah query])⟩ _ _ hb3.size
  rw[O1] at Gt
  obtain⟨m0,m4,m5⟩:=sO.out W4 Gt
  have o7:=hide Gt
  have HB3:=hide hb3
  have HG:=hide hG
  have HF:=hide hF
  have HW4:=hide O1
  have QD:=hide hs4
  clear hG hF hb3 Gt g0 hs4
  rw[O1]
  clear O1
  go_wp2_with fail
  refine(iO ⟨#[68,83,67]⟩ [pointer] _ _ (uE W4 pointer h4) one_le (CV h4)).mono ?_
  rintro e W5 ⟨u5,rfl,P8,hb5⟩
  have P6:aG _ W5 u5 (ay List.isEmpty [ah pointer]):=gY [pointer] P8 one_le
  obtain⟨a5,c5,rfl⟩:=gN P6
  have CY:Below W4.heap.size W4 W5:=aJ hb5 (aO _ _)
  have Gu:=hide CY
  have hs5:=CY.size
  have gI:Below W4.heap.size W4 (W5.alloc (Obj.cells #[.string ⟨#[68,83,67]⟩,.slice a5 (ay List.isEmpty [ah pointer]).length c5] 54)):=CY.alloc CY.size _
  have gZ:=jF Sv.out gI
  have HF5:Hid (aG (W4.heap.size+1) W5 (.slice a5 (ay List.isEmpty [ah pointer]).length c5) (ay List.isEmpty [ah pointer])):=gP P6 (by rw[Deep.nblk_alloc];omega)
  have hbase:W.heap.size≤W5.heap.size:=by have:=o7.out.size;omega
  clear P6 P8 hb5 CY gI m0 m4 m5
  go_wp2_with (first
   | (at_builtin;refine wpList_append_own_at _ rfl _ _ 26 rfl W.heap.size 54 iS (.agg #[.string ByteArray.empty,.slice none 0 0]) 2 40 Tryz.underlying26 XI hS0 hS1 hS2 rfl (by decide) _ _ _ rfl gZ ⟨W5.heap.size,0,none⟩ 1 1 [.string ⟨#[68,83,67]⟩,.slice a5 (ay List.isEmpty [ah pointer]).length c5] rfl rfl (kT W5 _ _ _) (kU _ _ _ _) (by unfold maxLen;omega) (by omega) (by rw[Deep.nblk_alloc];omega) ?_)
   | fail)
  intro v' w6 hown' hgrow hnil hat
  obtain⟨a6,c6,rfl⟩:=yR hown'
  have hgrow':(W5.alloc (Obj.cells #[.string ⟨#[68,83,67]⟩,.slice a5 (ay List.isEmpty [ah pointer]).length c5] 54)).grownBy w6 (some w3.heap.size):=by simpa [Value.ownBlock] using hgrow
  have LM:Below W.heap.size W w6:=by
   have q:=(aJ Gu.out o7.out).alloc (aJ Gu.out o7.out).size (Obj.cells #[.string ⟨#[68,83,67]⟩,.slice a5 (ay List.isEmpty [ah pointer]).length c5] 54)
   exact q.grown hgrow' (by rw[Deep.nblk_alloc];omega) (fun b hb'=>by injection hb' with hb';have:=HB3.out.size;omega)
  have iX:Below (w3.heap.size+1) (w3.alloc (Obj.cells #[.string ⟨#[77,83,72]⟩,.slice a1 (aI [⟨#[81,66,80]⟩,⟨#[90,48,49]⟩] control).length c1,.string ⟨#[81,80,68]⟩,.slice a2 (ay List.isEmpty [ah ⟨#[81]⟩,ah tag,ah query]).length c2] 54)) W5:=by rw[HW4.out,←QD.out];exact Gu.out
  have xV:=hide (CX (x:=⟨⟨#[77,83,72]⟩,(aI [⟨#[81,66,80]⟩,⟨#[90,48,49]⟩] control)⟩) (y:=⟨⟨#[81,80,68]⟩,(ay List.isEmpty [ah ⟨#[81]⟩,ah tag,ah query])⟩) (z:=⟨⟨#[68,83,67]⟩,(ay List.isEmpty [ah pointer])⟩) HB3.out.size HG.out HF.out HF5.out (by rw[QD.out];omega) iX _ hown' hgrow' (by dsimp only;decide) (by dsimp only;decide) (by dsimp only;decide))
  obtain⟨r0,rf,rl⟩:=jL.out w6 LM
  have jH:Hid (∀x,Below w.heap.size w (w6.setCell ⟨w.heap.size+1,0,none⟩ x)):=fun x=>(aJ LM nA.out).setCell (p:=⟨w.heap.size+1,0,none⟩) (Nat.le_succ _) x
  have Ct:Hid (∀v x,aX W.heap.size w6 v (iC control tag query pointer)→aX w.heap.size (w6.setCell ⟨w.heap.size+1,0,none⟩ x) v (iC control tag query pointer)):=fun v x h=>CW qc.out h
  clear hown' hgrow hgrow' hnil hat iX LM gZ hs5 hbase
  go_wp2_with fail
  exact bodyPost_ret (v:=.agg #[.slice a6 3 c6]) (by simp[results,Tryz.results7,go_sem,r0,rl]) rfl ⟨_,rfl,Ct.out _ _ xV.out,jH.out _⟩
set_option maxRecDepth 100000 in
set_option maxHeartbeats 4000000 in
theorem LP (control tag query pointer:ByteArray) (u:Nat) (w:World) (h1:control.size≤1048576) (h2:tag.size≤1048576) (h3:query.size≤1048576) (h4:pointer.size≤1048576) (hu:u≤50) (hok:nM ⟨1,control,tag,query,(u:Int),pointer⟩=true) :
  Calls Tryz.prog 7 #[bY ⟨1,control,tag,query,(u:Int),pointer⟩] w (pE w (mg control tag query (bR u))):=by
 unfold bY
 obtain⟨iS,XI,hS0,hS1,hS2⟩:=gV qH
 obtain⟨x1,hx1⟩:∃x1,w.alloc (Obj.cells #[.int .i64 1,.string control,.string tag,.string query,.int .i64 (u:Int),.string pointer] 24)=x1:=⟨_,rfl⟩
 obtain⟨w1,hw1⟩:∃w1,x1.alloc (Obj.cells #[.slice none 0 0] 28)=w1:=⟨_,rfl⟩
 have bN:x1.heap.size=w.heap.size+1:=by rw[←hx1];simp
 have dG:w1.heap.size=w.heap.size+1+1:=by rw[←hw1];simp[bN]
 have bx1:Below w.heap.size w x1:=by rw[←hx1];exact aO _ _
 have dV:Below x1.heap.size x1 w1:=by rw[←hw1];exact aO _ _
 have HC:Hid (w1.cell? ⟨w.heap.size,0,none⟩=some (.int .i64 1)∧w1.cell? ⟨w.heap.size,1,none⟩=some (.string control)∧w1.cell? ⟨w.heap.size,2,none⟩=some (.string tag)∧w1.cell? ⟨w.heap.size,3,none⟩=some (.string query)∧w1.cell? ⟨w.heap.size,4,none⟩=some (.int .i64 (u:Int))∧w1.cell? ⟨w.heap.size,5,none⟩=some (.string pointer)):=by
  refine⟨?_,?_,?_,?_,?_,?_⟩ <;> exact(dV.cell (by rw[bN];simp)).trans (by rw[←hx1];simp)
 obtain⟨k0,k1,k2,k3,k4,k5⟩:=HC.out
 have c2:w1.cell? ⟨w.heap.size+1,0,none⟩=some (.slice none 0 0):=by rw[←hw1,←bN];simp
 have f2:w1.frozen? ⟨w.heap.size+1,0,none⟩=false:=by rw[←hw1,←bN];simp
 have HB1:=hide (aJ dV bx1)
 go_enter Tryz.func7,Tryz.ntmps7
 go_wp2_with fail
 refine(xR ⟨1,control,tag,query,(u:Int),pointer⟩ _ (by simp only;omega) (by simp only;omega) (by simp only;omega) (by simp only;omega)).mono ?_
 rintro e W ⟨rfl,hb⟩
 rw[hok]
 have rl:w.heap.size+1<W.heap.size:=by have:=hb.size;omega
 have pF:w.heap.size<w1.heap.size:=by rw[dG];omega
 have g0:W.cell? ⟨w.heap.size,0,none⟩=some (.int .i64 1):=(hb.cell (p:=⟨w.heap.size,0,none⟩) pF).trans k0
 have r0:W.cell? ⟨w.heap.size+1,0,none⟩=some (.slice none 0 0):=(hb.cell (p:=⟨w.heap.size+1,0,none⟩) (by rw[dG];simp)).trans c2
 have rf:W.frozen? ⟨w.heap.size+1,0,none⟩=false:=(hb.frozen (p:=⟨w.heap.size+1,0,none⟩) (by rw[dG];simp)).trans f2
 have sO:Hid (∀X,Below W.heap.size W X→X.cell? ⟨w.heap.size,0,none⟩=some (.int .i64 1)∧X.cell? ⟨w.heap.size,4,none⟩=some (.int .i64 (u:Int))∧X.cell? ⟨w.heap.size,5,none⟩=some (.string pointer)):=fun X h =>
  ⟨(h.cell (p:=⟨w.heap.size,0,none⟩) (by dsimp only;omega)).trans g0,(h.cell (p:=⟨w.heap.size,4,none⟩) (by dsimp only;omega)).trans ((hb.cell (p:=⟨w.heap.size,4,none⟩) pF).trans k4),(h.cell (p:=⟨w.heap.size,5,none⟩) (by dsimp only;omega)).trans ((hb.cell (p:=⟨w.heap.size,5,none⟩) pF).trans k5)⟩
 have KEEP:Hid (∀X,Below W.heap.size W X→X.cell? ⟨w.heap.size,1,none⟩=some (.string control)∧X.cell? ⟨w.heap.size,2,none⟩=some (.string tag)∧X.cell? ⟨w.heap.size,3,none⟩=some (.string query)∧Below w.heap.size w X):=fun X h =>
  ⟨(h.cell (p:=⟨w.heap.size,1,none⟩) (by dsimp only;omega)).trans ((hb.cell (p:=⟨w.heap.size,1,none⟩) pF).trans k1),(h.cell (p:=⟨w.heap.size,2,none⟩) (by dsimp only;omega)).trans ((hb.cell (p:=⟨w.heap.size,2,none⟩) pF).trans k2),(h.cell (p:=⟨w.heap.size,3,none⟩) (by dsimp only;omega)).trans ((hb.cell (p:=⟨w.heap.size,3,none⟩) pF).trans k3),aJ h (aJ hb HB1.out)⟩
 have jL:Hid (∀X,Below W.heap.size W X→X.cell? ⟨w.heap.size+1,0,none⟩=some (.slice none 0 0)∧X.frozen? ⟨w.heap.size+1,0,none⟩=false∧w.heap.size+1<X.heap.size):=fun X h =>
  ⟨(h.cell (p:=⟨w.heap.size+1,0,none⟩) rl).trans r0,(h.frozen (p:=⟨w.heap.size+1,0,none⟩) rl).trans rf,by have:=h.size;omega⟩
 obtain⟨wd,hwd⟩:∃wd,W.drew=wd:=⟨_,rfl⟩
 have hbd:Below W.heap.size W wd:=by rw[←hwd];exact(Below.refl _ _).drew
 have DW:Hid (wd.heap.size=W.heap.size):=by rw[←hwd];exact rfl
 have qc:=hide rl
 have K9:=hide hwd
 have uh:=(Below.refl W.heap.size W).drew
 have nA:=hide (aJ hb HB1.out)
 clear k0 k1 k2 k3 k4 k5 hx1 hw1 bN dG bx1 dV c2 f2 hb r0 rf hwd hok HC rl pF
 go_upto_region 5 with fail
 go_cut [3] (fun v3 wx=>∃(w3:World) (a1:Option Addr) (c1:Nat) (a2:Option Addr) (c2:Nat),v3=.slice (some ⟨w3.heap.size,0,none⟩) 2 2∧wx=w3.alloc (Obj.cells #[.string ⟨#[77,83,72]⟩,.slice a1 (aI [⟨#[81,66,80]⟩,⟨#[90,48,49]⟩] control).length c1,.string ⟨#[81,80,68]⟩,.slice a2 (ay List.isEmpty [ah ⟨#[81]⟩,ah tag,ah query]).length c2] 54)∧aG W.heap.size w3 (.slice a1 (aI [⟨#[81,66,80]⟩,⟨#[90,48,49]⟩] control).length c1) (aI [⟨#[81,66,80]⟩,⟨#[90,48,49]⟩] control)∧aG W.heap.size w3 (.slice a2 (ay List.isEmpty [ah ⟨#[81]⟩,ah tag,ah query]).length c2) (ay List.isEmpty [ah ⟨#[81]⟩,ah tag,ah query])∧Below W.heap.size W w3)
 case first =>
  clear g0
  have hwd:=K9.out
  go_region_held3 (fun X=>X.cell? ⟨w.heap.size,1,none⟩=some (.string control)∧X.cell? ⟨w.heap.size,2,none⟩=some (.string tag)∧X.cell? ⟨w.heap.size,3,none⟩=some (.string query)∧Below w.heap.size w X)
   (first|with_reducible exact KEEP.out _ uh|with_reducible exact KEEP.out _ hbd|with_reducible exact KEEP.out _ (hbd.alloc hbd.size _)|with_reducible exact KEEP.out _ gI|with_reducible exact KEEP.out _ (gI.alloc gI.size _)|with_reducible exact KEEP.out _ l7|with_reducible exact KEEP.out _ (l7.alloc l7.size _))
   (first
    | (go_at_call 25;refine(vg ⟨#[81,66,80]⟩ ⟨#[90,48,49]⟩ control _ (by decide) (by decide) h1).mono ?_;rintro e w2 ⟨u1,rfl,hF1,hb2⟩;obtain⟨a1,c1,rfl⟩:=gN hF1;
       first
       | (have gI:Below W.heap.size W w2:=by with_reducible exact aj hb2 hbd
          have hG1:aG W.heap.size w2 _ _:=gP hF1 (by rw[DW.out];exact Nat.le_succ _))
       | (have gI:Below W.heap.size W w2:=by with_reducible exact aj hb2 (hbd.alloc hbd.size _)
          have hG1:aG W.heap.size w2 _ _:=gP hF1 (by rw[Deep.nblk_alloc,DW.out];omega)))
    | (go_at_call 26;
       first
       | (with_reducible refine(iO ⟨#[81,80,68]⟩ [⟨#[81]⟩,tag,query] (.slice (some ⟨w2.heap.size,0,none⟩) 3 3) (w2.alloc (Obj.cells #[.string ⟨#[81]⟩,.string tag,.string query] 9)) (qP w2 ⟨#[81]⟩ tag query (by decide) h2 h3) kI (uG (by decide) h2 h3)).mono ?_;rintro e w3 ⟨u2,rfl,hR2,hb3⟩
          have hF2:aG W.heap.size w3 u2 (ay List.isEmpty [ah ⟨#[81]⟩,ah tag,ah query]):=gP (gY [⟨#[81]⟩,tag,query] hR2 kI) (by rw[Deep.nblk_alloc];have:=gI.size;omega)
          have l7:=aj hb3 (gI.alloc gI.size _)
          have hG2:aG W.heap.size w3 _ _:=At.kept aP (At.kept aP hG1 (aO _ _)) hb3
          clear hR2;obtain⟨a2,c2,rfl⟩:=gN hF2)
       | (with_reducible refine(iO ⟨#[81,80,68]⟩ [⟨#[81]⟩,tag,query] (.slice (some ⟨wd.heap.size,0,none⟩) 3 3) w2 (vk (qP wd ⟨#[81]⟩ tag query (by decide) h2 h3) hb2) kI (uG (by decide) h2 h3)).mono ?_;rintro e w3 ⟨u2,rfl,hR2,hb3⟩
          have hF2:aG W.heap.size w3 u2 (ay List.isEmpty [ah ⟨#[81]⟩,ah tag,ah query]):=gP (gY [⟨#[81]⟩,tag,query] hR2 kI) (by have:=gI.size;omega)
          have l7:=aj hb3 gI
          have hG2:aG W.heap.size w3 _ _:=At.kept aP hG1 hb3
          clear hR2;obtain⟨a2,c2,rfl⟩:=gN hF2)))
  all_goals
   have lZ:=hide (And.intro hG2 (And.intro hF2 l7))
   clear hG1 hG2 hF1 hF2 hb2 hb3 gI l7
   go_wp2_with fail
   go_meet
   case rel=>exact⟨w3,a1,c1,a2,c2,rfl,rfl,lZ.out.1,lZ.out.2.1,lZ.out.2.2⟩
 case rest =>
  obtain⟨w3,a1,c1,a2,c2,rfl,rfl,hG,hF,hb3⟩:=hcut
  have Gt:=hb3.alloc hb3.size (Obj.cells #[.string ⟨#[77,83,72]⟩,.slice a1 (aI [⟨#[81,66,80]⟩,⟨#[90,48,49]⟩] control).length c1,.string ⟨#[81,80,68]⟩,.slice a2 (ay List.isEmpty [ah ⟨#[81]⟩,ah tag,ah query]).length c2] 54)
  obtain⟨W4,O1⟩:∃W4,w3.alloc (Obj.cells #[.string ⟨#[77,83,72]⟩,.slice a1 (aI [⟨#[81,66,80]⟩,⟨#[90,48,49]⟩] control).length c1,.string ⟨#[81,80,68]⟩,.slice a2 (ay List.isEmpty [ah ⟨#[81]⟩,ah tag,ah query]).length c2] 54)=W4:=⟨_,rfl⟩
  have hs4:W4.heap.size=w3.heap.size+1:=by rw[←O1];simp
  have Sv:Hid (W4.ownsRow W.heap.size 54 2 (.slice (some ⟨w3.heap.size,0,none⟩) 2 2) 2 (dw [⟨⟨#[77,83,72]⟩,(aI [⟨#[81,66,80]⟩,⟨#[90,48,49]⟩] control)⟩,⟨⟨#[81,80,68]⟩,(ay List.isEmpty [ah ⟨#[81]⟩,ah tag,ah query])⟩] [.slice a1 (aI [⟨#[81,66,80]⟩,⟨#[90,48,49]⟩] control).length c1,.slice a2 (ay List.isEmpty [ah ⟨#[81]⟩,ah tag,ah query]).length c2])):=by
   rw[←O1];exact AY W.heap.size w3 ⟨⟨#[77,83,72]⟩,(aI [⟨#[81,66,80]⟩,⟨#[90,48,49]⟩] control)⟩ ⟨⟨#[81,80,68]⟩,(ay List.isEmpty [ah ⟨#[81]⟩,ah tag,ah query])⟩ _ _ hb3.size
  rw[O1] at Gt
  obtain⟨m0,m4,m5⟩:=sO.out W4 Gt
  have o7:=hide Gt
  have HB3:=hide hb3
  have HG:=hide hG
  have HF:=hide hF
  have HW4:=hide O1
  have QD:=hide hs4
  clear hG hF hb3 Gt g0 hs4
  rw[O1]
  clear O1
  go_wp2_with fail
  refine(nG u _ (by omega)).mono ?_
  rintro e W6 ⟨rfl,hb6⟩
  have Jz:=hide hb6
  have hd:(bR u).size≤1048576:=Nat.le_trans (zf u (by omega)).2 (by decide)
  clear hb6
  go_wp2_with fail
  refine(iO ⟨#[82,67,80]⟩ [⟨#[]⟩,bR u] _ _ (vo W6 ⟨#[]⟩ (bR u) (by decide) hd) uF (Gs (by decide) hd)).mono ?_
  rintro e W5 ⟨u5,rfl,P8,hb5⟩
  have P6:aG _ W5 u5 (ay List.isEmpty [([]:Field),ah (bR u)]):=gY [⟨#[]⟩,bR u] P8 uF
  obtain⟨a5,c5,rfl⟩:=gN P6
  have CY:Below W4.heap.size W4 W5:=aJ hb5 (Jz.out.alloc Jz.out.size _)
  have Gu:=hide CY
  have hs5:=CY.size
  have gI:Below W4.heap.size W4 (W5.alloc (Obj.cells #[.string ⟨#[82,67,80]⟩,.slice a5 (ay List.isEmpty [([]:Field),ah (bR u)]).length c5] 54)):=CY.alloc CY.size _
  have gZ:=jF Sv.out gI
  have HF5:Hid (aG (W4.heap.size+1) W5 (.slice a5 (ay List.isEmpty [([]:Field),ah (bR u)]).length c5) (ay List.isEmpty [([]:Field),ah (bR u)])):=gP P6 (by rw[Deep.nblk_alloc];have:=Jz.out.size;omega)
  have hbase:W.heap.size≤W5.heap.size:=by have:=o7.out.size;omega
  clear P6 P8 hb5 CY gI m0 m4 m5
  go_wp2_with (first
   | (at_builtin;refine wpList_append_own_at _ rfl _ _ 26 rfl W.heap.size 54 iS (.agg #[.string ByteArray.empty,.slice none 0 0]) 2 40 Tryz.underlying26 XI hS0 hS1 hS2 rfl (by decide) _ _ _ rfl gZ ⟨W5.heap.size,0,none⟩ 1 1 [.string ⟨#[82,67,80]⟩,.slice a5 (ay List.isEmpty [([]:Field),ah (bR u)]).length c5] rfl rfl (kT W5 _ _ _) (kU _ _ _ _) (by unfold maxLen;omega) (by omega) (by rw[Deep.nblk_alloc];omega) ?_)
   | fail)
  intro v' w6 hown' hgrow hnil hat
  obtain⟨a6,c6,rfl⟩:=yR hown'
  have hgrow':(W5.alloc (Obj.cells #[.string ⟨#[82,67,80]⟩,.slice a5 (ay List.isEmpty [([]:Field),ah (bR u)]).length c5] 54)).grownBy w6 (some w3.heap.size):=by simpa [Value.ownBlock] using hgrow
  have LM:Below W.heap.size W w6:=by
   have q:=(aJ Gu.out o7.out).alloc (aJ Gu.out o7.out).size (Obj.cells #[.string ⟨#[82,67,80]⟩,.slice a5 (ay List.isEmpty [([]:Field),ah (bR u)]).length c5] 54)
   exact q.grown hgrow' (by rw[Deep.nblk_alloc];omega) (fun b hb'=>by injection hb' with hb';have:=HB3.out.size;omega)
  have iX:Below (w3.heap.size+1) (w3.alloc (Obj.cells #[.string ⟨#[77,83,72]⟩,.slice a1 (aI [⟨#[81,66,80]⟩,⟨#[90,48,49]⟩] control).length c1,.string ⟨#[81,80,68]⟩,.slice a2 (ay List.isEmpty [ah ⟨#[81]⟩,ah tag,ah query]).length c2] 54)) W5:=by rw[HW4.out,←QD.out];exact Gu.out
  have xV:=hide (CX (x:=⟨⟨#[77,83,72]⟩,(aI [⟨#[81,66,80]⟩,⟨#[90,48,49]⟩] control)⟩) (y:=⟨⟨#[81,80,68]⟩,(ay List.isEmpty [ah ⟨#[81]⟩,ah tag,ah query])⟩) (z:=⟨⟨#[82,67,80]⟩,(ay List.isEmpty [([]:Field),ah (bR u)])⟩) HB3.out.size HG.out HF.out HF5.out (by rw[QD.out];omega) iX _ hown' hgrow' (by dsimp only;decide) (by dsimp only;decide) (by dsimp only;decide))
  obtain⟨r0,rf,rl⟩:=jL.out w6 LM
  have jH:Hid (∀x,Below w.heap.size w (w6.setCell ⟨w.heap.size+1,0,none⟩ x)):=fun x=>(aJ LM nA.out).setCell (p:=⟨w.heap.size+1,0,none⟩) (Nat.le_succ _) x
  have Ct:Hid (∀v x,aX W.heap.size w6 v (mg control tag query (bR u))→aX w.heap.size (w6.setCell ⟨w.heap.size+1,0,none⟩ x) v (mg control tag query (bR u))):=fun v x h=>CW qc.out h
  clear hown' hgrow hgrow' hnil hat iX LM gZ hs5 hbase
  go_wp2_with fail
  exact bodyPost_ret (v:=.agg #[.slice a6 3 c6]) (by simp[results,Tryz.results7,go_sem,r0,rl]) rfl ⟨_,rfl,Ct.out _ _ xV.out,jH.out _⟩
end Go.Proofs.YtfdihjnlgdiioaaGreatDoor.dB
