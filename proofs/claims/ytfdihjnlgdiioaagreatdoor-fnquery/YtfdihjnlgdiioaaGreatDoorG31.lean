import Derived.Test.YtfdihjnlgdiioaaGreatDoorG26
import Derived.Test.YtfdihjnlgdiioaaGreatDoorG30
import Derived.Deep.LoopGhost
namespace Go.Proofs.YtfdihjnlgdiioaaGreatDoor.dB
open Go.ChangeShapes Go.WideShapes Go.ChangeAt Go.RowKit
set_option linter.unusedVariables false
set_option linter.unusedSimpArgs false
def ZI (v:Value):Prop:=∃a n c,v=.slice a n c∧n≤c∧c≤9223372036854775807
theorem CZ:ZI (.slice none 0 0):=⟨none,0,0,rfl,by omega,by omega⟩
def zi (w:World) (xs:List Seg) (e:Ending) (w':World):Prop:=∃u,e=.returned (.agg #[u])∧(aX w.heap.size w' u xs∧ZI u)∧Below w.heap.size w w'
theorem Sw {base c:Nat} {e:TypeId} {w:World} {v:Value} {n:Nat} {cs:List Value} (h:w.ownsRow base e c v n cs):ZI v:=by
 obtain⟨_,⟨rfl,h0⟩|⟨g,cap,cur,rfl,hg,_,hc,hm,_⟩⟩:=h
 ·exact CZ
 ·exact⟨_,_,_,rfl,hc,by unfold maxLen at hm;omega⟩
def Els (base:Nat) (g:Option Nat) (w:World) (u:Value) (x:Seg):Prop:=∀w':World,w.heap.size≤w'.heap.size→(∀b,base≤b→b<w.heap.size→g≠some b→w'.heap[b]?=w.heap[b]?)→aG base w' u x.fields
structure mY (base:Nat) (w:World) (v:Value) (xs:List Seg) (us:List Value):Prop where
 len:us.length=xs.length
 row:w.ownsRow base 54 2 v xs.length (dw xs us)
 nm:∀x∈xs,x.name.size≤9223372036854775807
 el:∀i (h:i<xs.length) (h1:i<us.length),Els base v.ownBlock w us[i] xs[i]
theorem mY.kept {base:Nat} {w w':World} {v:Value} {xs:List Seg} {us:List Value} (h:mY base w v xs us) (hb:Below w.heap.size w w'):mY base w' v xs us :=
 ⟨h.len,jF h.row hb,h.nm,fun i hi h1 W hs hW=>h.el i hi h1 W (Nat.le_trans hb.size hs) fun b hba hlt hne=>(hW b hba (Nat.lt_of_lt_of_le hlt hb.size) hne).trans (hb.block b hlt)⟩
theorem mY.above {base:Nat} {w w':World} {v:Value} {xs:List Seg} {us:List Value} (h:mY base w v xs us) (hl:xs.length≤9223372036854775807) (hs:w.heap.size≤w'.heap.size) (hb:∀b,base≤b→w'.heap[b]?=w.heap[b]?):aX base w' v xs :=
 uD xs us h.len (mH h.row hb) (aS _) h.nm hl fun i hi h1=>h.el i hi h1 w' hs fun b hba _ _=>hb b hba
theorem mY.kg {base:Nat} {w:World} {v:Value} {xs:List Seg} {us:List Value} (h:mY base w v xs us) (hl:xs.length≤9223372036854775807):aX base w v xs:=h.above hl (aS _) fun _ _=>rfl
theorem mY.push {base:Nat} {w w3 w4:World} {v v' u:Value} {xs:List Seg} {us:List Value} {x:Seg} (h:mY base w v xs us) (hbase:base≤w.heap.size) (hb:Below w.heap.size w w3) (hx:x.name.size≤9223372036854775807) {lo:Nat} (hlo:w.heap.size≤lo) (hu:aG lo w3 u x.fields)
  {n:Nat} (hn:n=xs.length) (ho:w4.ownsRow base 54 2 v' (n+1) (dw xs us++[.string x.name,u])) (hg:w3.grownBy w4 v.ownBlock) (hat:v'.ownBlock=v.ownBlock∨v'.ownBlock=some w3.heap.size) :
  mY base w4 v' (xs++[x]) (us++[u]):=by
 subst hn
 have hown:∀b,v.ownBlock=some b→b<w.heap.size:=fun b hb'=>(rz h.row hb').2
 have hs:=hb.size
 have Ae:=hg.size
 have hold:∀b,b<w.heap.size→v.ownBlock≠some b→w4.heap[b]?=w.heap[b]?:=fun b hb1 hb2=>(hg.block b (Nat.lt_of_lt_of_le hb1 hs) (fun e=>hb2 e.symm)).trans (hb.block b hb1)
 have hnew:∀b,w.heap.size≤b→b<w3.heap.size→w4.heap[b]?=w3.heap[b]?:=fun b h1 h2=>hg.block b h2 (fun e=>by have:=hown b e.symm;omega)
 have hv':∀b,b<w3.heap.size→v.ownBlock≠some b→v'.ownBlock≠some b:=fun b h1 h2 e=>by
  rcases hat with ha|ha
  ·exact h2 (ha.symm.trans e)
  ·rw[ha] at e;injection e with e;omega
 refine⟨by simp[h.len],by rw[qm _ _ _ _ h.len];simpa using ho,fun y hy=>?_,fun i hi h1 W hsW hW=>?_⟩
 ·rcases List.mem_append.1 hy with hy|hy
  ·exact h.nm y hy
  ·rw[List.mem_singleton.1 hy];exact hx
 ·by_cases hil:i<xs.length
  ·have e1:(xs++[x])[i]=xs[i]:=List.getElem_append_left hil
   have e2:(us++[u])[i]=us[i]'(by rw[h.len];exact hil):=List.getElem_append_left (by rw[h.len];exact hil)
   rw[e1,e2]
   refine h.el i hil _ W (by omega) fun b hba hlt hne=>?_
   exact(hW b hba (by omega) (hv' b (by omega) hne)).trans (hold b hlt hne)
  ·have hi2:i=xs.length:=by simp at hi;omega
   subst hi2
   have e1:(xs++[x])[xs.length]'hi=x:=by simp
   have e2:(us++[u])[xs.length]'h1=u:=by simp[←h.len]
   rw[e1,e2]
   refine gP (At.same aP hu ⟨by omega,fun b hlb hlt=>?_⟩) (by omega)
   exact(hW b (by omega) (by omega) (hv' b hlt (fun e=>by have:=hown b e;omega))).trans (hnew b (by omega) hlt)
theorem mY.form {base:Nat} {w:World} {v:Value} {xs:List Seg} {us:List Value} (h:mY base w v xs us):∃a c,v=.slice a xs.length c:=yR h.row
theorem mY.two {base:Nat} {w:World} {x y:Seg} {a b:Value} (hlo:base≤w.heap.size) (hx:x.name.size≤9223372036854775807) (hy:y.name.size≤9223372036854775807) (ha:aG base w a x.fields) (hb:aG base w b y.fields) :
  mY base (w.alloc (Obj.cells #[.string x.name,a,.string y.name,b] 54)) (.slice (some ⟨w.heap.size,0,none⟩) 2 2) [x,y] [a,b]:=by
 refine⟨rfl,AY base w x y a b hlo,fun s hs=>?_,fun i hi h1 W hs hW=>?_⟩
 ·simp only[List.mem_cons,List.not_mem_nil,or_false] at hs
  rcases hs with rfl|rfl <;> assumption
 ·have key:∀(u:Value) (fs:List Field),aG base w u fs→aG base W u fs:=fun u fs h=>At.same aP h ⟨by rw[Deep.nblk_alloc] at hs;omega,fun b hba hlt=>(hW b hba (by rw[Deep.nblk_alloc];omega) (by intro e;simp[Value.ownBlock] at e;omega)).trans (Deep.blk_alloc_lt _ _ _ hlt)⟩
  match i,hi with
  | 0,_=>exact key _ _ ha
  | 1,_=>exact key _ _ hb
theorem wQ (u:Nat) (h:u≤9999):(bR u).size≤20:=by
 have key:∀(j u:Nat),u<10 ^ (j+1)→(bR u).size≤j+1:=by
  intro j
  induction j with
  | zero=>intro u hu;rw[BO u (by omega)];exact aS _
  | succ j ih =>
   intro u hu
   by_cases h10:u<10
   ·rw[BO u h10];show 1≤_;omega
   ·rw[ER u h10,ByteArray.size_append]
    have:=ih (u / 10) (by rw[Nat.pow_succ] at hu;omega)
    have h1:(⟨#[IK (u % 10)]⟩:ByteArray).size=1:=rfl
    omega
 have:=key 3 u (by omega)
 omega
def C8 (r:jM):ByteArray:=if sK r.ack then ⟨#[79,75]⟩ else r.ack
def LQ (r:jM):List Seg:=if sK r.ack then [mD,mF r.ack r.control] else [mD,mF r.ack r.control,Eh (bR r.code.toNat)]
theorem LU {r:jM} (h:iD r=true):LQ r++[nV r.tag (C8 r)]++r.rows.map iZ++sN r.pointer=lJ r:=by
 unfold LQ C8 lJ
 cases h1:sK r.ack
 ·simp only[Bool.false_eq_true,if_false]
  unfold iD at h
  rw[h1] at h
  simp only[Bool.false_eq_true,if_false,Bool.and_eq_true,decide_eq_true_eq] at h
  obtain⟨_,_,_,_,_,_,h5,h6⟩:=h
  rw[List.length_eq_zero_iff.1 h5,Na]
  unfold sN
  rw[if_pos h6]
  rfl
 ·simp only[if_true]
  have e:=ZA h1
  unfold kH
  rw[e]
  rfl
theorem JA {r:jM} (h:iD r=true):aT (lJ r)≤1048576:=by
 have h':=h
 unfold iD at h
 unfold lJ
 cases h1:sK r.ack
 ·rw[h1] at h
  simp only[Bool.false_eq_true,if_false,Bool.and_eq_true,Bool.or_eq_true,decide_eq_true_eq] at h ⊢
  obtain⟨g1,_,_,g4,g5,g6,_⟩:=h
  refine Nb g1 (by rw[Sm g4];decide) ?_
  have h3:=wQ r.code.toNat (by omega)
  omega
 ·simp only[if_true,Bool.and_eq_true] at h ⊢
  exact Jt h.1 h.2.2.1 h.2.1
set_option maxRecDepth 100000 in
set_option maxHeartbeats 8000000 in
theorem El (r:jM) (a:Option Addr) (cap:Nat) (w:World) {lo:Nat} (h1:r.control.size≤9223372036854775807) (h2:r.tag.size≤9223372036854775807) (h3:r.pointer.size≤9223372036854775807) (hv:bq lo w (.slice a r.rows.length cap) r.rows) (hok:iD r=false) :
  Calls Tryz.prog 13 #[gU r (.slice a r.rows.length cap)] w (zi w []):=by
 have Gv:=hide (fun W hW=>xW r a cap W (lo:=lo) h1 h2 h3 (At.kept bE hv (w':=W) hW))
 rw[hok] at Gv
 obtain⟨ack,control,code,tag,rows,pointer⟩:=r
 unfold gU at Gv ⊢
 dsimp only at Gv hv ⊢
 obtain⟨x1,hx1⟩:∃x1,w.alloc (Obj.cells #[.string ack,.string control,.int .i64 code,.string tag,.slice a rows.length cap,.string pointer] 38)=x1:=⟨_,rfl⟩
 obtain⟨w1,hw1⟩:∃w1,x1.alloc (Obj.cells #[.slice none 0 0] 28)=w1:=⟨_,rfl⟩
 have bN:x1.heap.size=w.heap.size+1:=by rw[←hx1];simp
 have dG:w1.heap.size=w.heap.size+1+1:=by rw[←hw1];simp[bN]
 have bx1:Below w.heap.size w x1:=by rw[←hx1];exact aO _ _
 have dV:Below x1.heap.size x1 w1:=by rw[←hw1];exact aO _ _
 have HC:Hid (w1.cell? ⟨w.heap.size,0,none⟩=some (.string ack)∧w1.cell? ⟨w.heap.size,1,none⟩=some (.string control)∧w1.cell? ⟨w.heap.size,2,none⟩=some (.int .i64 code)∧w1.cell? ⟨w.heap.size,3,none⟩=some (.string tag)∧w1.cell? ⟨w.heap.size,4,none⟩=some (.slice a rows.length cap)∧w1.cell? ⟨w.heap.size,5,none⟩=some (.string pointer)):=by
  refine⟨?_,?_,?_,?_,?_,?_⟩ <;> exact(dV.cell (by rw[bN];simp)).trans (by rw[←hx1];simp)
 obtain⟨k0,k1,k2,k3,k4,k5⟩:=HC.out
 have c2:w1.cell? ⟨w.heap.size+1,0,none⟩=some (.slice none 0 0):=by rw[←hw1,←bN];simp
 have f2:w1.frozen? ⟨w.heap.size+1,0,none⟩=false:=by rw[←hw1,←bN];simp
 have HB1:=hide (aJ dV bx1)
 clear hv
 go_enter Tryz.func13,Tryz.ntmps13
 go_wp2_with fail
 refine(Gv.out _ HB1.out).mono ?_
 rintro e W ⟨rfl,hb⟩
 have rl:w.heap.size+1<W.heap.size:=by have:=hb.size;omega
 have r0:W.cell? ⟨w.heap.size+1,0,none⟩=some (.slice none 0 0):=(hb.cell (p:=⟨w.heap.size+1,0,none⟩) (by rw[dG];simp)).trans c2
 have rf:W.frozen? ⟨w.heap.size+1,0,none⟩=false:=(hb.frozen (p:=⟨w.heap.size+1,0,none⟩) (by rw[dG];simp)).trans f2
 have jH:Hid (∀x,Below w.heap.size w (W.setCell ⟨w.heap.size+1,0,none⟩ x)):=fun x=>(aJ hb HB1.out).setCell (p:=⟨w.heap.size+1,0,none⟩) (Nat.le_succ _) x
 clear hb k0 k1 k2 k3 k4 k5 c2 f2 hx1 hw1 bN dG bx1 dV
 go_wp2_with fail
 exact bodyPost_ret (v:=.agg #[.slice none 0 0]) (by simp[results,Tryz.results13,go_sem,r0,rl]) rfl ⟨_,rfl,⟨⟨by simp,.inl ⟨_,_,rfl,rfl⟩⟩,CZ⟩,jH.out _⟩
set_option maxRecDepth 100000 in
set_option maxHeartbeats 16000000 in
theorem C9 (r:jM) (a:Option Addr) (cap:Nat) (w:World) {lo:Nat} (h0:r.ack.size≤1048576) (h1:r.control.size≤1048576) (h2:r.tag.size≤1048576) (h3:r.pointer.size≤1048576) (hv:bq lo w (.slice a r.rows.length cap) r.rows) (hok:iD r=true) :
  Calls Tryz.prog 13 #[gU r (.slice a r.rows.length cap)] w (zi w (gq (lJ r))):=by
 have Gv:=hide (fun W hW=>xW r a cap W (lo:=lo) (by omega) (by omega) (by omega) (At.kept bE hv (w':=W) hW))
 rw[hok] at Gv
 have Ju:Hid (r.rows.length≤200∧∀s∈r.rows,s.size≤1048576):=by
  unfold iD at hok
  simp only[Bool.and_eq_true] at hok
  obtain⟨q1,q2⟩:=Gg hok.2.2.1
  exact⟨q1,fun s hs=>Nat.le_trans (q2 s hs) (by decide)⟩
 have Sy:Hid (sK r.ack=false→1≤r.code∧r.code≤999):=fun h=>by
  unfold iD at hok
  rw[h] at hok
  simp only[Bool.false_eq_true,if_false,Bool.and_eq_true,decide_eq_true_eq] at hok
  exact⟨hok.2.2.2.2.1,hok.2.2.2.2.2.1⟩
 have Fe:=hide (LU hok)
 have nC:=hide (JA hok)
 have HRV:=hide hv
 obtain⟨mM,hmM⟩:∃m,lJ r=m:=⟨_,rfl⟩
 rw[hmM] at Fe nC ⊢
 clear hmM hok hv
 obtain⟨ack,control,code,tag,rows,pointer⟩:=r
 unfold LQ C8 at Fe
 unfold gU at Gv ⊢
 dsimp only at Gv Ju Sy Fe HRV h0 h1 h2 h3 ⊢
 have hrl:rows.length≤200:=Ju.out.1
 obtain⟨iS,XI,hS0,hS1,hS2⟩:=gV qH
 obtain⟨x1,hx1⟩:∃x1,w.alloc (Obj.cells #[.string ack,.string control,.int .i64 code,.string tag,.slice a rows.length cap,.string pointer] 38)=x1:=⟨_,rfl⟩
 obtain⟨w1,hw1⟩:∃w1,x1.alloc (Obj.cells #[.slice none 0 0] 28)=w1:=⟨_,rfl⟩
 have bN:x1.heap.size=w.heap.size+1:=by rw[←hx1];simp
 have dG:w1.heap.size=w.heap.size+1+1:=by rw[←hw1];simp[bN]
 have bx1:Below w.heap.size w x1:=by rw[←hx1];exact aO _ _
 have dV:Below x1.heap.size x1 w1:=by rw[←hw1];exact aO _ _
 have HC:Hid (w1.cell? ⟨w.heap.size,0,none⟩=some (.string ack)∧w1.cell? ⟨w.heap.size,1,none⟩=some (.string control)∧w1.cell? ⟨w.heap.size,2,none⟩=some (.int .i64 code)∧w1.cell? ⟨w.heap.size,3,none⟩=some (.string tag)∧w1.cell? ⟨w.heap.size,4,none⟩=some (.slice a rows.length cap)∧w1.cell? ⟨w.heap.size,5,none⟩=some (.string pointer)):=by
  refine⟨?_,?_,?_,?_,?_,?_⟩ <;> exact(dV.cell (by rw[bN];simp)).trans (by rw[←hx1];simp)
 obtain⟨k0,k1,k2,k3,k4,k5⟩:=HC.out
 have c2:w1.cell? ⟨w.heap.size+1,0,none⟩=some (.slice none 0 0):=by rw[←hw1,←bN];simp
 have f2:w1.frozen? ⟨w.heap.size+1,0,none⟩=false:=by rw[←hw1,←bN];simp
 have HB1:=hide (aJ dV bx1)
 go_enter Tryz.func13,Tryz.ntmps13
 go_wp2_with fail
 refine(Gv.out _ HB1.out).mono ?_
 rintro e W ⟨rfl,hb⟩
 have rl:w.heap.size+1<W.heap.size:=by have:=hb.size;omega
 have pF:w.heap.size<w1.heap.size:=by rw[dG];omega
 have r0:W.cell? ⟨w.heap.size+1,0,none⟩=some (.slice none 0 0):=(hb.cell (p:=⟨w.heap.size+1,0,none⟩) (by rw[dG];simp)).trans c2
 have rf:W.frozen? ⟨w.heap.size+1,0,none⟩=false:=(hb.frozen (p:=⟨w.heap.size+1,0,none⟩) (by rw[dG];simp)).trans f2
 have sO:Hid (∀X,Below W.heap.size W X→X.cell? ⟨w.heap.size,0,none⟩=some (.string ack)∧X.cell? ⟨w.heap.size,1,none⟩=some (.string control)∧X.cell? ⟨w.heap.size,2,none⟩=some (.int .i64 code)∧X.cell? ⟨w.heap.size,3,none⟩=some (.string tag)∧X.cell? ⟨w.heap.size,4,none⟩=some (.slice a rows.length cap)∧X.cell? ⟨w.heap.size,5,none⟩=some (.string pointer)):=fun X h=>by
  have h':=aJ h hb
  exact⟨(h'.cell (p:=⟨w.heap.size,0,none⟩) pF).trans k0,(h'.cell (p:=⟨w.heap.size,1,none⟩) pF).trans k1,(h'.cell (p:=⟨w.heap.size,2,none⟩) pF).trans k2,(h'.cell (p:=⟨w.heap.size,3,none⟩) pF).trans k3,(h'.cell (p:=⟨w.heap.size,4,none⟩) pF).trans k4,(h'.cell (p:=⟨w.heap.size,5,none⟩) pF).trans k5⟩
 have jL:Hid (∀X,Below W.heap.size W X→X.cell? ⟨w.heap.size+1,0,none⟩=some (.slice none 0 0)∧X.frozen? ⟨w.heap.size+1,0,none⟩=false∧w.heap.size+1<X.heap.size):=fun X h =>
  ⟨(h.cell (p:=⟨w.heap.size+1,0,none⟩) rl).trans r0,(h.frozen (p:=⟨w.heap.size+1,0,none⟩) rl).trans rf,by have:=h.size;omega⟩
 obtain⟨wd,hwd⟩:∃wd,W.drew=wd:=⟨_,rfl⟩
 have hbd:Below W.heap.size W wd:=by rw[←hwd];exact(Below.refl _ _).drew
 have DW:Hid (wd.heap.size=W.heap.size):=by rw[←hwd];exact rfl
 have qc:=hide rl
 have uh:=(Below.refl W.heap.size W).drew
 have nA:=hide (aJ hb HB1.out)
 have aeX:=hide (fun X (h:Below W.heap.size W X)=>At.kept bE HRV.out (aJ h nA.out))
 clear k0 k1 k2 k3 k4 k5 hx1 hw1 bN dG bx1 dV c2 f2 hb r0 rf HC rl pF
 go_upto_region 3 with fail
 go_cut [3] (fun v3 wx=>∃(w3:World) (a1:Option Addr) (c1:Nat) (a2:Option Addr) (c2:Nat),v3=.slice (some ⟨w3.heap.size,0,none⟩) 2 2∧wx=w3.alloc (Obj.cells #[.string ⟨#[77,83,72]⟩,.slice a1 (aI [⟨#[82,83,80]⟩,⟨#[90,48,49]⟩] ⟨#[]⟩).length c1,.string ⟨#[77,83,65]⟩,.slice a2 (ay List.isEmpty [ah ack,ah control]).length c2] 54)∧aG W.heap.size w3 (.slice a1 (aI [⟨#[82,83,80]⟩,⟨#[90,48,49]⟩] ⟨#[]⟩).length c1) (aI [⟨#[82,83,80]⟩,⟨#[90,48,49]⟩] ⟨#[]⟩)∧aG W.heap.size w3 (.slice a2 (ay List.isEmpty [ah ack,ah control]).length c2) (ay List.isEmpty [ah ack,ah control])∧Below W.heap.size W w3)
 case first =>
  go_region_held3 (fun X=>X.cell? ⟨w.heap.size,0,none⟩=some (.string ack)∧X.cell? ⟨w.heap.size,1,none⟩=some (.string control)∧X.cell? ⟨w.heap.size,2,none⟩=some (.int .i64 code)∧X.cell? ⟨w.heap.size,3,none⟩=some (.string tag)∧X.cell? ⟨w.heap.size,4,none⟩=some (.slice a rows.length cap)∧X.cell? ⟨w.heap.size,5,none⟩=some (.string pointer))
   (first|with_reducible exact sO.out _ uh|with_reducible exact sO.out _ hbd|with_reducible exact sO.out _ (hbd.alloc hbd.size _)|with_reducible exact sO.out _ gI|with_reducible exact sO.out _ (gI.alloc gI.size _)|with_reducible exact sO.out _ l7|with_reducible exact sO.out _ (l7.alloc l7.size _))
   (first
    | (go_at_call 25;refine(vg ⟨#[82,83,80]⟩ ⟨#[90,48,49]⟩ ⟨#[]⟩ _ (by decide) (by decide) (by decide)).mono ?_;rintro e w2 ⟨u1,rfl,hF1,hb2⟩;obtain⟨a1,c1,rfl⟩:=gN hF1;
       first
       | (have gI:Below W.heap.size W w2:=by with_reducible exact aj hb2 hbd
          have hG1:aG W.heap.size w2 _ _:=gP hF1 (by rw[DW.out];exact Nat.le_succ _))
       | (have gI:Below W.heap.size W w2:=by with_reducible exact aj hb2 (hbd.alloc hbd.size _)
          have hG1:aG W.heap.size w2 _ _:=gP hF1 (by rw[Deep.nblk_alloc,DW.out];omega)))
    | (go_at_call 26;
       first
       | (with_reducible refine(iO ⟨#[77,83,65]⟩ [ack,control] (.slice (some ⟨w2.heap.size,0,none⟩) 2 2) (w2.alloc (Obj.cells #[.string ack,.string control] 9)) (vo w2 ack control h0 h1) uF (Gs h0 h1)).mono ?_;rintro e w3 ⟨u2,rfl,hR2,hb3⟩
          have hF2:aG W.heap.size w3 u2 (ay List.isEmpty [ah ack,ah control]):=gP (gY [ack,control] hR2 uF) (by rw[Deep.nblk_alloc];have:=gI.size;omega)
          have l7:=aj hb3 (gI.alloc gI.size _)
          have hG2:aG W.heap.size w3 _ _:=At.kept aP (At.kept aP hG1 (aO _ _)) hb3
          clear hR2;obtain⟨a2,c2,rfl⟩:=gN hF2)
       | (with_reducible refine(iO ⟨#[77,83,65]⟩ [ack,control] (.slice (some ⟨wd.heap.size,0,none⟩) 2 2) w2 (vk (vo wd ack control h0 h1) hb2) uF (Gs h0 h1)).mono ?_;rintro e w3 ⟨u2,rfl,hR2,hb3⟩
          have hF2:aG W.heap.size w3 u2 (ay List.isEmpty [ah ack,ah control]):=gP (gY [ack,control] hR2 uF) (by have:=gI.size;omega)
          have l7:=aj hb3 gI
          have hG2:aG W.heap.size w3 _ _:=At.kept aP hG1 hb3
          clear hR2;obtain⟨a2,c2,rfl⟩:=gN hF2)))
  all_goals
   have lZ:=hide (And.intro hG2 (And.intro hF2 l7))
   clear hG1 hG2 hF1 hF2 hb2 hb3 gI l7
   go_wp2_with fail
   go_meet
   case rel=>exact⟨w3,a1,c1,a2,c2,rfl,rfl,lZ.out.1,lZ.out.2.1,lZ.out.2.2⟩
 case rest =>
  obtain⟨w3,a1,c1,a2,c2,rfl,hwx,hG,hF,hb3⟩:=hcut
  obtain⟨X,hX⟩:∃X,w3.alloc (Obj.cells #[.string ⟨#[77,83,72]⟩,.slice a1 (aI [⟨#[82,83,80]⟩,⟨#[90,48,49]⟩] ⟨#[]⟩).length c1,.string ⟨#[77,83,65]⟩,.slice a2 (ay List.isEmpty [ah ack,ah control]).length c2] 54)=X:=⟨_,rfl⟩
  have wR:Hid (mY W.heap.size X (.slice (some ⟨w3.heap.size,0,none⟩) 2 2) [mD,mF ack control] [.slice a1 (aI [⟨#[82,83,80]⟩,⟨#[90,48,49]⟩] ⟨#[]⟩).length c1,.slice a2 (ay List.isEmpty [ah ack,ah control]).length c2]):=by
   rw[←hX]
   exact mY.two (x:=mD) (y:=mF ack control) hb3.size (by decide) (show (3:Nat)≤_ by decide) hG hF
  have jr:Hid (Below W.heap.size W X):=by rw[←hX];exact hb3.alloc hb3.size _
  rw[hwx,hX]
  clear hwx hX hG hF hb3
  obtain⟨m0,m1,m2,m3,m4,m5⟩:=sO.out X jr.out
  go_upto_if 21 with fail
  go_cut [3,4] (fun v3 v4 wx=>∃(xs:List Seg) (us:List Value) (a8:Option Addr) (c8:Nat) (st:ByteArray),v3=.slice a8 xs.length c8∧v4=.string st∧mY W.heap.size wx (.slice a8 xs.length c8) xs us∧Below W.heap.size W wx∧xs++[nV tag st]++rows.map iZ++sN pointer=mM∧st.size≤1048576∧xs.length≤4)
  case first =>
   cases Nf:sK ack
   ·have e1:(ack.toList == [65,65])=false:=Nf
    have e1':¬ack.toList=[65,65]:=by rw[beq_eq_false_iff_ne] at e1;exact e1
    have Sz:(!(ack.toList == [65,65]))=true:=by rw[e1];rfl
    obtain⟨q1,q2⟩:=Sy.out Nf
    have ZJ:Hid ([mD,mF ack control,Eh (bR code.toNat)]++[nV tag ack]++rows.map iZ++sN pointer=mM):=by have:=Fe.out;rw[Nf] at this;exact this
    have hdz:(bR code.toNat).size≤1048576:=by have:=wQ code.toNat (by omega);omega
    have K4:=hide (fun X=>nG code.toNat X (by omega))
    have XJ:((code.toNat:Nat):Int)=code:=by omega
    rw[XJ] at K4
    clear Nf XJ
    rw[Sz]
    clear Sz
    go_wp2_with fail
    refine(K4.out _).mono ?_
    rintro e Y ⟨rfl,P9⟩
    have zY:=hide (wR.out.kept P9)
    have jo:Hid (Below W.heap.size W Y):=aJ P9 jr.out
    clear m0 m1 m2 m3 m4 m5 P9
    obtain⟨m0,m1,m2,m3,m4,m5⟩:=sO.out Y jo.out
    go_wp2_with fail
    refine(iO ⟨#[69,82,82]⟩ [⟨#[]⟩,⟨#[]⟩,(bR code.toNat)] _ _ (qP Y ⟨#[]⟩ ⟨#[]⟩ (bR code.toNat) (by decide) (by decide) hdz) kI (uG (by decide) (by decide) hdz)).mono ?_
    rintro e Z5 ⟨uZ,rfl,hRZ,E8⟩
    have hFZ:aG _ Z5 uZ (ay List.isEmpty [([]:Field),([]:Field),ah (bR code.toNat)]):=gY [⟨#[]⟩,⟨#[]⟩,(bR code.toNat)] hRZ kI
    obtain⟨aZ,cZ,rfl⟩:=gN hFZ
    have hcZ:Below Y.heap.size Y Z5:=aJ E8 (aO _ _)
    have hdZ:Below Y.heap.size Y (Z5.alloc (Obj.cells #[.string ⟨#[69,82,82]⟩,.slice aZ (ay List.isEmpty [([]:Field),([]:Field),ah (bR code.toNat)]).length cZ] 54)):=hcZ.alloc hcZ.size _
    have XK:(Z5.alloc (Obj.cells #[.string ⟨#[69,82,82]⟩,.slice aZ (ay List.isEmpty [([]:Field),([]:Field),ah (bR code.toNat)]).length cZ] 54)).ownsRow W.heap.size 54 2 (.slice (some ⟨w3.heap.size,0,none⟩) 2 2) 2 (dw [mD,mF ack control] [.slice a1 (aI [⟨#[82,83,80]⟩,⟨#[90,48,49]⟩] ⟨#[]⟩).length c1,.slice a2 (ay List.isEmpty [ah ack,ah control]).length c2]):=jF zY.out.row hdZ
    have HFZ:Hid (aG Y.heap.size (Z5.alloc (Obj.cells #[.string ⟨#[69,82,82]⟩,.slice aZ (ay List.isEmpty [([]:Field),([]:Field),ah (bR code.toNat)]).length cZ] 54)) (.slice aZ (ay List.isEmpty [([]:Field),([]:Field),ah (bR code.toNat)]).length cZ) (ay List.isEmpty [([]:Field),([]:Field),ah (bR code.toNat)])):=gP (At.kept aP hFZ (aO _ _)) (by rw[Deep.nblk_alloc];omega)
    have hsZ:=hcZ.size
    have ZK:W.heap.size≤Z5.heap.size:=by have:=jo.out.size;omega
    have HDZ:=hide hdZ
    clear hFZ hRZ E8 hcZ hdZ
    go_wp2_with (first
     | (at_builtin;refine wpList_append_own_at _ rfl _ _ 26 rfl W.heap.size 54 iS (.agg #[.string ByteArray.empty,.slice none 0 0]) 2 40 Tryz.underlying26 XI hS0 hS1 hS2 rfl (by decide) _ _ _ rfl XK ⟨Z5.heap.size,0,none⟩ 1 1 [.string ⟨#[69,82,82]⟩,.slice aZ (ay List.isEmpty [([]:Field),([]:Field),ah (bR code.toNat)]).length cZ] rfl rfl (kT Z5 _ _ _) (kU _ _ _ _) (by unfold maxLen;omega) (by omega) (by rw[Deep.nblk_alloc];omega) ?_)
     | fail)
    intro vZ Z SA LV ab2 ab3
    have XL:Hid (mY W.heap.size Z vZ ([mD,mF ack control]++[Eh (bR code.toNat)]) ([.slice a1 (aI [⟨#[82,83,80]⟩,⟨#[90,48,49]⟩] ⟨#[]⟩).length c1,.slice a2 (ay List.isEmpty [ah ack,ah control]).length c2]++[.slice aZ (ay List.isEmpty [([]:Field),([]:Field),ah (bR code.toNat)]).length cZ])):=mY.push (x:=Eh (bR code.toNat)) zY.out jo.out.size HDZ.out (by first|decide|exact(by decide:(3:Nat)≤9223372036854775807)) (aS _) HFZ.out (n:=2) rfl SA LV (by rw[Deep.nblk_alloc];exact ab3)
    have sU:Hid (Below W.heap.size W Z):=by
     have q:=aJ HDZ.out jo.out
     exact q.grown LV q.size (fun b hb'=>(rz zY.out.row hb').1)
    obtain⟨aZ',cZ',eZ⟩:=XL.out.form
    simp only[List.cons_append,List.nil_append,List.length_cons,List.length_nil] at eZ
    subst eZ
    clear m0 m1 m2 m3 m4 m5
    obtain⟨m0,m1,m2,m3,m4,m5⟩:=sO.out Z sU.out
    clear XK SA LV ab2 ab3 hsZ ZK
    go_wp2_with fail
    go_meet
    case rel=>exact⟨[mD,mF ack control,Eh (bR code.toNat)],_,aZ',cZ',ack,rfl,rfl,XL.out,sU.out,ZJ.out,h0,by simp⟩
   ·have e1:(ack.toList == [65,65])=true:=Nf
    have Sz:(!(ack.toList == [65,65]))=false:=by rw[e1];rfl
    have e1':ack.toList=[65,65]:=eq_of_beq e1
    have ZJ:Hid ([mD,mF ack control]++[nV tag ⟨#[79,75]⟩]++rows.map iZ++sN pointer=mM):=by have:=Fe.out;rw[Nf] at this;exact this
    clear Nf
    rw[Sz]
    clear Sz
    go_wp2_with fail
    go_meet
    case rel=>exact⟨[mD,mF ack control],_,_,_,⟨#[79,75]⟩,rfl,rfl,wR.out,jr.out,ZJ.out,by decide,by simp⟩
  case rest =>
   obtain⟨xs,us,a8,c8,st,rfl,rfl,hR,hB,hM,hst,hxl⟩:=hcut
   obtain⟨X,rfl⟩:∃x,x=wc:=⟨_,rfl⟩
   have wR:=hide hR
   have jr:=hide hB
   have HM:=hide hM
   clear hR hB hM m0 m1 m2 m3 m4 m5 Fe Sy
   obtain⟨m0,m1,m2,m3,m4,m5⟩:=sO.out X jr.out
   go_wp2_with fail
   refine(iO ⟨#[81,65,75]⟩ [tag,st] _ _ (vo X tag st h2 hst) uF (Gs h2 hst)).mono ?_
   rintro e Y5 ⟨uY,rfl,XM,P9⟩
   have SB:aG _ Y5 uY (ay List.isEmpty [ah tag,ah st]):=gY [tag,st] XM uF
   obtain⟨aY,cY,rfl⟩:=gN SB
   have Ng:Below X.heap.size X Y5:=aJ P9 (aO _ _)
   have SC:Below X.heap.size X (Y5.alloc (Obj.cells #[.string ⟨#[81,65,75]⟩,.slice aY (ay List.isEmpty [ah tag,ah st]).length cY] 54)):=Ng.alloc Ng.size _
   have xY:=jF wR.out.row SC
   have HFY:Hid (aG X.heap.size (Y5.alloc (Obj.cells #[.string ⟨#[81,65,75]⟩,.slice aY (ay List.isEmpty [ah tag,ah st]).length cY] 54)) (.slice aY (ay List.isEmpty [ah tag,ah st]).length cY) (ay List.isEmpty [ah tag,ah st])):=gP (At.kept aP SB (aO _ _)) (by rw[Deep.nblk_alloc];omega)
   have hsY:=Ng.size
   have Da:W.heap.size≤Y5.heap.size:=by have:=jr.out.size;omega
   have XO:=hide SC
   clear SB XM P9 Ng SC
   go_wp2_with (first
    | (at_builtin;refine wpList_append_own_at _ rfl _ _ 26 rfl W.heap.size 54 iS (.agg #[.string ByteArray.empty,.slice none 0 0]) 2 40 Tryz.underlying26 XI hS0 hS1 hS2 rfl (by decide) _ _ _ rfl xY ⟨Y5.heap.size,0,none⟩ 1 1 [.string ⟨#[81,65,75]⟩,.slice aY (ay List.isEmpty [ah tag,ah st]).length cY] rfl rfl (kT Y5 _ _ _) (kU _ _ _ _) (by unfold maxLen;omega) (by omega) (by rw[Deep.nblk_alloc];omega) ?_)
    | fail)
   intro vY Y uH pG JB JC
   have zY:Hid (mY W.heap.size Y vY (xs++[nV tag st]) (us++[.slice aY (ay List.isEmpty [ah tag,ah st]).length cY])):=mY.push (x:=nV tag st) wR.out jr.out.size XO.out (by first|decide|exact(by decide:(3:Nat)≤9223372036854775807)) (aS _) HFY.out (by simp) uH pG (by rw[Deep.nblk_alloc];exact JC)
   have jo:Hid (Below W.heap.size W Y):=by
    have q:=aJ XO.out jr.out
    exact q.grown pG q.size (fun b hb'=>(rz wR.out.row hb').1)
   obtain⟨aY',cY',eY⟩:=zY.out.form
   simp only[List.length_append,List.length_cons,List.length_nil] at eY
   subst eY
   obtain⟨x3,hx3⟩:∃x3,xs++[nV tag st]=x3:=⟨_,rfl⟩
   have ab4:x3.length=xs.length+1:=by rw[←hx3];simp
   rw[hx3] at zY HM
   obtain⟨us3,ab5⟩:∃us3,us++[.slice aY (ay List.isEmpty [ah tag,ah st]).length cY]=us3:=⟨_,rfl⟩
   rw[ab5] at zY
   have e0:xs.length+(0+1)=x3.length:=by omega
   have hx5:x3.length≤5:=by omega
   rw[e0] at zY ⊢
   clear xY uH pG JB JC hsY Da ab5 hx3 ab4 hxl e0 m0 m1 m2 m3 m4 m5 wR
   obtain⟨m0,m1,m2,m3,m4,m5⟩:=sO.out Y jo.out
   go_wp2_with fail
   go_loopg [3,5] rows.length (fun q v3 i wr=>∃(k:Nat) (us:List Value) (a8:Option Addr) (c8:Nat),k≤rows.length∧q=rows.length - k∧i=.int .i64 (k:Int)∧v3=.slice a8 (x3.length+k) c8∧mY W.heap.size wr (.slice a8 (x3.length+k) c8) (x3++(rows.take k).map iZ) us∧Below W.heap.size W wr)
   case atStart=>exact⟨0,us3,_,_,eH _,rfl,rfl,rfl,by simpa using zY.out,jo.out⟩
   case round =>
    obtain⟨k,us,a8,c8,hk,rfl,rfl,rfl,hR,hB⟩:=hrel
    obtain⟨X,rfl⟩:∃x,x=wr:=⟨_,rfl⟩
    have wR:=hide hR
    have jr:=hide hB
    clear hR hB m0 m1 m2 m3 m4 m5
    obtain⟨m0,m1,m2,m3,m4,m5⟩:=sO.out X jr.out
    by_cases hlt:k<rows.length
    ·have hki:(k:Int)<(rows.length:Int):=by omega
     obtain⟨a',cap',e',hc⟩:=(aeX.out X jr.out).form
     injection e' with ea eb ec
     subst ea ec
     obtain⟨b,off,rfl,_,hbl,hcell,_⟩:=hc k hlt
     clear hc
     rw[Nat.mul_one] at hcell
     obtain⟨x,hx⟩:∃x,rows[k]=x:=⟨_,rfl⟩
     rw[hx] at hcell
     have hxz:x.size≤1048576:=by rw[←hx];exact Ju.out.2 _ (List.getElem_mem hlt)
     have Li:Hid ((rows.take (k+1)).map iZ=(rows.take k).map iZ++[iZ x]):=by show _=_;rw[List.take_succ_eq_append_getElem hlt,List.map_append,hx];rfl
     have hkl:(rows.take k).length=k:=by rw[List.length_take];omega
     obtain⟨xk,hxk⟩:∃xk,x3++(rows.take k).map iZ=xk:=⟨_,rfl⟩
     have ZL:xk.length=x3.length+k:=by rw[←hxk,List.length_append,List.length_map,hkl]
     have HNX:Hid (xk++[iZ x]=x3++(rows.take (k+1)).map iZ):=by show _=_;rw[Li.out,←hxk,List.append_assoc]
     rw[hxk] at wR
     clear hx hxk Li hkl
     go_wp2_with fail
     refine(iO ⟨#[82,68,84]⟩ [x] _ _ (uE X x hxz) one_le (CV hxz)).mono ?_
     rintro e Y5 ⟨uY,rfl,XM,P9⟩
     have SB:aG _ Y5 uY (ay List.isEmpty [ah x]):=gY [x] XM one_le
     obtain⟨aY,cY,rfl⟩:=gN SB
     have Ng:Below X.heap.size X Y5:=aJ P9 (aO _ _)
     have SC:Below X.heap.size X (Y5.alloc (Obj.cells #[.string ⟨#[82,68,84]⟩,.slice aY (ay List.isEmpty [ah x]).length cY] 54)):=Ng.alloc Ng.size _
     have xY:_:=jF wR.out.row SC
     rw[ZL] at xY
     have HFY:Hid (aG X.heap.size (Y5.alloc (Obj.cells #[.string ⟨#[82,68,84]⟩,.slice aY (ay List.isEmpty [ah x]).length cY] 54)) (.slice aY (ay List.isEmpty [ah x]).length cY) (ay List.isEmpty [ah x])):=gP (At.kept aP SB (aO _ _)) (by rw[Deep.nblk_alloc];omega)
     have hsY:=Ng.size
     have Da:W.heap.size≤Y5.heap.size:=by have:=jr.out.size;omega
     have XO:=hide SC
     clear SB XM P9 Ng SC
     go_wp2_with (first
      | (at_builtin;refine wpList_append_own_at _ rfl _ _ 26 rfl W.heap.size 54 iS (.agg #[.string ByteArray.empty,.slice none 0 0]) 2 40 Tryz.underlying26 XI hS0 hS1 hS2 rfl (by decide) _ _ _ rfl xY ⟨Y5.heap.size,0,none⟩ 1 1 [.string ⟨#[82,68,84]⟩,.slice aY (ay List.isEmpty [ah x]).length cY] rfl rfl (kT Y5 _ _ _) (kU _ _ _ _) (by unfold maxLen;omega) (by omega) (by rw[Deep.nblk_alloc];omega) ?_)
      | fail)
     intro vY Y uH pG JB JC
     have zY:Hid (mY W.heap.size Y vY (xk++[iZ x]) (us++[.slice aY (ay List.isEmpty [ah x]).length cY])):=mY.push (x:=iZ x) wR.out jr.out.size XO.out (by first|decide|exact(by decide:(3:Nat)≤9223372036854775807)) (aS _) HFY.out (n:=x3.length+k) ZL.symm uH pG (by rw[Deep.nblk_alloc];exact JC)
     have jo:Hid (Below W.heap.size W Y):=by
      have q:=aJ XO.out jr.out
      exact q.grown pG q.size (fun b hb'=>(rz wR.out.row hb').1)
     obtain⟨aY',cY',eY⟩:=zY.out.form
     simp only[List.length_append,List.length_cons,List.length_nil,ZL] at eY
     subst eY
     clear m0 m1 m2 m3 m4 m5 xY uH pG JB JC hsY Da
     obtain⟨m0,m1,m2,m3,m4,m5⟩:=sO.out Y jo.out
     have e0:x3.length+k+(0+1)=x3.length+(k+1):=by omega
     rw[HNX.out,e0] at zY
     rw[e0]
     clear e0
     go_wp2_with fail
     go_roundg (rows.length - (k+1))
     case measure=>omega
     case rel=>exact⟨k+1,_,_,_,by omega,rfl,by go_num,rfl,zY.out,jo.out⟩
    ·have hki:¬(k:Int)<(rows.length:Int):=by omega
     obtain rfl:k=rows.length:=by omega
     obtain⟨x4,hx4⟩:∃x4,x3++rows.map iZ=x4:=⟨_,rfl⟩
     have ab6:x4.length=x3.length+rows.length:=by rw[←hx4];simp
     rw[List.take_length,hx4] at wR
     rw[hx4] at HM
     have ahc:x4.length≤205:=by omega
     rw[←ab6] at wR ⊢
     clear hx4 ab6
     go_upto_if 60 with fail
     go_cut [3] (fun v3 wx=>∃(us:List Value) (a9:Option Addr) (c9:Nat),v3=.slice a9 mM.length c9∧mY W.heap.size wx (.slice a9 mM.length c9) mM us∧Below W.heap.size W wx)
     case first =>
      by_cases hp0:(0:Int)<(pointer.size:Int)
      ·have HMM:Hid (x4++[wO pointer]=mM):=by have:=HM.out;unfold sN at this;rw[if_neg (by omega)] at this;exact this
       go_wp2_with fail
       refine(iO ⟨#[68,83,67]⟩ [pointer] _ _ (uE X pointer h3) one_le (CV h3)).mono ?_
       rintro e Y5 ⟨uY,rfl,XM,P9⟩
       have SB:aG _ Y5 uY (ay List.isEmpty [ah pointer]):=gY [pointer] XM one_le
       obtain⟨aY,cY,rfl⟩:=gN SB
       have Ng:Below X.heap.size X Y5:=aJ P9 (aO _ _)
       have SC:Below X.heap.size X (Y5.alloc (Obj.cells #[.string ⟨#[68,83,67]⟩,.slice aY (ay List.isEmpty [ah pointer]).length cY] 54)):=Ng.alloc Ng.size _
       have xY:=jF wR.out.row SC
       have HFY:Hid (aG X.heap.size (Y5.alloc (Obj.cells #[.string ⟨#[68,83,67]⟩,.slice aY (ay List.isEmpty [ah pointer]).length cY] 54)) (.slice aY (ay List.isEmpty [ah pointer]).length cY) (ay List.isEmpty [ah pointer])):=gP (At.kept aP SB (aO _ _)) (by rw[Deep.nblk_alloc];omega)
       have hsY:=Ng.size
       have Da:W.heap.size≤Y5.heap.size:=by have:=jr.out.size;omega
       have XO:=hide SC
       clear SB XM P9 Ng SC
       go_wp2_with (first
        | (at_builtin;refine wpList_append_own_at _ rfl _ _ 26 rfl W.heap.size 54 iS (.agg #[.string ByteArray.empty,.slice none 0 0]) 2 40 Tryz.underlying26 XI hS0 hS1 hS2 rfl (by decide) _ _ _ rfl xY ⟨Y5.heap.size,0,none⟩ 1 1 [.string ⟨#[68,83,67]⟩,.slice aY (ay List.isEmpty [ah pointer]).length cY] rfl rfl (kT Y5 _ _ _) (kU _ _ _ _) (by unfold maxLen;omega) (by omega) (by rw[Deep.nblk_alloc];omega) ?_)
        | fail)
       intro vY Y uH pG JB JC
       have zY:Hid (mY W.heap.size Y vY (x4++[wO pointer]) (us++[.slice aY (ay List.isEmpty [ah pointer]).length cY])):=mY.push (x:=wO pointer) wR.out jr.out.size XO.out (by first|decide|exact(by decide:(3:Nat)≤9223372036854775807)) (aS _) HFY.out (by simp) uH pG (by rw[Deep.nblk_alloc];exact JC)
       have jo:Hid (Below W.heap.size W Y):=by
        have q:=aJ XO.out jr.out
        exact q.grown pG q.size (fun b hb'=>(rz wR.out.row hb').1)
       obtain⟨aY',cY',eY⟩:=zY.out.form
       simp only[List.length_append,List.length_cons,List.length_nil] at eY
       subst eY
       have e0:x4.length+(0+1)=mM.length:=by rw[←HMM.out];simp
       rw[HMM.out,e0] at zY
       rw[e0]
       clear xY uH pG JB JC hsY Da e0
       go_wp2_with fail
       go_meet
       case rel=>exact⟨_,_,_,rfl,zY.out,jo.out⟩
      ·have HMM:Hid (x4=mM):=by have:=HM.out;unfold sN at this;rw[if_pos (by omega),List.append_nil] at this;exact this
       rw[HMM.out] at wR ⊢
       go_wp2_with fail
       go_meet
       case rel=>exact⟨_,_,_,rfl,wR.out,jr.out⟩
     case rest =>
      obtain⟨us9,a9,c9,rfl,hR,hB⟩:=hcut
      obtain⟨X9,rfl⟩:∃x,x=wc:=⟨_,rfl⟩
      have hml:mM.length≤1048576:=by have:=nC.out;unfold aT aH at this;omega
      obtain⟨X10,Wo⟩:∃X10,X9.alloc (Obj.cells #[.slice a9 mM.length c9] 28)=X10:=⟨_,rfl⟩
      have nQ:Below X9.heap.size X9 X10:=by rw[←Wo];exact aO _ _
      have ab7:X10.heap.size=X9.heap.size+1:=by rw[←Wo];simp
      have n0:X10.cell? ⟨X9.heap.size,0,none⟩=some (.slice a9 mM.length c9):=by rw[←Wo];simp
      have xV:=hide ((hR.kept nQ).kg (by omega))
      have aeY:=hide (hR.kept nQ)
      have aeZ:=hide (aJ nQ hB)
      clear m0 m1 m2 m3 m4 m5 hR hB nQ
      go_wp2_with fail
      refine(Ea mM _ X10 nC.out xV.out).mono ?_
      rintro e X11 ⟨rfl,wK⟩
      have ab8:=hide (aJ wK aeZ.out)
      obtain⟨r0,rf,rl⟩:=jL.out X11 ab8.out
      have n1:X11.cell? ⟨X9.heap.size,0,none⟩=some (.slice a9 mM.length c9):=(wK.cell (p:=⟨X9.heap.size,0,none⟩) (by rw[ab7];simp)).trans n0
      have jH:Hid (∀x,Below w.heap.size w (X11.setCell ⟨w.heap.size+1,0,none⟩ x)):=fun x=>(aJ ab8.out nA.out).setCell (p:=⟨w.heap.size+1,0,none⟩) (Nat.le_succ _) x
      have ab9:=hide (aeY.out.kept wK)
      have Ct:Hid (∀x,aX w.heap.size (X11.setCell ⟨w.heap.size+1,0,none⟩ x) (.slice a9 mM.length c9) mM):=fun x=>by
       exact At.mono qy (ab9.out.above (by omega) (by rw[Deep.nblk_setCell];exact aS _) fun b hb=>Deep.blk_setCell_other _ ⟨w.heap.size+1,0,none⟩ _ b (by have:=qc.out;dsimp only;omega)) (by have:=qc.out;omega)
      clear wK n0 ab7 Wo
      have hbb:dW mM=true∨dW mM=false:=by cases dW mM;exact .inr rfl;exact .inl rfl
      rcases hbb with hbb|hbb
      ·have Wp:Hid (gq mM=mM):=by unfold gq;rw[hbb];exact rfl
       rw[hbb]
       clear hbb
       go_wp2_with fail
       exact bodyPost_ret (v:=.agg #[.slice a9 mM.length c9]) (by simp[results,Tryz.results13,go_sem,r0,rl]) rfl (by rw[Wp.out];exact⟨_,rfl,⟨Ct.out _,Sw ab9.out.row⟩,jH.out _⟩)
      ·have Wp:Hid (gq mM=[]):=by unfold gq;rw[hbb];exact rfl
       rw[hbb]
       clear hbb
       go_wp2_with fail
       exact bodyPost_ret (v:=.agg #[.slice none 0 0]) (by simp[results,Tryz.results13,go_sem,r0,rl]) rfl (by rw[Wp.out];exact⟨_,rfl,⟨⟨by simp,.inl ⟨_,_,rfl,rfl⟩⟩,CZ⟩,jH.out _⟩)
theorem uI (r:jM) (a:Option Addr) (cap:Nat) (w:World) {lo:Nat} (h0:r.ack.size≤1048576) (h1:r.control.size≤1048576) (h2:r.tag.size≤1048576) (h3:r.pointer.size≤1048576) (hv:bq lo w (.slice a r.rows.length cap) r.rows) :
  Calls Tryz.prog 13 #[gU r (.slice a r.rows.length cap)] w (zi w (fE r)):=by
 unfold fE
 cases hok:iD r
 ·exact El r a cap w (by omega) (by omega) (by omega) hv hok
 ·exact C9 r a cap w h0 h1 h2 h3 hv hok
theorem wh (r:jM) (a:Option Addr) (cap:Nat) (w:World) {lo:Nat} (h0:r.ack.size≤1048576) (h1:r.control.size≤1048576) (h2:r.tag.size≤1048576) (h3:r.pointer.size≤1048576) (hv:bq lo w (.slice a r.rows.length cap) r.rows) :
  Calls Tryz.prog 13 #[gU r (.slice a r.rows.length cap)] w (pE w (fE r)) :=
 (uI r a cap w h0 h1 h2 h3 hv).mono fun _ _ ⟨u,e,⟨h,_⟩,hb⟩=>⟨u,e,h,hb⟩
end Go.Proofs.YtfdihjnlgdiioaaGreatDoor.dB
