import Derived.Test.YtfdihjnlgdiioaaGreatDoorG34
namespace Go.Proofs.YtfdihjnlgdiioaaGreatDoor.dB
open Go.ChangeShapes Go.WideShapes Go.ChangeAt Go.RowKit
set_option linter.unusedVariables false
set_option linter.unusedSimpArgs false
def ac9 (w:World) (v:Value) (xs:List Seg):Prop:=∀(W:World) (n:ByteArray) (f c:Int),Below w.heap.size w W→n.size≤3→0≤f→f≤20→0≤c→c≤20 →
 Calls Tryz.prog 44 #[.agg #[v],.string n,.int .i64 f,.int .i64 c] W fun e W'=>e=.returned (.string (aB xs n f c))∧Below W.heap.size W W'
theorem WK {xs:List Seg} {v:Value} {w:World} {lo:Nat} (hv:aX lo w v xs) (hsz:aT xs≤1048576):ac9 w v xs:=fun W n f c hb hn h1 h2 h3 h4 =>
 zB xs n f c v W (by omega) (by unfold aT aH at hsz;omega) (by omega) (by omega) (by omega) (by omega) (At.kept bA hv hb) (fun i h=>by
  have h5:=Rk bB xs i h
  have h6:aT xs=xs.length+sumOf bB xs:=rfl
  have h7:bB xs[i]=xs[i].name.size+(xs[i].fields.length+sumOf aF xs[i].fields):=rfl
  omega)
theorem Po (W:World) (b o d p:Nat) (a:Value) (h:d≠b):(W.setCell ⟨b,o,none⟩ a).cell? ⟨d,p,none⟩=W.cell? ⟨d,p,none⟩:=Fj (set1 W b o d a h)
theorem WL {w w':World} {b o:Nat} (h:w'.heap[b]?=w.heap[b]?):w'.frozen? ⟨b,o,none⟩=w.frozen? ⟨b,o,none⟩:=World.frozen?_of_block h
theorem Tw (W:World) (b o d p:Nat) (a:Value) (h:d≠b):(W.setCell ⟨b,o,none⟩ a).frozen? ⟨d,p,none⟩=W.frozen? ⟨d,p,none⟩:=WL (set1 W b o d a h)
theorem Tx (W:World) (b o p:Nat) (a:Value) (h:p≠o):(W.setCell ⟨b,o,none⟩ a).cell? ⟨b,p,none⟩=W.cell? ⟨b,p,none⟩:=World.cell?_setCell_other _ _ _ _ (by intro e;injection e with e1 e2;exact h e2.symm)
set_option maxRecDepth 100000 in
set_option maxHeartbeats 4000000 in
theorem GK (xs:List Seg) (v:Value) (w:World) (hG:ac9 w v xs) (hsz:aT xs≤1048576) :
  Calls Tryz.prog 17 #[.agg #[v]] w fun e w'=>e=.returned (fU (qQ iG xs))∧Below w.heap.size w w':=by
 have L6:=(Below.refl w.heap.size w).alloc (aS _) (Obj.cells #[v] 28)
 have K8:=L6.alloc L6.size (Obj.cells #[.int .i64 0,.string ⟨#[]⟩,.string ⟨#[]⟩,.string ⟨#[]⟩,.int .i64 0,.string ⟨#[]⟩] 24)
 have hb0:=K8.alloc K8.size (Obj.cells #[.int .i64 0,.string ⟨#[]⟩,.string ⟨#[]⟩,.string ⟨#[]⟩,.int .i64 0,.string ⟨#[]⟩] 24)
 obtain⟨a2,ha2⟩:∃a2,(w.alloc (Obj.cells #[v] 28)).alloc (Obj.cells #[.int .i64 0,.string ⟨#[]⟩,.string ⟨#[]⟩,.string ⟨#[]⟩,.int .i64 0,.string ⟨#[]⟩] 24)=a2:=⟨_,rfl⟩
 have Qb:a2.cell? ⟨w.heap.size,0,none⟩=some v:=by rw[←ha2,World.cell?_alloc_lt _ _ ⟨w.heap.size,0,none⟩ (by simp)];simp
 have JR:a2.heap.size=w.heap.size+1+1:=by rw[←ha2];simp
 have j0:a2.cell? ⟨w.heap.size+1,0,none⟩=some (.int .i64 0):=by rw[←ha2];simp
 have j1:a2.cell? ⟨w.heap.size+1,1,none⟩=some (.string ⟨#[]⟩):=by rw[←ha2];simp
 have j2:a2.cell? ⟨w.heap.size+1,2,none⟩=some (.string ⟨#[]⟩):=by rw[←ha2];simp
 have j3:a2.cell? ⟨w.heap.size+1,3,none⟩=some (.string ⟨#[]⟩):=by rw[←ha2];simp
 have j4:a2.cell? ⟨w.heap.size+1,4,none⟩=some (.int .i64 0):=by rw[←ha2];simp
 have j5:a2.cell? ⟨w.heap.size+1,5,none⟩=some (.string ⟨#[]⟩):=by rw[←ha2];simp
 have jf:∀i,a2.frozen? ⟨w.heap.size+1,i,none⟩=false:=fun i=>by rw[←ha2];simp
 obtain⟨w1,hw1⟩:∃w1,a2.alloc (Obj.cells #[.int .i64 0,.string ⟨#[]⟩,.string ⟨#[]⟩,.string ⟨#[]⟩,.int .i64 0,.string ⟨#[]⟩] 24)=w1:=⟨_,rfl⟩
 rw[ha2,hw1] at hb0
 have hs1:w1.heap.size=w.heap.size+1+1+1:=by rw[←hw1];simp[JR]
 have ba:Below a2.heap.size a2 w1:=by rw[←hw1];exact aO _ _
 have hcv:w1.cell? ⟨w.heap.size,0,none⟩=some v:=(ba.cell (p:=⟨w.heap.size,0,none⟩) (by rw[JR];simp;omega)).trans Qb
 have k0:w1.cell? ⟨w.heap.size+1,0,none⟩=some (.int .i64 0):=(ba.cell (p:=⟨w.heap.size+1,0,none⟩) (by rw[JR];simp)).trans j0
 have q0:w1.cell? ⟨w.heap.size+1+1,0,none⟩=some (.int .i64 0):=by rw[←hw1,←JR];simp
 have k1:w1.cell? ⟨w.heap.size+1,1,none⟩=some (.string ⟨#[]⟩):=(ba.cell (p:=⟨w.heap.size+1,1,none⟩) (by rw[JR];simp)).trans j1
 have q1:w1.cell? ⟨w.heap.size+1+1,1,none⟩=some (.string ⟨#[]⟩):=by rw[←hw1,←JR];simp
 have k2:w1.cell? ⟨w.heap.size+1,2,none⟩=some (.string ⟨#[]⟩):=(ba.cell (p:=⟨w.heap.size+1,2,none⟩) (by rw[JR];simp)).trans j2
 have q2:w1.cell? ⟨w.heap.size+1+1,2,none⟩=some (.string ⟨#[]⟩):=by rw[←hw1,←JR];simp
 have k3:w1.cell? ⟨w.heap.size+1,3,none⟩=some (.string ⟨#[]⟩):=(ba.cell (p:=⟨w.heap.size+1,3,none⟩) (by rw[JR];simp)).trans j3
 have q3:w1.cell? ⟨w.heap.size+1+1,3,none⟩=some (.string ⟨#[]⟩):=by rw[←hw1,←JR];simp
 have k4:w1.cell? ⟨w.heap.size+1,4,none⟩=some (.int .i64 0):=(ba.cell (p:=⟨w.heap.size+1,4,none⟩) (by rw[JR];simp)).trans j4
 have q4:w1.cell? ⟨w.heap.size+1+1,4,none⟩=some (.int .i64 0):=by rw[←hw1,←JR];simp
 have k5:w1.cell? ⟨w.heap.size+1,5,none⟩=some (.string ⟨#[]⟩):=(ba.cell (p:=⟨w.heap.size+1,5,none⟩) (by rw[JR];simp)).trans j5
 have q5:w1.cell? ⟨w.heap.size+1+1,5,none⟩=some (.string ⟨#[]⟩):=by rw[←hw1,←JR];simp
 have kf:∀i,w1.frozen? ⟨w.heap.size+1,i,none⟩=false:=fun i=>(ba.frozen (p:=⟨w.heap.size+1,i,none⟩) (by rw[JR];simp)).trans (jf i)
 have qf:∀i,w1.frozen? ⟨w.heap.size+1+1,i,none⟩=false:=fun i=>by rw[←hw1,←JR];simp
 have HW1:Hid (((w.alloc (Obj.cells #[v] 28)).alloc (Obj.cells #[.int .i64 0,.string ⟨#[]⟩,.string ⟨#[]⟩,.string ⟨#[]⟩,.int .i64 0,.string ⟨#[]⟩] 24)).alloc (Obj.cells #[.int .i64 0,.string ⟨#[]⟩,.string ⟨#[]⟩,.string ⟨#[]⟩,.int .i64 0,.string ⟨#[]⟩] 24)=w1):=by rw[ha2];exact hw1
 have HF:Hid (∀X,Below w1.heap.size w1 X→∀b o,b<w1.heap.size→X.cell? ⟨b,o,none⟩=w1.cell? ⟨b,o,none⟩∧X.frozen? ⟨b,o,none⟩=w1.frozen? ⟨b,o,none⟩):=fun X h b o hl=>⟨h.cell (p:=⟨b,o,none⟩) hl,h.frozen (p:=⟨b,o,none⟩) hl⟩
 have fM:Hid (∀X,Below w1.heap.size w1 X→(X.cell? ⟨w.heap.size,0,none⟩=some v∧X.cell? ⟨w.heap.size+1,0,none⟩=some (.int .i64 0)∧X.cell? ⟨w.heap.size+1,1,none⟩=some (.string ⟨#[]⟩)∧X.cell? ⟨w.heap.size+1,2,none⟩=some (.string ⟨#[]⟩)∧X.cell? ⟨w.heap.size+1,3,none⟩=some (.string ⟨#[]⟩)∧X.cell? ⟨w.heap.size+1,4,none⟩=some (.int .i64 0)∧X.cell? ⟨w.heap.size+1,5,none⟩=some (.string ⟨#[]⟩)∧(∀i,X.frozen? ⟨w.heap.size+1,i,none⟩=false)∧w.heap.size+1<X.heap.size)):=fun X h=>by
  have hsx:=h.size
  refine⟨?_,?_,?_,?_,?_,?_,?_,fun i=>?_,by omega⟩
  ·rw[(HF.out X h _ _ (by omega)).1];exact hcv
  ·rw[(HF.out X h _ _ (by omega)).1];exact k0
  ·rw[(HF.out X h _ _ (by omega)).1];exact k1
  ·rw[(HF.out X h _ _ (by omega)).1];exact k2
  ·rw[(HF.out X h _ _ (by omega)).1];exact k3
  ·rw[(HF.out X h _ _ (by omega)).1];exact k4
  ·rw[(HF.out X h _ _ (by omega)).1];exact k5
  ·rw[(HF.out X h _ _ (by omega)).2];exact kf i
 have uU:Hid (∀X,Below w1.heap.size w1 X→(X.cell? ⟨w.heap.size+1+1,0,none⟩=some (.int .i64 0)∧X.cell? ⟨w.heap.size+1+1,1,none⟩=some (.string ⟨#[]⟩)∧X.cell? ⟨w.heap.size+1+1,2,none⟩=some (.string ⟨#[]⟩)∧X.cell? ⟨w.heap.size+1+1,3,none⟩=some (.string ⟨#[]⟩)∧X.cell? ⟨w.heap.size+1+1,4,none⟩=some (.int .i64 0)∧X.cell? ⟨w.heap.size+1+1,5,none⟩=some (.string ⟨#[]⟩)∧w.heap.size+1+1<X.heap.size)∧X.frozen? ⟨w.heap.size+1+1,1,none⟩=false):=fun X h=>by
  have hsx:=h.size
  refine⟨⟨?_,?_,?_,?_,?_,?_,by omega⟩,?_⟩
  ·rw[(HF.out X h _ _ (by omega)).1];exact q0
  ·rw[(HF.out X h _ _ (by omega)).1];exact q1
  ·rw[(HF.out X h _ _ (by omega)).1];exact q2
  ·rw[(HF.out X h _ _ (by omega)).1];exact q3
  ·rw[(HF.out X h _ _ (by omega)).1];exact q4
  ·rw[(HF.out X h _ _ (by omega)).1];exact q5
  ·rw[(HF.out X h _ _ (by omega)).2];exact qf 1
 clear k0 k1 k2 k3 k4 k5 q0 q1 q2 q3 q4 q5 kf qf L6 K8 hcv j0 j1 j2 j3 j4 j5 jf ba Qb hw1 ha2 JR
 have HB0:=hide hb0
 unfold qQ
 have z0:=bK xs ⟨#[77,83,72]⟩ 9 1
 have z1:=bK xs ⟨#[77,83,72]⟩ 10 1
 have z2:=bK xs ⟨#[77,83,72]⟩ 12 1
 have z3:=bK xs ⟨#[81,73,68]⟩ 1 1
 have z4:=bK xs ⟨#[81,80,68]⟩ 2 1
 have z5:=bK xs ⟨#[81,80,68]⟩ 3 1
 have z6:=bK xs ⟨#[68,83,67]⟩ 1 1
 have z7:=bK xs ⟨#[82,67,80]⟩ 2 1
 obtain⟨kind,h0⟩:∃z,aB xs ⟨#[77,83,72]⟩ 9 1=z:=⟨_,rfl⟩
 rw[h0] at z0
 have Z0:kind.size≤9223372036854775807:=by omega
 obtain⟨ct,h1⟩:∃z,aB xs ⟨#[77,83,72]⟩ 10 1=z:=⟨_,rfl⟩
 rw[h1] at z1
 have Z1:ct.size≤9223372036854775807:=by omega
 obtain⟨ver,h2⟩:∃z,aB xs ⟨#[77,83,72]⟩ 12 1=z:=⟨_,rfl⟩
 rw[h2] at z2
 have Z2:ver.size≤9223372036854775807:=by omega
 obtain⟨dZ,h3⟩:∃z,aB xs ⟨#[81,73,68]⟩ 1 1=z:=⟨_,rfl⟩
 rw[h3] at z3
 have Z3:dZ.size≤9223372036854775807:=by omega
 obtain⟨tag,h4⟩:∃z,aB xs ⟨#[81,80,68]⟩ 2 1=z:=⟨_,rfl⟩
 rw[h4] at z4
 have Z4:tag.size≤9223372036854775807:=by omega
 obtain⟨query,h5⟩:∃z,aB xs ⟨#[81,80,68]⟩ 3 1=z:=⟨_,rfl⟩
 rw[h5] at z5
 have Z5:query.size≤9223372036854775807:=by omega
 obtain⟨pointer,h6⟩:∃z,aB xs ⟨#[68,83,67]⟩ 1 1=z:=⟨_,rfl⟩
 rw[h6] at z6
 have Z6:pointer.size≤9223372036854775807:=by omega
 obtain⟨size,h7⟩:∃z,aB xs ⟨#[82,67,80]⟩ 2 1=z:=⟨_,rfl⟩
 rw[h7] at z7
 have Z7:size.size≤9223372036854775807:=by omega
 rw[h0,h1,h2,h3,h4,h5,h6,h7]
 have G0:Hid (∀W,Below w.heap.size w W→Calls Tryz.prog 44 #[.agg #[v],.string ⟨#[77,83,72]⟩,.int .i64 9,.int .i64 1] W fun e W'=>e=.returned (.string kind)∧Below W.heap.size W W'):=fun W hb=>by
  have:=hG W ⟨#[77,83,72]⟩ 9 1 hb (by decide) (by decide) (by decide) (by decide) (by decide)
  rw[h0] at this
  exact this
 have G1:Hid (∀W,Below w.heap.size w W→Calls Tryz.prog 44 #[.agg #[v],.string ⟨#[77,83,72]⟩,.int .i64 10,.int .i64 1] W fun e W'=>e=.returned (.string ct)∧Below W.heap.size W W'):=fun W hb=>by
  have:=hG W ⟨#[77,83,72]⟩ 10 1 hb (by decide) (by decide) (by decide) (by decide) (by decide)
  rw[h1] at this
  exact this
 have G2:Hid (∀W,Below w.heap.size w W→Calls Tryz.prog 44 #[.agg #[v],.string ⟨#[77,83,72]⟩,.int .i64 12,.int .i64 1] W fun e W'=>e=.returned (.string ver)∧Below W.heap.size W W'):=fun W hb=>by
  have:=hG W ⟨#[77,83,72]⟩ 12 1 hb (by decide) (by decide) (by decide) (by decide) (by decide)
  rw[h2] at this
  exact this
 have G3:Hid (∀W,Below w.heap.size w W→Calls Tryz.prog 44 #[.agg #[v],.string ⟨#[81,73,68]⟩,.int .i64 1,.int .i64 1] W fun e W'=>e=.returned (.string dZ)∧Below W.heap.size W W'):=fun W hb=>by
  have:=hG W ⟨#[81,73,68]⟩ 1 1 hb (by decide) (by decide) (by decide) (by decide) (by decide)
  rw[h3] at this
  exact this
 have G4:Hid (∀W,Below w.heap.size w W→Calls Tryz.prog 44 #[.agg #[v],.string ⟨#[81,80,68]⟩,.int .i64 2,.int .i64 1] W fun e W'=>e=.returned (.string tag)∧Below W.heap.size W W'):=fun W hb=>by
  have:=hG W ⟨#[81,80,68]⟩ 2 1 hb (by decide) (by decide) (by decide) (by decide) (by decide)
  rw[h4] at this
  exact this
 have G5:Hid (∀W,Below w.heap.size w W→Calls Tryz.prog 44 #[.agg #[v],.string ⟨#[81,80,68]⟩,.int .i64 3,.int .i64 1] W fun e W'=>e=.returned (.string query)∧Below W.heap.size W W'):=fun W hb=>by
  have:=hG W ⟨#[81,80,68]⟩ 3 1 hb (by decide) (by decide) (by decide) (by decide) (by decide)
  rw[h5] at this
  exact this
 have G6:Hid (∀W,Below w.heap.size w W→Calls Tryz.prog 44 #[.agg #[v],.string ⟨#[68,83,67]⟩,.int .i64 1,.int .i64 1] W fun e W'=>e=.returned (.string pointer)∧Below W.heap.size W W'):=fun W hb=>by
  have:=hG W ⟨#[68,83,67]⟩ 1 1 hb (by decide) (by decide) (by decide) (by decide) (by decide)
  rw[h6] at this
  exact this
 have G7:Hid (∀W,Below w.heap.size w W→Calls Tryz.prog 44 #[.agg #[v],.string ⟨#[82,67,80]⟩,.int .i64 2,.int .i64 1] W fun e W'=>e=.returned (.string size)∧Below W.heap.size W W'):=fun W hb=>by
  have:=hG W ⟨#[82,67,80]⟩ 2 1 hb (by decide) (by decide) (by decide) (by decide) (by decide)
  rw[h7] at this
  exact this
 clear h0 h1 h2 h3 h4 h5 h6 h7 z0 z1 z2 z3 z4 z5 z6 z7 hG hb0
 have HRO:Hid (∀num,bG kind ct ver dZ tag query pointer size num=bG kind ct ver dZ tag query pointer size num):=fun _=>rfl
 generalize ada:iG size.data.toList=num
 have JU:=hide ada
 clear ada
 cases hcb:aL ct
 ·have HT:Hid (told ct=⟨0,⟨#[]⟩,⟨#[]⟩,⟨#[]⟩,0,⟨#[]⟩⟩):=by unfold told;rw[hcb];rfl
  cases hq:(kind.toList == [81,66,80]) <;> cases hc:(kind.toList == [81,67,78])
  case false.false =>
   have HX:Hid (bG kind ct ver dZ tag query pointer size num=(told ct,200)):=by unfold bG;rw[hq,hc];rfl
   go_enter Tryz.func17,Tryz.ntmps17
   go_wp2_with fail
   rw[HW1.out]
   refine(G1.out _ HB0.out).mono ?_
   rintro e w2 ⟨rfl,hb2⟩
   have hm2:=(fM.out _ hb2).1
   go_wp2_with fail
   refine(G0.out _ (aj hb2 HB0.out)).mono ?_
   rintro e w3 ⟨rfl,dO⟩
   have hb3:=aj dO hb2
   obtain⟨hm,k0,k1,k2,k3,k4,k5,kf,kl⟩:=fM.out _ hb3
   obtain⟨⟨q0,q1,q2,q3,q4,q5,ql⟩,qf⟩:=uU.out _ hb3
   go_wp2_with (first|(go_at_call 45;refine(aD ct _ Z1).mono ?_;rintro e w' ⟨rfl,hw'⟩;rw[hw',hcb];clear hw' w'))
   exact bodyPost_ret (v:=fU (told ct,200)) (by rw[HT.out];simp[results,Tryz.results17,go_sem,fU,bY,k0,k1,k2,k3,k4,k5,kl]) rfl ⟨eF HX.out.symm,bM (aj hb3 HB0.out) _ (Nat.le_succ _) _ _ _ _ _ _⟩
  case false.true =>
   have HX:Hid (bG kind ct ver dZ tag query pointer size num=(told ct,101)):=by unfold bG;rw[hq,hc,hcb];rfl
   go_enter Tryz.func17,Tryz.ntmps17
   go_wp2_with fail
   rw[HW1.out]
   refine(G1.out _ HB0.out).mono ?_
   rintro e w2 ⟨rfl,hb2⟩
   have hm2:=(fM.out _ hb2).1
   go_wp2_with fail
   refine(G0.out _ (aj hb2 HB0.out)).mono ?_
   rintro e w3 ⟨rfl,dO⟩
   have hb3:=aj dO hb2
   obtain⟨hm,k0,k1,k2,k3,k4,k5,kf,kl⟩:=fM.out _ hb3
   obtain⟨⟨q0,q1,q2,q3,q4,q5,ql⟩,qf⟩:=uU.out _ hb3
   go_wp2_with (first|(go_at_call 45;refine(aD ct _ Z1).mono ?_;rintro e w' ⟨rfl,hw'⟩;rw[hw',hcb];clear hw' w'))
   exact bodyPost_ret (v:=fU (told ct,101)) (by rw[HT.out];simp[results,Tryz.results17,go_sem,fU,bY,k0,k1,k2,k3,k4,k5,kl]) rfl ⟨eF HX.out.symm,bM (aj hb3 HB0.out) _ (Nat.le_succ _) _ _ _ _ _ _⟩
  case true.false =>
   have HX:Hid (bG kind ct ver dZ tag query pointer size num=(told ct,101)):=by unfold bG;rw[hq,hc,hcb];rfl
   go_enter Tryz.func17,Tryz.ntmps17
   go_wp2_with fail
   rw[HW1.out]
   refine(G1.out _ HB0.out).mono ?_
   rintro e w2 ⟨rfl,hb2⟩
   have hm2:=(fM.out _ hb2).1
   go_wp2_with fail
   refine(G0.out _ (aj hb2 HB0.out)).mono ?_
   rintro e w3 ⟨rfl,dO⟩
   have hb3:=aj dO hb2
   obtain⟨hm,k0,k1,k2,k3,k4,k5,kf,kl⟩:=fM.out _ hb3
   obtain⟨⟨q0,q1,q2,q3,q4,q5,ql⟩,qf⟩:=uU.out _ hb3
   go_wp2_with (first|(go_at_call 45;refine(aD ct _ Z1).mono ?_;rintro e w' ⟨rfl,hw'⟩;rw[hw',hcb];clear hw' w'))
   exact bodyPost_ret (v:=fU (told ct,101)) (by rw[HT.out];simp[results,Tryz.results17,go_sem,fU,bY,k0,k1,k2,k3,k4,k5,kl]) rfl ⟨eF HX.out.symm,bM (aj hb3 HB0.out) _ (Nat.le_succ _) _ _ _ _ _ _⟩
  case true.true =>
   have HX:Hid (bG kind ct ver dZ tag query pointer size num=(told ct,101)):=by unfold bG;rw[hq,hc,hcb];rfl
   go_enter Tryz.func17,Tryz.ntmps17
   go_wp2_with fail
   rw[HW1.out]
   refine(G1.out _ HB0.out).mono ?_
   rintro e w2 ⟨rfl,hb2⟩
   have hm2:=(fM.out _ hb2).1
   go_wp2_with fail
   refine(G0.out _ (aj hb2 HB0.out)).mono ?_
   rintro e w3 ⟨rfl,dO⟩
   have hb3:=aj dO hb2
   obtain⟨hm,k0,k1,k2,k3,k4,k5,kf,kl⟩:=fM.out _ hb3
   obtain⟨⟨q0,q1,q2,q3,q4,q5,ql⟩,qf⟩:=uU.out _ hb3
   go_wp2_with (first|(go_at_call 45;refine(aD ct _ Z1).mono ?_;rintro e w' ⟨rfl,hw'⟩;rw[hw',hcb];clear hw' w'))
   exact bodyPost_ret (v:=fU (told ct,101)) (by rw[HT.out];simp[results,Tryz.results17,go_sem,fU,bY,k0,k1,k2,k3,k4,k5,kl]) rfl ⟨eF HX.out.symm,bM (aj hb3 HB0.out) _ (Nat.le_succ _) _ _ _ _ _ _⟩
 ·have HT:Hid (told ct=⟨0,ct,⟨#[]⟩,⟨#[]⟩,0,⟨#[]⟩⟩):=by unfold told;rw[hcb];rfl
  have HV:Hid (∀W,Below w1.heap.size w1 W→∀X,Below (W.setCell ⟨w.heap.size+1+1,1,none⟩ (.string ct)).heap.size (W.setCell ⟨w.heap.size+1+1,1,none⟩ (.string ct)) X→(X.cell? ⟨w.heap.size,0,none⟩=some v∧X.cell? ⟨w.heap.size+1,0,none⟩=some (.int .i64 0)∧X.cell? ⟨w.heap.size+1,1,none⟩=some (.string ⟨#[]⟩)∧X.cell? ⟨w.heap.size+1,2,none⟩=some (.string ⟨#[]⟩)∧X.cell? ⟨w.heap.size+1,3,none⟩=some (.string ⟨#[]⟩)∧X.cell? ⟨w.heap.size+1,4,none⟩=some (.int .i64 0)∧X.cell? ⟨w.heap.size+1,5,none⟩=some (.string ⟨#[]⟩)∧(∀i,X.frozen? ⟨w.heap.size+1,i,none⟩=false)∧w.heap.size+1<X.heap.size)∧(X.cell? ⟨w.heap.size+1+1,0,none⟩=some (.int .i64 0)∧X.cell? ⟨w.heap.size+1+1,1,none⟩=some (.string ct)∧X.cell? ⟨w.heap.size+1+1,2,none⟩=some (.string ⟨#[]⟩)∧X.cell? ⟨w.heap.size+1+1,3,none⟩=some (.string ⟨#[]⟩)∧X.cell? ⟨w.heap.size+1+1,4,none⟩=some (.int .i64 0)∧X.cell? ⟨w.heap.size+1+1,5,none⟩=some (.string ⟨#[]⟩)∧w.heap.size+1+1<X.heap.size)∧Below w.heap.size w X):=fun W hW X hX=>by
   obtain⟨hm,k0,k1,k2,k3,k4,k5,kf,kl⟩:=fM.out _ hW
   obtain⟨⟨q0,q1,q2,q3,q4,q5,ql⟩,qf⟩:=uU.out _ hW
   have hsz1:(W.setCell ⟨w.heap.size+1+1,1,none⟩ (.string ct)).heap.size=W.heap.size:=Deep.nblk_setCell _ _ _
   have hXs:=hX.size
   rw[hsz1] at hX hXs
   have C:∀b o,b<W.heap.size→X.cell? ⟨b,o,none⟩=(W.setCell ⟨w.heap.size+1+1,1,none⟩ (.string ct)).cell? ⟨b,o,none⟩:=fun b o h=>hX.cell (p:=⟨b,o,none⟩) h
   have F:∀b o,b<W.heap.size→X.frozen? ⟨b,o,none⟩=(W.setCell ⟨w.heap.size+1+1,1,none⟩ (.string ct)).frozen? ⟨b,o,none⟩:=fun b o h=>hX.frozen (p:=⟨b,o,none⟩) h
   have D:∀b o,b<W.heap.size→b≠w.heap.size+1+1→X.cell? ⟨b,o,none⟩=W.cell? ⟨b,o,none⟩:=fun b o h h2=>(C b o h).trans (Po W _ _ b o _ h2)
   have E:∀o,o≠1→X.cell? ⟨w.heap.size+1+1,o,none⟩=W.cell? ⟨w.heap.size+1+1,o,none⟩:=fun o h=>(C _ o ql).trans (Tx W _ 1 o _ h)
   refine⟨⟨(D _ _ (by omega) (by omega)).trans hm,(D _ _ kl (by omega)).trans k0,(D _ _ kl (by omega)).trans k1,(D _ _ kl (by omega)).trans k2,(D _ _ kl (by omega)).trans k3,(D _ _ kl (by omega)).trans k4,(D _ _ kl (by omega)).trans k5,fun i=>(F _ i kl).trans ((Tw W _ _ _ i _ (by omega)).trans (kf i)),by omega⟩,
    ⟨(E 0 (by omega)).trans q0,(C _ 1 ql).trans (World.cell?_setCell_same _ _ _ q1),(E 2 (by omega)).trans q2,(E 3 (by omega)).trans q3,(E 4 (by omega)).trans q4,(E 5 (by omega)).trans q5,by omega⟩,?_⟩
   have b1:Below w.heap.size w (W.setCell ⟨w.heap.size+1+1,1,none⟩ (.string ct)):=(aj hW HB0.out).setCell (p:=⟨w.heap.size+1+1,1,none⟩) (by simp;omega) _
   rw[←hsz1] at hX
   exact aj hX b1
  cases hq:(kind.toList == [81,66,80]) <;> cases hc:(kind.toList == [81,67,78])
  case false.false =>
   have HX:=hide (show bG kind ct ver dZ tag query pointer size num=(told ct,200) by simp[bG,hq,hc,hcb])
   go_enter Tryz.func17,Tryz.ntmps17
   go_wp2_with fail
   rw[HW1.out]
   refine(G1.out _ HB0.out).mono ?_
   rintro e w2 ⟨rfl,hb2⟩
   have hm2:=(fM.out _ hb2).1
   go_wp2_with fail
   refine(G0.out _ (aj hb2 HB0.out)).mono ?_
   rintro e w3 ⟨rfl,dO⟩
   have hb3:=aj dO hb2
   obtain⟨hm,k0,k1,k2,k3,k4,k5,kf,kl⟩:=fM.out _ hb3
   obtain⟨⟨q0,q1,q2,q3,q4,q5,ql⟩,qf⟩:=uU.out _ hb3
   have dh:=hide (HV.out _ hb3)
   go_wp2_with (first|(go_at_call 45;refine(aD ct _ Z1).mono ?_;rintro e w' ⟨rfl,hw'⟩;rw[hw',hcb];clear hw' w'))
   have hB4:=(dh.out _ (Below.refl _ _)).2.2
   exact bodyPost_ret (v:=fU (told ct,200)) (by rw[HT.out];simp[results,Tryz.results17,go_sem,fU,bY,k0,k1,k2,k3,k4,k5,kl]) rfl ⟨eF HX.out.symm,bM hB4 _ (Nat.le_succ _) _ _ _ _ _ _⟩
  case false.true =>
   cases hv:(ver.toList == [50,46,53,46,49])
   ·have HX:=hide (show bG kind ct ver dZ tag query pointer size num=(told ct,203) by simp[bG,hq,hc,hcb,hv])
    go_enter Tryz.func17,Tryz.ntmps17
    go_wp2_with fail
    rw[HW1.out]
    refine(G1.out _ HB0.out).mono ?_
    rintro e w2 ⟨rfl,hb2⟩
    have hm2:=(fM.out _ hb2).1
    go_wp2_with fail
    refine(G0.out _ (aj hb2 HB0.out)).mono ?_
    rintro e w3 ⟨rfl,dO⟩
    have hb3:=aj dO hb2
    obtain⟨hm,k0,k1,k2,k3,k4,k5,kf,kl⟩:=fM.out _ hb3
    obtain⟨⟨q0,q1,q2,q3,q4,q5,ql⟩,qf⟩:=uU.out _ hb3
    have dh:=hide (HV.out _ hb3)
    go_wp2_with (first|(go_at_call 45;refine(aD ct _ Z1).mono ?_;rintro e w' ⟨rfl,hw'⟩;rw[hw',hcb];clear hw' w'))
    have hb4:=Below.refl (w3.setCell ⟨w.heap.size+1+1,1,none⟩ (.string ct)).heap.size (w3.setCell ⟨w.heap.size+1+1,1,none⟩ (.string ct))
    have hB4:=(dh.out _ hb4).2.2
    refine(G2.out _ hB4).mono ?_
    rintro e w5 ⟨rfl,iX⟩
    have hb5:=aj iX hb4
    obtain⟨⟨hm,k0,k1,k2,k3,k4,k5,kf,kl⟩,⟨q0,q1,q2,q3,q4,q5,ql⟩,kG⟩:=dh.out _ hb5
    go_wp2_with fail
    exact bodyPost_ret (v:=fU (told ct,203)) (by rw[HT.out];simp[results,Tryz.results17,go_sem,fU,bY,k0,k1,k2,k3,k4,k5,kl]) rfl ⟨eF HX.out.symm,bM kG _ (Nat.le_succ _) _ _ _ _ _ _⟩
   ·cases ht:fH dZ
    ·have HX:=hide (show bG kind ct ver dZ tag query pointer size num=(told ct,101) by simp[bG,hq,hc,hcb,hv,ht])
     go_enter Tryz.func17,Tryz.ntmps17
     go_wp2_with fail
     rw[HW1.out]
     refine(G1.out _ HB0.out).mono ?_
     rintro e w2 ⟨rfl,hb2⟩
     have hm2:=(fM.out _ hb2).1
     go_wp2_with fail
     refine(G0.out _ (aj hb2 HB0.out)).mono ?_
     rintro e w3 ⟨rfl,dO⟩
     have hb3:=aj dO hb2
     obtain⟨hm,k0,k1,k2,k3,k4,k5,kf,kl⟩:=fM.out _ hb3
     obtain⟨⟨q0,q1,q2,q3,q4,q5,ql⟩,qf⟩:=uU.out _ hb3
     have dh:=hide (HV.out _ hb3)
     go_wp2_with (first|(go_at_call 45;refine(aD ct _ Z1).mono ?_;rintro e w' ⟨rfl,hw'⟩;rw[hw',hcb];clear hw' w'))
     have hb4:=Below.refl (w3.setCell ⟨w.heap.size+1+1,1,none⟩ (.string ct)).heap.size (w3.setCell ⟨w.heap.size+1+1,1,none⟩ (.string ct))
     have hB4:=(dh.out _ hb4).2.2
     refine(G2.out _ hB4).mono ?_
     rintro e w5 ⟨rfl,iX⟩
     have hb5:=aj iX hb4
     obtain⟨⟨hm,k0,k1,k2,k3,k4,k5,kf,kl⟩,⟨q0,q1,q2,q3,q4,q5,ql⟩,kG⟩:=dh.out _ hb5
     go_wp2_with fail
     refine(G3.out _ kG).mono ?_
     rintro e w6 ⟨rfl,pJ⟩
     have hb6:=aj pJ hb5
     obtain⟨⟨hm,k0,k1,k2,k3,k4,k5,kf,kl⟩,⟨q0,q1,q2,q3,q4,q5,ql⟩,mZ⟩:=dh.out _ hb6
     go_wp2_with (first|(go_at_call 46;refine(bg dZ _ Z3).mono ?_;rintro e w' ⟨rfl,rfl⟩;rw[ht]))
     exact bodyPost_ret (v:=fU (told ct,101)) (by rw[HT.out];simp[results,Tryz.results17,go_sem,fU,bY,k0,k1,k2,k3,k4,k5,kl]) rfl ⟨eF HX.out.symm,bM mZ _ (Nat.le_succ _) _ _ _ _ _ _⟩
    ·have HX:=hide (show bG kind ct ver dZ tag query pointer size num=(⟨3,ct,dZ,⟨#[]⟩,0,⟨#[]⟩⟩,0) by simp[bG,hq,hc,hcb,hv,ht])
     go_enter Tryz.func17,Tryz.ntmps17
     go_wp2_with fail
     rw[HW1.out]
     refine(G1.out _ HB0.out).mono ?_
     rintro e w2 ⟨rfl,hb2⟩
     have hm2:=(fM.out _ hb2).1
     go_wp2_with fail
     refine(G0.out _ (aj hb2 HB0.out)).mono ?_
     rintro e w3 ⟨rfl,dO⟩
     have hb3:=aj dO hb2
     obtain⟨hm,k0,k1,k2,k3,k4,k5,kf,kl⟩:=fM.out _ hb3
     obtain⟨⟨q0,q1,q2,q3,q4,q5,ql⟩,qf⟩:=uU.out _ hb3
     have dh:=hide (HV.out _ hb3)
     go_wp2_with (first|(go_at_call 45;refine(aD ct _ Z1).mono ?_;rintro e w' ⟨rfl,hw'⟩;rw[hw',hcb];clear hw' w'))
     have hb4:=Below.refl (w3.setCell ⟨w.heap.size+1+1,1,none⟩ (.string ct)).heap.size (w3.setCell ⟨w.heap.size+1+1,1,none⟩ (.string ct))
     have hB4:=(dh.out _ hb4).2.2
     refine(G2.out _ hB4).mono ?_
     rintro e w5 ⟨rfl,iX⟩
     have hb5:=aj iX hb4
     obtain⟨⟨hm,k0,k1,k2,k3,k4,k5,kf,kl⟩,⟨q0,q1,q2,q3,q4,q5,ql⟩,kG⟩:=dh.out _ hb5
     go_wp2_with fail
     refine(G3.out _ kG).mono ?_
     rintro e w6 ⟨rfl,pJ⟩
     have hb6:=aj pJ hb5
     obtain⟨⟨hm,k0,k1,k2,k3,k4,k5,kf,kl⟩,⟨q0,q1,q2,q3,q4,q5,ql⟩,mZ⟩:=dh.out _ hb6
     go_wp2_with (first|(go_at_call 46;refine(bg dZ _ Z3).mono ?_;rintro e w' ⟨rfl,rfl⟩;rw[ht]))
     exact bodyPost_ret (v:=fU (⟨3,ct,dZ,⟨#[]⟩,0,⟨#[]⟩⟩,0)) (by simp[results,Tryz.results17,go_sem,fU,bY,k0,k1,k2,k3,k4,k5,kl]) rfl ⟨eF HX.out.symm,bM mZ _ (Nat.le_succ _) _ _ _ _ _ _⟩
  case true.true =>
   cases hv:(ver.toList == [50,46,53,46,49])
   ·have HX:=hide (show bG kind ct ver dZ tag query pointer size num=(told ct,203) by simp[bG,hq,hc,hcb,hv])
    go_enter Tryz.func17,Tryz.ntmps17
    go_wp2_with fail
    rw[HW1.out]
    refine(G1.out _ HB0.out).mono ?_
    rintro e w2 ⟨rfl,hb2⟩
    have hm2:=(fM.out _ hb2).1
    go_wp2_with fail
    refine(G0.out _ (aj hb2 HB0.out)).mono ?_
    rintro e w3 ⟨rfl,dO⟩
    have hb3:=aj dO hb2
    obtain⟨hm,k0,k1,k2,k3,k4,k5,kf,kl⟩:=fM.out _ hb3
    obtain⟨⟨q0,q1,q2,q3,q4,q5,ql⟩,qf⟩:=uU.out _ hb3
    have dh:=hide (HV.out _ hb3)
    go_wp2_with (first|(go_at_call 45;refine(aD ct _ Z1).mono ?_;rintro e w' ⟨rfl,hw'⟩;rw[hw',hcb];clear hw' w'))
    have hb4:=Below.refl (w3.setCell ⟨w.heap.size+1+1,1,none⟩ (.string ct)).heap.size (w3.setCell ⟨w.heap.size+1+1,1,none⟩ (.string ct))
    have hB4:=(dh.out _ hb4).2.2
    refine(G2.out _ hB4).mono ?_
    rintro e w5 ⟨rfl,iX⟩
    have hb5:=aj iX hb4
    obtain⟨⟨hm,k0,k1,k2,k3,k4,k5,kf,kl⟩,⟨q0,q1,q2,q3,q4,q5,ql⟩,kG⟩:=dh.out _ hb5
    go_wp2_with fail
    exact bodyPost_ret (v:=fU (told ct,203)) (by rw[HT.out];simp[results,Tryz.results17,go_sem,fU,bY,k0,k1,k2,k3,k4,k5,kl]) rfl ⟨eF HX.out.symm,bM kG _ (Nat.le_succ _) _ _ _ _ _ _⟩
   ·cases ht:fH dZ
    ·have HX:=hide (show bG kind ct ver dZ tag query pointer size num=(told ct,101) by simp[bG,hq,hc,hcb,hv,ht])
     go_enter Tryz.func17,Tryz.ntmps17
     go_wp2_with fail
     rw[HW1.out]
     refine(G1.out _ HB0.out).mono ?_
     rintro e w2 ⟨rfl,hb2⟩
     have hm2:=(fM.out _ hb2).1
     go_wp2_with fail
     refine(G0.out _ (aj hb2 HB0.out)).mono ?_
     rintro e w3 ⟨rfl,dO⟩
     have hb3:=aj dO hb2
     obtain⟨hm,k0,k1,k2,k3,k4,k5,kf,kl⟩:=fM.out _ hb3
     obtain⟨⟨q0,q1,q2,q3,q4,q5,ql⟩,qf⟩:=uU.out _ hb3
     have dh:=hide (HV.out _ hb3)
     go_wp2_with (first|(go_at_call 45;refine(aD ct _ Z1).mono ?_;rintro e w' ⟨rfl,hw'⟩;rw[hw',hcb];clear hw' w'))
     have hb4:=Below.refl (w3.setCell ⟨w.heap.size+1+1,1,none⟩ (.string ct)).heap.size (w3.setCell ⟨w.heap.size+1+1,1,none⟩ (.string ct))
     have hB4:=(dh.out _ hb4).2.2
     refine(G2.out _ hB4).mono ?_
     rintro e w5 ⟨rfl,iX⟩
     have hb5:=aj iX hb4
     obtain⟨⟨hm,k0,k1,k2,k3,k4,k5,kf,kl⟩,⟨q0,q1,q2,q3,q4,q5,ql⟩,kG⟩:=dh.out _ hb5
     go_wp2_with fail
     refine(G3.out _ kG).mono ?_
     rintro e w6 ⟨rfl,pJ⟩
     have hb6:=aj pJ hb5
     obtain⟨⟨hm,k0,k1,k2,k3,k4,k5,kf,kl⟩,⟨q0,q1,q2,q3,q4,q5,ql⟩,mZ⟩:=dh.out _ hb6
     go_wp2_with (first|(go_at_call 46;refine(bg dZ _ Z3).mono ?_;rintro e w' ⟨rfl,rfl⟩;rw[ht]))
     exact bodyPost_ret (v:=fU (told ct,101)) (by rw[HT.out];simp[results,Tryz.results17,go_sem,fU,bY,k0,k1,k2,k3,k4,k5,kl]) rfl ⟨eF HX.out.symm,bM mZ _ (Nat.le_succ _) _ _ _ _ _ _⟩
    ·have HX:=hide (show bG kind ct ver dZ tag query pointer size num=(⟨3,ct,dZ,⟨#[]⟩,0,⟨#[]⟩⟩,0) by simp[bG,hq,hc,hcb,hv,ht])
     go_enter Tryz.func17,Tryz.ntmps17
     go_wp2_with fail
     rw[HW1.out]
     refine(G1.out _ HB0.out).mono ?_
     rintro e w2 ⟨rfl,hb2⟩
     have hm2:=(fM.out _ hb2).1
     go_wp2_with fail
     refine(G0.out _ (aj hb2 HB0.out)).mono ?_
     rintro e w3 ⟨rfl,dO⟩
     have hb3:=aj dO hb2
     obtain⟨hm,k0,k1,k2,k3,k4,k5,kf,kl⟩:=fM.out _ hb3
     obtain⟨⟨q0,q1,q2,q3,q4,q5,ql⟩,qf⟩:=uU.out _ hb3
     have dh:=hide (HV.out _ hb3)
     go_wp2_with (first|(go_at_call 45;refine(aD ct _ Z1).mono ?_;rintro e w' ⟨rfl,hw'⟩;rw[hw',hcb];clear hw' w'))
     have hb4:=Below.refl (w3.setCell ⟨w.heap.size+1+1,1,none⟩ (.string ct)).heap.size (w3.setCell ⟨w.heap.size+1+1,1,none⟩ (.string ct))
     have hB4:=(dh.out _ hb4).2.2
     refine(G2.out _ hB4).mono ?_
     rintro e w5 ⟨rfl,iX⟩
     have hb5:=aj iX hb4
     obtain⟨⟨hm,k0,k1,k2,k3,k4,k5,kf,kl⟩,⟨q0,q1,q2,q3,q4,q5,ql⟩,kG⟩:=dh.out _ hb5
     go_wp2_with fail
     refine(G3.out _ kG).mono ?_
     rintro e w6 ⟨rfl,pJ⟩
     have hb6:=aj pJ hb5
     obtain⟨⟨hm,k0,k1,k2,k3,k4,k5,kf,kl⟩,⟨q0,q1,q2,q3,q4,q5,ql⟩,mZ⟩:=dh.out _ hb6
     go_wp2_with (first|(go_at_call 46;refine(bg dZ _ Z3).mono ?_;rintro e w' ⟨rfl,rfl⟩;rw[ht]))
     exact bodyPost_ret (v:=fU (⟨3,ct,dZ,⟨#[]⟩,0,⟨#[]⟩⟩,0)) (by simp[results,Tryz.results17,go_sem,fU,bY,k0,k1,k2,k3,k4,k5,kl]) rfl ⟨eF HX.out.symm,bM mZ _ (Nat.le_succ _) _ _ _ _ _ _⟩
  case true.false =>
   cases hv:(ver.toList == [50,46,53,46,49])
   ·have HX:=hide (show bG kind ct ver dZ tag query pointer size num=(told ct,203) by simp[bG,hq,hc,hcb,hv])
    go_enter Tryz.func17,Tryz.ntmps17
    go_wp2_with fail
    rw[HW1.out]
    refine(G1.out _ HB0.out).mono ?_
    rintro e w2 ⟨rfl,hb2⟩
    have hm2:=(fM.out _ hb2).1
    go_wp2_with fail
    refine(G0.out _ (aj hb2 HB0.out)).mono ?_
    rintro e w3 ⟨rfl,dO⟩
    have hb3:=aj dO hb2
    obtain⟨hm,k0,k1,k2,k3,k4,k5,kf,kl⟩:=fM.out _ hb3
    obtain⟨⟨q0,q1,q2,q3,q4,q5,ql⟩,qf⟩:=uU.out _ hb3
    have dh:=hide (HV.out _ hb3)
    go_wp2_with (first|(go_at_call 45;refine(aD ct _ Z1).mono ?_;rintro e w' ⟨rfl,hw'⟩;rw[hw',hcb];clear hw' w'))
    have hb4:=Below.refl (w3.setCell ⟨w.heap.size+1+1,1,none⟩ (.string ct)).heap.size (w3.setCell ⟨w.heap.size+1+1,1,none⟩ (.string ct))
    have hB4:=(dh.out _ hb4).2.2
    refine(G2.out _ hB4).mono ?_
    rintro e w5 ⟨rfl,iX⟩
    have hb5:=aj iX hb4
    obtain⟨⟨hm,k0,k1,k2,k3,k4,k5,kf,kl⟩,⟨q0,q1,q2,q3,q4,q5,ql⟩,kG⟩:=dh.out _ hb5
    go_wp2_with fail
    exact bodyPost_ret (v:=fU (told ct,203)) (by rw[HT.out];simp[results,Tryz.results17,go_sem,fU,bY,k0,k1,k2,k3,k4,k5,kl]) rfl ⟨eF HX.out.symm,bM kG _ (Nat.le_succ _) _ _ _ _ _ _⟩
   cases ht:fH tag
   ·have HX:=hide (show bG kind ct ver dZ tag query pointer size num=(told ct,101) by simp[bG,hq,hc,hcb,hv,ht])
    go_enter Tryz.func17,Tryz.ntmps17
    go_wp2_with fail
    rw[HW1.out]
    refine(G1.out _ HB0.out).mono ?_
    rintro e w2 ⟨rfl,hb2⟩
    have hm2:=(fM.out _ hb2).1
    go_wp2_with fail
    refine(G0.out _ (aj hb2 HB0.out)).mono ?_
    rintro e w3 ⟨rfl,dO⟩
    have hb3:=aj dO hb2
    obtain⟨hm,k0,k1,k2,k3,k4,k5,kf,kl⟩:=fM.out _ hb3
    obtain⟨⟨q0,q1,q2,q3,q4,q5,ql⟩,qf⟩:=uU.out _ hb3
    have dh:=hide (HV.out _ hb3)
    go_wp2_with (first|(go_at_call 45;refine(aD ct _ Z1).mono ?_;rintro e w' ⟨rfl,hw'⟩;rw[hw',hcb];clear hw' w'))
    have hb4:=Below.refl (w3.setCell ⟨w.heap.size+1+1,1,none⟩ (.string ct)).heap.size (w3.setCell ⟨w.heap.size+1+1,1,none⟩ (.string ct))
    have hB4:=(dh.out _ hb4).2.2
    refine(G2.out _ hB4).mono ?_
    rintro e w5 ⟨rfl,iX⟩
    have hb5:=aj iX hb4
    obtain⟨⟨hm,k0,k1,k2,k3,k4,k5,kf,kl⟩,⟨q0,q1,q2,q3,q4,q5,ql⟩,kG⟩:=dh.out _ hb5
    go_wp2_with fail
    refine(G4.out _ kG).mono ?_
    rintro e w6 ⟨rfl,pJ⟩
    have hb6:=aj pJ hb5
    obtain⟨⟨hm,k0,k1,k2,k3,k4,k5,kf,kl⟩,⟨q0,q1,q2,q3,q4,q5,ql⟩,mZ⟩:=dh.out _ hb6
    go_wp2_with fail
    refine(G5.out _ mZ).mono ?_
    rintro e w7 ⟨rfl,wW⟩
    have lU:=aj wW hb6
    obtain⟨⟨hm,k0,k1,k2,k3,k4,k5,kf,kl⟩,⟨q0,q1,q2,q3,q4,q5,ql⟩,oo⟩:=dh.out _ lU
    go_wp2_with fail
    refine(G6.out _ oo).mono ?_
    rintro e w8 ⟨rfl,wY⟩
    have nI:=aj wY lU
    obtain⟨⟨hm,k0,k1,k2,k3,k4,k5,kf,kl⟩,⟨q0,q1,q2,q3,q4,q5,ql⟩,kX⟩:=dh.out _ nI
    go_wp2_with (first|(go_at_call 46;refine(bg tag _ Z4).mono ?_;rintro e w' ⟨rfl,rfl⟩;rw[ht]))
    exact bodyPost_ret (v:=fU (told ct,101)) (by rw[HT.out];simp[results,Tryz.results17,go_sem,fU,bY,k0,k1,k2,k3,k4,k5,kl]) rfl ⟨eF HX.out.symm,bM kX _ (Nat.le_succ _) _ _ _ _ _ _⟩
   cases GA:aW query
   ·have hpb:aW pointer=aW pointer:=rfl
    have HX:=hide (show bG kind ct ver dZ tag query pointer size num=(told ct,102) by simp[bG,hq,hc,hcb,hv,ht,GA])
    go_enter Tryz.func17,Tryz.ntmps17
    go_wp2_with fail
    rw[HW1.out]
    refine(G1.out _ HB0.out).mono ?_
    rintro e w2 ⟨rfl,hb2⟩
    have hm2:=(fM.out _ hb2).1
    go_wp2_with fail
    refine(G0.out _ (aj hb2 HB0.out)).mono ?_
    rintro e w3 ⟨rfl,dO⟩
    have hb3:=aj dO hb2
    obtain⟨hm,k0,k1,k2,k3,k4,k5,kf,kl⟩:=fM.out _ hb3
    obtain⟨⟨q0,q1,q2,q3,q4,q5,ql⟩,qf⟩:=uU.out _ hb3
    have dh:=hide (HV.out _ hb3)
    go_wp2_with (first|(go_at_call 45;refine(aD ct _ Z1).mono ?_;rintro e w' ⟨rfl,hw'⟩;rw[hw',hcb];clear hw' w'))
    have hb4:=Below.refl (w3.setCell ⟨w.heap.size+1+1,1,none⟩ (.string ct)).heap.size (w3.setCell ⟨w.heap.size+1+1,1,none⟩ (.string ct))
    have hB4:=(dh.out _ hb4).2.2
    refine(G2.out _ hB4).mono ?_
    rintro e w5 ⟨rfl,iX⟩
    have hb5:=aj iX hb4
    obtain⟨⟨hm,k0,k1,k2,k3,k4,k5,kf,kl⟩,⟨q0,q1,q2,q3,q4,q5,ql⟩,kG⟩:=dh.out _ hb5
    go_wp2_with fail
    refine(G4.out _ kG).mono ?_
    rintro e w6 ⟨rfl,pJ⟩
    have hb6:=aj pJ hb5
    obtain⟨⟨hm,k0,k1,k2,k3,k4,k5,kf,kl⟩,⟨q0,q1,q2,q3,q4,q5,ql⟩,mZ⟩:=dh.out _ hb6
    go_wp2_with fail
    refine(G5.out _ mZ).mono ?_
    rintro e w7 ⟨rfl,wW⟩
    have lU:=aj wW hb6
    obtain⟨⟨hm,k0,k1,k2,k3,k4,k5,kf,kl⟩,⟨q0,q1,q2,q3,q4,q5,ql⟩,oo⟩:=dh.out _ lU
    go_wp2_with fail
    refine(G6.out _ oo).mono ?_
    rintro e w8 ⟨rfl,wY⟩
    have nI:=aj wY lU
    obtain⟨⟨hm,k0,k1,k2,k3,k4,k5,kf,kl⟩,⟨q0,q1,q2,q3,q4,q5,ql⟩,kX⟩:=dh.out _ nI
    go_wp2_with (first|(go_at_call 46;refine(bg tag _ Z4).mono ?_;rintro e w' ⟨rfl,rfl⟩;rw[ht])|(go_at_call 47;refine(bC _ _ (by first|exact Z5|exact Z6)).mono ?_;rintro e w' ⟨rfl,rfl⟩;first|rw[GA]|rw[hpb]))
    exact bodyPost_ret (v:=fU (told ct,102)) (by rw[HT.out];simp[results,Tryz.results17,go_sem,fU,bY,k0,k1,k2,k3,k4,k5,kl]) rfl ⟨eF HX.out.symm,bM kX _ (Nat.le_succ _) _ _ _ _ _ _⟩
   cases hpb:aW pointer
   ·have HX:=hide (show bG kind ct ver dZ tag query pointer size num=(told ct,102) by simp[bG,hq,hc,hcb,hv,ht,GA,hpb])
    go_enter Tryz.func17,Tryz.ntmps17
    go_wp2_with fail
    rw[HW1.out]
    refine(G1.out _ HB0.out).mono ?_
    rintro e w2 ⟨rfl,hb2⟩
    have hm2:=(fM.out _ hb2).1
    go_wp2_with fail
    refine(G0.out _ (aj hb2 HB0.out)).mono ?_
    rintro e w3 ⟨rfl,dO⟩
    have hb3:=aj dO hb2
    obtain⟨hm,k0,k1,k2,k3,k4,k5,kf,kl⟩:=fM.out _ hb3
    obtain⟨⟨q0,q1,q2,q3,q4,q5,ql⟩,qf⟩:=uU.out _ hb3
    have dh:=hide (HV.out _ hb3)
    go_wp2_with (first|(go_at_call 45;refine(aD ct _ Z1).mono ?_;rintro e w' ⟨rfl,hw'⟩;rw[hw',hcb];clear hw' w'))
    have hb4:=Below.refl (w3.setCell ⟨w.heap.size+1+1,1,none⟩ (.string ct)).heap.size (w3.setCell ⟨w.heap.size+1+1,1,none⟩ (.string ct))
    have hB4:=(dh.out _ hb4).2.2
    refine(G2.out _ hB4).mono ?_
    rintro e w5 ⟨rfl,iX⟩
    have hb5:=aj iX hb4
    obtain⟨⟨hm,k0,k1,k2,k3,k4,k5,kf,kl⟩,⟨q0,q1,q2,q3,q4,q5,ql⟩,kG⟩:=dh.out _ hb5
    go_wp2_with fail
    refine(G4.out _ kG).mono ?_
    rintro e w6 ⟨rfl,pJ⟩
    have hb6:=aj pJ hb5
    obtain⟨⟨hm,k0,k1,k2,k3,k4,k5,kf,kl⟩,⟨q0,q1,q2,q3,q4,q5,ql⟩,mZ⟩:=dh.out _ hb6
    go_wp2_with fail
    refine(G5.out _ mZ).mono ?_
    rintro e w7 ⟨rfl,wW⟩
    have lU:=aj wW hb6
    obtain⟨⟨hm,k0,k1,k2,k3,k4,k5,kf,kl⟩,⟨q0,q1,q2,q3,q4,q5,ql⟩,oo⟩:=dh.out _ lU
    go_wp2_with fail
    refine(G6.out _ oo).mono ?_
    rintro e w8 ⟨rfl,wY⟩
    have nI:=aj wY lU
    obtain⟨⟨hm,k0,k1,k2,k3,k4,k5,kf,kl⟩,⟨q0,q1,q2,q3,q4,q5,ql⟩,kX⟩:=dh.out _ nI
    go_wp2_with (first|(go_at_call 46;refine(bg tag _ Z4).mono ?_;rintro e w' ⟨rfl,rfl⟩;rw[ht])|(go_at_call 47;refine(bC _ _ (by first|exact Z5|exact Z6)).mono ?_;rintro e w' ⟨rfl,rfl⟩;first|rw[GA]|rw[hpb]))
    exact bodyPost_ret (v:=fU (told ct,102)) (by rw[HT.out];simp[results,Tryz.results17,go_sem,fU,bY,k0,k1,k2,k3,k4,k5,kl]) rfl ⟨eF HX.out.symm,bM kX _ (Nat.le_succ _) _ _ _ _ _ _⟩
   by_cases hp:0<pointer.size
   ·have HX:=hide (show bG kind ct ver dZ tag query pointer size num=(⟨2,ct,tag,query,0,pointer⟩,0) by simp[bG,hq,hc,hcb,hv,ht,GA,hpb,hp])
    have hp':(0:Int)<(pointer.size:Int):=by omega
    go_enter Tryz.func17,Tryz.ntmps17
    go_wp2_with fail
    rw[HW1.out]
    refine(G1.out _ HB0.out).mono ?_
    rintro e w2 ⟨rfl,hb2⟩
    have hm2:=(fM.out _ hb2).1
    go_wp2_with fail
    refine(G0.out _ (aj hb2 HB0.out)).mono ?_
    rintro e w3 ⟨rfl,dO⟩
    have hb3:=aj dO hb2
    obtain⟨hm,k0,k1,k2,k3,k4,k5,kf,kl⟩:=fM.out _ hb3
    obtain⟨⟨q0,q1,q2,q3,q4,q5,ql⟩,qf⟩:=uU.out _ hb3
    have dh:=hide (HV.out _ hb3)
    go_wp2_with (first|(go_at_call 45;refine(aD ct _ Z1).mono ?_;rintro e w' ⟨rfl,hw'⟩;rw[hw',hcb];clear hw' w'))
    have hb4:=Below.refl (w3.setCell ⟨w.heap.size+1+1,1,none⟩ (.string ct)).heap.size (w3.setCell ⟨w.heap.size+1+1,1,none⟩ (.string ct))
    have hB4:=(dh.out _ hb4).2.2
    refine(G2.out _ hB4).mono ?_
    rintro e w5 ⟨rfl,iX⟩
    have hb5:=aj iX hb4
    obtain⟨⟨hm,k0,k1,k2,k3,k4,k5,kf,kl⟩,⟨q0,q1,q2,q3,q4,q5,ql⟩,kG⟩:=dh.out _ hb5
    go_wp2_with fail
    refine(G4.out _ kG).mono ?_
    rintro e w6 ⟨rfl,pJ⟩
    have hb6:=aj pJ hb5
    obtain⟨⟨hm,k0,k1,k2,k3,k4,k5,kf,kl⟩,⟨q0,q1,q2,q3,q4,q5,ql⟩,mZ⟩:=dh.out _ hb6
    go_wp2_with fail
    refine(G5.out _ mZ).mono ?_
    rintro e w7 ⟨rfl,wW⟩
    have lU:=aj wW hb6
    obtain⟨⟨hm,k0,k1,k2,k3,k4,k5,kf,kl⟩,⟨q0,q1,q2,q3,q4,q5,ql⟩,oo⟩:=dh.out _ lU
    go_wp2_with fail
    refine(G6.out _ oo).mono ?_
    rintro e w8 ⟨rfl,wY⟩
    have nI:=aj wY lU
    obtain⟨⟨hm,k0,k1,k2,k3,k4,k5,kf,kl⟩,⟨q0,q1,q2,q3,q4,q5,ql⟩,kX⟩:=dh.out _ nI
    go_wp2_with (first|(go_at_call 46;refine(bg tag _ Z4).mono ?_;rintro e w' ⟨rfl,rfl⟩;rw[ht])|(go_at_call 47;refine(bC _ _ (by first|exact Z5|exact Z6)).mono ?_;rintro e w' ⟨rfl,rfl⟩;first|rw[GA]|rw[hpb]))
    exact bodyPost_ret (v:=fU (⟨2,ct,tag,query,0,pointer⟩,0)) (by simp[results,Tryz.results17,go_sem,fU,bY,k0,k1,k2,k3,k4,k5,kl]) rfl ⟨eF HX.out.symm,bM kX _ (Nat.le_succ _) _ _ _ _ _ _⟩
   have hp':¬(0:Int)<(pointer.size:Int):=by omega
   by_cases hs:0<size.size
   ·have hs':(0:Int)<(size.size:Int):=by omega
    by_cases n1:num<1
    ·have HX:=hide (show bG kind ct ver dZ tag query pointer size num=(told ct,102) by simp[bG,hq,hc,hcb,hv,ht,GA,hpb,hp,hs,show ¬1≤num by omega])
     go_enter Tryz.func17,Tryz.ntmps17
     go_wp2_with fail
     rw[HW1.out]
     refine(G1.out _ HB0.out).mono ?_
     rintro e w2 ⟨rfl,hb2⟩
     have hm2:=(fM.out _ hb2).1
     go_wp2_with fail
     refine(G0.out _ (aj hb2 HB0.out)).mono ?_
     rintro e w3 ⟨rfl,dO⟩
     have hb3:=aj dO hb2
     obtain⟨hm,k0,k1,k2,k3,k4,k5,kf,kl⟩:=fM.out _ hb3
     obtain⟨⟨q0,q1,q2,q3,q4,q5,ql⟩,qf⟩:=uU.out _ hb3
     have dh:=hide (HV.out _ hb3)
     go_wp2_with (first|(go_at_call 45;refine(aD ct _ Z1).mono ?_;rintro e w' ⟨rfl,hw'⟩;rw[hw',hcb];clear hw' w'))
     have hb4:=Below.refl (w3.setCell ⟨w.heap.size+1+1,1,none⟩ (.string ct)).heap.size (w3.setCell ⟨w.heap.size+1+1,1,none⟩ (.string ct))
     have hB4:=(dh.out _ hb4).2.2
     refine(G2.out _ hB4).mono ?_
     rintro e w5 ⟨rfl,iX⟩
     have hb5:=aj iX hb4
     obtain⟨⟨hm,k0,k1,k2,k3,k4,k5,kf,kl⟩,⟨q0,q1,q2,q3,q4,q5,ql⟩,kG⟩:=dh.out _ hb5
     go_wp2_with fail
     refine(G4.out _ kG).mono ?_
     rintro e w6 ⟨rfl,pJ⟩
     have hb6:=aj pJ hb5
     obtain⟨⟨hm,k0,k1,k2,k3,k4,k5,kf,kl⟩,⟨q0,q1,q2,q3,q4,q5,ql⟩,mZ⟩:=dh.out _ hb6
     go_wp2_with fail
     refine(G5.out _ mZ).mono ?_
     rintro e w7 ⟨rfl,wW⟩
     have lU:=aj wW hb6
     obtain⟨⟨hm,k0,k1,k2,k3,k4,k5,kf,kl⟩,⟨q0,q1,q2,q3,q4,q5,ql⟩,oo⟩:=dh.out _ lU
     go_wp2_with fail
     refine(G6.out _ oo).mono ?_
     rintro e w8 ⟨rfl,wY⟩
     have nI:=aj wY lU
     obtain⟨⟨hm,k0,k1,k2,k3,k4,k5,kf,kl⟩,⟨q0,q1,q2,q3,q4,q5,ql⟩,kX⟩:=dh.out _ nI
     go_wp2_with (first|(go_at_call 46;refine(bg tag _ Z4).mono ?_;rintro e w' ⟨rfl,rfl⟩;rw[ht])|(go_at_call 47;refine(bC _ _ (by first|exact Z5|exact Z6)).mono ?_;rintro e w' ⟨rfl,rfl⟩;first|rw[GA]|rw[hpb]))
     refine(G7.out _ kX).mono ?_
     rintro e w9 ⟨rfl,Me⟩
     have ou:=aj Me nI
     obtain⟨⟨hm,k0,k1,k2,k3,k4,k5,kf,kl⟩,⟨q0,q1,q2,q3,q4,q5,ql⟩,nX⟩:=dh.out _ ou
     go_wp2_with (first|(go_at_call 48;refine(rM size _ Z7).mono ?_;rintro e w10 ⟨rfl,JV⟩;rw[JU.out];have nQ:=aj JV ou;obtain⟨⟨hm,k0,k1,k2,k3,k4,k5,kf,kl⟩,⟨q0,q1,q2,q3,q4,q5,ql⟩,sM⟩:=dh.out _ nQ))
     exact bodyPost_ret (v:=fU (told ct,102)) (by rw[HT.out];simp[results,Tryz.results17,go_sem,fU,bY,k0,k1,k2,k3,k4,k5,kl]) rfl ⟨eF HX.out.symm,bM sM _ (Nat.le_succ _) _ _ _ _ _ _⟩
    by_cases n2:50<num
    ·have HX:=hide (show bG kind ct ver dZ tag query pointer size num=(told ct,102) by simp[bG,hq,hc,hcb,hv,ht,GA,hpb,hp,hs,show ¬num≤50 by omega])
     go_enter Tryz.func17,Tryz.ntmps17
     go_wp2_with fail
     rw[HW1.out]
     refine(G1.out _ HB0.out).mono ?_
     rintro e w2 ⟨rfl,hb2⟩
     have hm2:=(fM.out _ hb2).1
     go_wp2_with fail
     refine(G0.out _ (aj hb2 HB0.out)).mono ?_
     rintro e w3 ⟨rfl,dO⟩
     have hb3:=aj dO hb2
     obtain⟨hm,k0,k1,k2,k3,k4,k5,kf,kl⟩:=fM.out _ hb3
     obtain⟨⟨q0,q1,q2,q3,q4,q5,ql⟩,qf⟩:=uU.out _ hb3
     have dh:=hide (HV.out _ hb3)
     go_wp2_with (first|(go_at_call 45;refine(aD ct _ Z1).mono ?_;rintro e w' ⟨rfl,hw'⟩;rw[hw',hcb];clear hw' w'))
     have hb4:=Below.refl (w3.setCell ⟨w.heap.size+1+1,1,none⟩ (.string ct)).heap.size (w3.setCell ⟨w.heap.size+1+1,1,none⟩ (.string ct))
     have hB4:=(dh.out _ hb4).2.2
     refine(G2.out _ hB4).mono ?_
     rintro e w5 ⟨rfl,iX⟩
     have hb5:=aj iX hb4
     obtain⟨⟨hm,k0,k1,k2,k3,k4,k5,kf,kl⟩,⟨q0,q1,q2,q3,q4,q5,ql⟩,kG⟩:=dh.out _ hb5
     go_wp2_with fail
     refine(G4.out _ kG).mono ?_
     rintro e w6 ⟨rfl,pJ⟩
     have hb6:=aj pJ hb5
     obtain⟨⟨hm,k0,k1,k2,k3,k4,k5,kf,kl⟩,⟨q0,q1,q2,q3,q4,q5,ql⟩,mZ⟩:=dh.out _ hb6
     go_wp2_with fail
     refine(G5.out _ mZ).mono ?_
     rintro e w7 ⟨rfl,wW⟩
     have lU:=aj wW hb6
     obtain⟨⟨hm,k0,k1,k2,k3,k4,k5,kf,kl⟩,⟨q0,q1,q2,q3,q4,q5,ql⟩,oo⟩:=dh.out _ lU
     go_wp2_with fail
     refine(G6.out _ oo).mono ?_
     rintro e w8 ⟨rfl,wY⟩
     have nI:=aj wY lU
     obtain⟨⟨hm,k0,k1,k2,k3,k4,k5,kf,kl⟩,⟨q0,q1,q2,q3,q4,q5,ql⟩,kX⟩:=dh.out _ nI
     go_wp2_with (first|(go_at_call 46;refine(bg tag _ Z4).mono ?_;rintro e w' ⟨rfl,rfl⟩;rw[ht])|(go_at_call 47;refine(bC _ _ (by first|exact Z5|exact Z6)).mono ?_;rintro e w' ⟨rfl,rfl⟩;first|rw[GA]|rw[hpb]))
     refine(G7.out _ kX).mono ?_
     rintro e w9 ⟨rfl,Me⟩
     have ou:=aj Me nI
     obtain⟨⟨hm,k0,k1,k2,k3,k4,k5,kf,kl⟩,⟨q0,q1,q2,q3,q4,q5,ql⟩,nX⟩:=dh.out _ ou
     go_wp2_with (first|(go_at_call 48;refine(rM size _ Z7).mono ?_;rintro e w10 ⟨rfl,JV⟩;rw[JU.out];have nQ:=aj JV ou;obtain⟨⟨hm,k0,k1,k2,k3,k4,k5,kf,kl⟩,⟨q0,q1,q2,q3,q4,q5,ql⟩,sM⟩:=dh.out _ nQ))
     exact bodyPost_ret (v:=fU (told ct,102)) (by rw[HT.out];simp[results,Tryz.results17,go_sem,fU,bY,k0,k1,k2,k3,k4,k5,kl]) rfl ⟨eF HX.out.symm,bM sM _ (Nat.le_succ _) _ _ _ _ _ _⟩
    have HX:=hide (show bG kind ct ver dZ tag query pointer size num=(⟨1,ct,tag,query,num,⟨#[]⟩⟩,0) by simp[bG,hq,hc,hcb,hv,ht,GA,hpb,hp,hs,show 1≤num by omega,show num≤50 by omega])
    go_enter Tryz.func17,Tryz.ntmps17
    go_wp2_with fail
    rw[HW1.out]
    refine(G1.out _ HB0.out).mono ?_
    rintro e w2 ⟨rfl,hb2⟩
    have hm2:=(fM.out _ hb2).1
    go_wp2_with fail
    refine(G0.out _ (aj hb2 HB0.out)).mono ?_
    rintro e w3 ⟨rfl,dO⟩
    have hb3:=aj dO hb2
    obtain⟨hm,k0,k1,k2,k3,k4,k5,kf,kl⟩:=fM.out _ hb3
    obtain⟨⟨q0,q1,q2,q3,q4,q5,ql⟩,qf⟩:=uU.out _ hb3
    have dh:=hide (HV.out _ hb3)
    go_wp2_with (first|(go_at_call 45;refine(aD ct _ Z1).mono ?_;rintro e w' ⟨rfl,hw'⟩;rw[hw',hcb];clear hw' w'))
    have hb4:=Below.refl (w3.setCell ⟨w.heap.size+1+1,1,none⟩ (.string ct)).heap.size (w3.setCell ⟨w.heap.size+1+1,1,none⟩ (.string ct))
    have hB4:=(dh.out _ hb4).2.2
    refine(G2.out _ hB4).mono ?_
    rintro e w5 ⟨rfl,iX⟩
    have hb5:=aj iX hb4
    obtain⟨⟨hm,k0,k1,k2,k3,k4,k5,kf,kl⟩,⟨q0,q1,q2,q3,q4,q5,ql⟩,kG⟩:=dh.out _ hb5
    go_wp2_with fail
    refine(G4.out _ kG).mono ?_
    rintro e w6 ⟨rfl,pJ⟩
    have hb6:=aj pJ hb5
    obtain⟨⟨hm,k0,k1,k2,k3,k4,k5,kf,kl⟩,⟨q0,q1,q2,q3,q4,q5,ql⟩,mZ⟩:=dh.out _ hb6
    go_wp2_with fail
    refine(G5.out _ mZ).mono ?_
    rintro e w7 ⟨rfl,wW⟩
    have lU:=aj wW hb6
    obtain⟨⟨hm,k0,k1,k2,k3,k4,k5,kf,kl⟩,⟨q0,q1,q2,q3,q4,q5,ql⟩,oo⟩:=dh.out _ lU
    go_wp2_with fail
    refine(G6.out _ oo).mono ?_
    rintro e w8 ⟨rfl,wY⟩
    have nI:=aj wY lU
    obtain⟨⟨hm,k0,k1,k2,k3,k4,k5,kf,kl⟩,⟨q0,q1,q2,q3,q4,q5,ql⟩,kX⟩:=dh.out _ nI
    go_wp2_with (first|(go_at_call 46;refine(bg tag _ Z4).mono ?_;rintro e w' ⟨rfl,rfl⟩;rw[ht])|(go_at_call 47;refine(bC _ _ (by first|exact Z5|exact Z6)).mono ?_;rintro e w' ⟨rfl,rfl⟩;first|rw[GA]|rw[hpb]))
    refine(G7.out _ kX).mono ?_
    rintro e w9 ⟨rfl,Me⟩
    have ou:=aj Me nI
    obtain⟨⟨hm,k0,k1,k2,k3,k4,k5,kf,kl⟩,⟨q0,q1,q2,q3,q4,q5,ql⟩,nX⟩:=dh.out _ ou
    go_wp2_with (first|(go_at_call 48;refine(rM size _ Z7).mono ?_;rintro e w10 ⟨rfl,JV⟩;rw[JU.out];have nQ:=aj JV ou;obtain⟨⟨hm,k0,k1,k2,k3,k4,k5,kf,kl⟩,⟨q0,q1,q2,q3,q4,q5,ql⟩,sM⟩:=dh.out _ nQ))
    exact bodyPost_ret (v:=fU (⟨1,ct,tag,query,num,⟨#[]⟩⟩,0)) (by simp[results,Tryz.results17,go_sem,fU,bY,k0,k1,k2,k3,k4,k5,kl]) rfl ⟨eF HX.out.symm,bM sM _ (Nat.le_succ _) _ _ _ _ _ _⟩
   ·have hs':¬(0:Int)<(size.size:Int):=by omega
    have HX:=hide (show bG kind ct ver dZ tag query pointer size num=(⟨1,ct,tag,query,10,⟨#[]⟩⟩,0) by simp[bG,hq,hc,hcb,hv,ht,GA,hpb,hp,hs])
    go_enter Tryz.func17,Tryz.ntmps17
    go_wp2_with fail
    rw[HW1.out]
    refine(G1.out _ HB0.out).mono ?_
    rintro e w2 ⟨rfl,hb2⟩
    have hm2:=(fM.out _ hb2).1
    go_wp2_with fail
    refine(G0.out _ (aj hb2 HB0.out)).mono ?_
    rintro e w3 ⟨rfl,dO⟩
    have hb3:=aj dO hb2
    obtain⟨hm,k0,k1,k2,k3,k4,k5,kf,kl⟩:=fM.out _ hb3
    obtain⟨⟨q0,q1,q2,q3,q4,q5,ql⟩,qf⟩:=uU.out _ hb3
    have dh:=hide (HV.out _ hb3)
    go_wp2_with (first|(go_at_call 45;refine(aD ct _ Z1).mono ?_;rintro e w' ⟨rfl,hw'⟩;rw[hw',hcb];clear hw' w'))
    have hb4:=Below.refl (w3.setCell ⟨w.heap.size+1+1,1,none⟩ (.string ct)).heap.size (w3.setCell ⟨w.heap.size+1+1,1,none⟩ (.string ct))
    have hB4:=(dh.out _ hb4).2.2
    refine(G2.out _ hB4).mono ?_
    rintro e w5 ⟨rfl,iX⟩
    have hb5:=aj iX hb4
    obtain⟨⟨hm,k0,k1,k2,k3,k4,k5,kf,kl⟩,⟨q0,q1,q2,q3,q4,q5,ql⟩,kG⟩:=dh.out _ hb5
    go_wp2_with fail
    refine(G4.out _ kG).mono ?_
    rintro e w6 ⟨rfl,pJ⟩
    have hb6:=aj pJ hb5
    obtain⟨⟨hm,k0,k1,k2,k3,k4,k5,kf,kl⟩,⟨q0,q1,q2,q3,q4,q5,ql⟩,mZ⟩:=dh.out _ hb6
    go_wp2_with fail
    refine(G5.out _ mZ).mono ?_
    rintro e w7 ⟨rfl,wW⟩
    have lU:=aj wW hb6
    obtain⟨⟨hm,k0,k1,k2,k3,k4,k5,kf,kl⟩,⟨q0,q1,q2,q3,q4,q5,ql⟩,oo⟩:=dh.out _ lU
    go_wp2_with fail
    refine(G6.out _ oo).mono ?_
    rintro e w8 ⟨rfl,wY⟩
    have nI:=aj wY lU
    obtain⟨⟨hm,k0,k1,k2,k3,k4,k5,kf,kl⟩,⟨q0,q1,q2,q3,q4,q5,ql⟩,kX⟩:=dh.out _ nI
    go_wp2_with (first|(go_at_call 46;refine(bg tag _ Z4).mono ?_;rintro e w' ⟨rfl,rfl⟩;rw[ht])|(go_at_call 47;refine(bC _ _ (by first|exact Z5|exact Z6)).mono ?_;rintro e w' ⟨rfl,rfl⟩;first|rw[GA]|rw[hpb]))
    refine(G7.out _ kX).mono ?_
    rintro e w9 ⟨rfl,Me⟩
    have ou:=aj Me nI
    obtain⟨⟨hm,k0,k1,k2,k3,k4,k5,kf,kl⟩,⟨q0,q1,q2,q3,q4,q5,ql⟩,nX⟩:=dh.out _ ou
    go_wp2_with fail
    exact bodyPost_ret (v:=fU (⟨1,ct,tag,query,10,⟨#[]⟩⟩,0)) (by simp[results,Tryz.results17,go_sem,fU,bY,k0,k1,k2,k3,k4,k5,kl]) rfl ⟨eF HX.out.symm,bM nX _ (Nat.le_succ _) _ _ _ _ _ _⟩
end Go.Proofs.YtfdihjnlgdiioaaGreatDoor.dB
