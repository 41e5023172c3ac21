import Derived.Test.YtfdihjnlgdiioaaGreatDoorG3
import Derived.Test.YtfdihjnlgdiioaaGreatDoorG2
namespace Go.Proofs.YtfdihjnlgdiioaaGreatDoor.dB
open Go.ChangeShapes Go.WideShapes Go.ChangeAt Go.RowKit
set_option linter.unusedVariables false
set_option linter.unusedSimpArgs false
theorem EB (b off k:Nat):(⟨b,off,none⟩:Addr).add k=⟨b,off+k,none⟩:=by
 unfold Addr.add
 split <;> simp_all
theorem Ku (ps:List (List UInt8)) (k:Nat) (hk:k≤ps.length) {w:World} {g:Nat} (hc:∀i (hi:i<ps.length),w.cell? ⟨g,i,none⟩=some (.string (txt ps[i]))∧w.frozen? ⟨g,i,none⟩=false) :
  ∀(j:Nat) (u:Value),(((ps.take k).map txt).map Value.string)[j]?=some u→w.cell? ((⟨g,0,none⟩:Addr).add j)=some u:=by
 intro j u hj
 rw[EB,Nat.zero_add]
 have hjl:j<(((ps.take k).map txt).map Value.string).length:=(List.getElem?_eq_some_iff.1 hj).1
 simp only[List.length_map,List.length_take] at hjl
 rw[List.getElem?_eq_getElem (by simp only[List.length_map,List.length_take];omega)] at hj
 simp only[List.getElem_map,List.getElem_take] at hj
 injection hj with hj
 rw[←hj]
 exact(hc j (by omega)).1
theorem Qt (xs:List ByteArray):∀u∈xs.map Value.string,u.oneCell'=true:=by
 intro u hu
 rw[List.mem_map] at hu
 obtain⟨x,_,rfl⟩:=hu
 rfl
theorem NP {w w':World} (h:w.grownBy w' none):Below w.heap.size w w':=⟨h.os,h.tape,h.output,h.size,fun k hk=>h.block k hk (by simp)⟩
set_option maxRecDepth 100000 in
set_option maxHeartbeats 2000000 in
theorem Qu (ps:List (List UInt8)) (base:Nat) (v:Value) (w:World) (hv:oG base w v (ps.map txt)) (hp:0<ps.length) (hl:ps.length≤40001) (hz:∀p∈ps,p.length≤1048576) :
  Calls Tryz.prog 115 #[v,.func (.func 116) #[] #[]] w fun e w'=>∃u,e=.returned u∧oG w.heap.size w' u ((ay List.isEmpty ps).map txt)∧Below w.heap.size w w':=by
 obtain⟨i0,hi,hz0,hz1,hz2⟩:=Nv
 obtain⟨g,cap,rfl,hg,hgl,hcap,hcm,hcell⟩:=lu hv hp
 have HC:=hide hcell
 clear hv hcell
 go_enter Tryz.func115,Tryz.ntmps115
 go_wp2_with fail
 go_loop [5] (fun n=>∃k:Nat,k≤ps.length∧n=.int .i64 k∧∀j (h:j<ps.length),k≤j→(ps[j]).isEmpty=true) (fun n=>(intOf n).toNat)
 case atStart=>exact⟨ps.length,aS _,rfl,fun j h h1=>absurd h1 (by omega)⟩
 case round =>
  obtain⟨k,hk,rfl,hA⟩:=hrel
  have HA:=hide hA
  clear hA
  by_cases hz:0<k
  ·have hk1:k - 1<ps.length:=by omega
   have hzi:(0:Int)<(k:Int):=by omega
   have hc1:=(HC.out (k - 1) hk1).1
   have htn:((k:Int) - 1).toNat=k - 1:=by omega
   have aa4:(0:Int)≤(k:Int) - 1:=by omega
   have hb1':(k:Int) - 1<(ps.length:Int):=by omega
   have Ui:=hide (dn (ps[k - 1]'hk1))
   cases hem:(ps[k - 1]'hk1).isEmpty
   ·have HD:Hid (decide ((txt (ps[k - 1]'hk1)).size=0)=false):=by
     rw[Ui.out]
     show decide _=false
     refine decide_eq_false fun h0=>?_
     rw[List.length_eq_zero_iff.1 h0] at hem;cases hem
    have HK:=hide (jm List.isEmpty ps k hk HA.out (fun _ _=>hem))
    have HT:Hid (ay List.isEmpty ps=ps.take k):=by unfold ay;rw[HK.out];trivial
    clear hem
    have hcp:(k:Int)≤(cap:Int):=by omega
    go_wp2_with fail
    refine(nP _ _).mono ?_
    rintro e w' ⟨rfl,rfl⟩
    rw[HD.out]
    go_wp2_with (first
     | (at_builtin;refine wpList_append_own_at _ rfl _ _ 36 rfl w'.heap.size 9 i0 (.string ByteArray.empty) 1 16 Tryz.underlying36 hi hz0 hz1 hz2 rfl (by decide) _ _ _ rfl (World.ownsRow_nil w' w'.heap.size 9 1) ⟨g,0,none⟩ k cap (((ps.take k).map txt).map Value.string) rfl ?c0 ?c1 ?c2 ?c3 ?c4 ?c5 ?_)
     | fail)
    case c0=>simp;omega
    case c1=>exact Ku ps k hk HC.out
    case c2=>exact Qt _
    case c3=>unfold maxLen;omega
    case c4=>omega
    case c5=>exact aS _
    intro v' w2 hown' hgrow hnil hat
    have HS:Hid (oG w'.heap.size w2 v' ((ay List.isEmpty ps).map txt)):=by
     have hlk:((ps.take k).map txt).length=0+k:=by simp;omega
     rw[HT.out]
     show World.ownsRow _ _ _ _ _ _ _
     rw[hlk]
     simpa using hown'
    have nA:=hide (NP (by simpa [Value.ownBlock] using hgrow))
    clear hown' hgrow hnil hat
    go_wp2_with fail
    go_ret
    exact⟨_,rfl,HS.out,nA.out⟩
   ·have HD:Hid (decide ((txt (ps[k - 1]'hk1)).size=0)=true):=by
     rw[Ui.out,List.isEmpty_iff.1 hem];rfl
    have HA2:Hid (∀j (h:j<ps.length),k - 1≤j→(ps[j]).isEmpty=true):=fun j hj h=>by
     by_cases e:j=k - 1
     ·subst e;exact hem
     ·exact HA.out j hj (by omega)
    clear hem
    go_wp2_with fail
    refine(nP _ _).mono ?_
    rintro e w' ⟨rfl,rfl⟩
    rw[HD.out]
    go_wp2_with fail
    go_round
    case rel=>exact⟨k - 1,by omega,by go_num,HA2.out⟩
    case measure=>simp[intOf];omega
  ·obtain rfl:k=0:=by omega
   have HK:=hide (jm List.isEmpty ps 0 (eH _) HA.out (fun _ h=>absurd h (by omega)))
   have HT:Hid (ay List.isEmpty ps=[]):=by unfold ay;rw[HK.out];rfl
   have HS:Hid (oG w.heap.size w (.slice none 0 0) ((ay List.isEmpty ps).map txt)):=by
    rw[HT.out]
    exact World.ownsRow_nil w w.heap.size 9 1
   go_wp2_with fail
   go_ret
   exact⟨_,rfl,HS.out,Below.refl _ _⟩
def Lens {β:Type} (vs:List Value) (xs:List (List β)):Prop:=vs.length=xs.length∧∀i (h:i<vs.length) (h2:i<xs.length),∃a c,vs[i]=.slice a xs[i].length c
theorem EC {vs:List Value} {k:Nat} (hk:k≤vs.length) {w:World} {g:Nat} (hc:∀i (hi:i<vs.length),w.cell? ⟨g,i,none⟩=some vs[i]) :
  ∀(j:Nat) (u:Value),(vs.take k)[j]?=some u→w.cell? ((⟨g,0,none⟩:Addr).add j)=some u:=by
 intro j u hj
 rw[EB,Nat.zero_add]
 have hjl:=(List.getElem?_eq_some_iff.1 hj).1
 rw[List.length_take] at hjl
 rw[List.getElem?_eq_getElem (by rw[List.length_take];omega),List.getElem_take] at hj
 injection hj with hj
 rw[←hj]
 exact hc j (by omega)
theorem Hy {β:Type} {vs:List Value} {xs:List (List β)} (h:Lens vs xs) (k:Nat):∀u∈vs.take k,u.oneCell'=true:=by
 intro u hu
 have hu:=List.mem_of_mem_take hu
 obtain⟨i,hi,rfl⟩:=List.getElem_of_mem hu
 obtain⟨a,c,e⟩:=h.2 i hi (by have:=h.1;omega)
 rw[e]
 rfl
set_option maxRecDepth 100000 in
set_option maxHeartbeats 2000000 in
theorem Qv {β:Type} (xs:List (List β)) (vs:List Value) (base:Nat) (v:Value) (w:World) (hv:w.ownsRow base 60 1 v vs.length vs) (hL:Lens vs xs) (hp:0<vs.length) (hl:vs.length≤40001) (hz:∀x∈xs,x.length≤9223372036854775807) :
  Calls Tryz.prog 117 #[v,.func (.func 118) #[] #[]] w fun e w'=>∃u,e=.returned u∧w'.ownsRow w.heap.size 60 1 u (aK List.isEmpty xs) (vs.take (aK List.isEmpty xs))∧Below w.heap.size w w':=by
 obtain⟨i0,hi,hz0,hz1,hz2⟩:=gV sZ
 obtain⟨g,cap,rfl,hg,hgl,hcell,hcap⟩:∃g cap,v=.slice (some ⟨g,0,none⟩) vs.length cap∧base≤g∧g<w.heap.size∧(∀i (hi:i<vs.length),w.cell? ⟨g,i,none⟩=some vs[i])∧vs.length≤cap:=by
  rcases gu hv with⟨h0,_⟩|⟨g,cap,rfl,h1,h2,h3⟩
  ·subst h0;simp at hp
  ·refine⟨g,cap,rfl,h1,h2,fun i hi=>(h3 i hi).1,?_⟩
   obtain⟨_,⟨e1,_⟩|⟨g',cap',cur,e1,_,_,hcap,_⟩⟩:=hv
   ·cases e1
   ·injection e1 with _ _ e3
    subst e3
    exact hcap
 have Ym:=hide hL.1
 have HC:=hide hcell
 have HL:=hide hL
 have HZ:=hide hz
 clear hv hcell hL hz
 go_enter Tryz.func117,Tryz.ntmps117
 go_wp2_with fail
 go_loopw [5] (fun n wr=>∃k:Nat,k≤vs.length∧n=.int .i64 k∧(∀j (h:j<xs.length),k≤j→(xs[j]).isEmpty=true)∧Below w.heap.size w wr) (fun n _=>(intOf n).toNat)
 case atStart=>exact⟨vs.length,aS _,rfl,fun j h h1=>absurd h1 (by have:=Ym.out;omega),Below.refl _ _⟩
 case round =>
  obtain⟨k,hk,rfl,hA,hb⟩:=hrel
  have HA:=hide hA
  clear hA
  by_cases hz:0<k
  ·have hk1:k - 1<vs.length:=by omega
   have hk2:k - 1<xs.length:=by have:=Ym.out;omega
   obtain⟨a5,c5,e5⟩:=HL.out.2 (k - 1) hk1 hk2
   have hc1:wr.cell? ⟨g,k - 1,none⟩=some (.slice a5 (xs[k - 1]'hk2).length c5):=by rw[hb.cell (p:=⟨g,k - 1,none⟩) hgl,←e5];exact HC.out (k - 1) hk1
   have hzi:(0:Int)<(k:Int):=by omega
   have htn:((k:Int) - 1).toNat=k - 1:=by omega
   have aa4:(0:Int)≤(k:Int) - 1:=by omega
   have hb1':(k:Int) - 1<(vs.length:Int):=by omega
   have hbs:=hb.size
   clear e5
   cases hem:(xs[k - 1]'hk2).isEmpty
   ·have HD:Hid (decide ((xs[k - 1]'hk2).length=0)=false):=by
     show decide _=false
     refine decide_eq_false fun h0=>?_
     rw[List.length_eq_zero_iff.1 h0] at hem;cases hem
    have HK:=hide (jm List.isEmpty xs k (by have:=Ym.out;omega) HA.out (fun _ _=>hem))
    clear hem
    have hcp:(k:Int)≤(cap:Int):=by omega
    have gI:=hb.alloc hb.size (Obj.cells #[.slice a5 (xs[k - 1]'hk2).length c5] 60)
    have Xl:Hid (∀i (hi:i<vs.length),(wr.alloc (Obj.cells #[.slice a5 (xs[k - 1]'hk2).length c5] 60)).cell? ⟨g,i,none⟩=some vs[i]):=fun i hi=>by rw[gI.cell (p:=⟨g,i,none⟩) hgl];exact HC.out i hi
    have AB:=hide gI
    clear gI
    go_wp2_with fail
    refine(oI _ _ _ _).mono ?_
    rintro e w2 ⟨rfl,rfl⟩
    rw[HD.out]
    go_wp2_with (first
     | (at_builtin;refine wpList_append_own_at _ rfl _ _ 55 rfl w.heap.size 60 i0 (.agg #[.slice none 0 0]) 1 24 Tryz.underlying55 hi hz0 hz1 hz2 rfl (by decide) _ _ _ rfl (World.ownsRow_nil _ w.heap.size 60 1) ⟨g,0,none⟩ k cap (vs.take k) rfl ?c0 ?c1 ?c2 ?c3 ?c4 ?c5 ?_)
     | fail)
    case c0=>simp;omega
    case c1=>exact EC hk Xl.out
    case c2=>exact Hy HL.out k
    case c3=>unfold maxLen;omega
    case c4=>omega
    case c5=>simp;omega
    intro v' w2 hown' hgrow hnil hat
    have HS:Hid (w2.ownsRow w.heap.size 60 1 v' (aK List.isEmpty xs) (vs.take (aK List.isEmpty xs))):=by
     show World.ownsRow _ _ _ _ _ _ _
     rw[HK.out]
     simpa using hown'
    have nA:=hide (AB.out.grown (row:=none) (by simpa [Value.ownBlock] using hgrow) (by simp;omega) (fun b hb'=>by cases hb'))
    clear hown' hgrow hnil hat
    go_wp2_with fail
    go_ret
    exact⟨_,rfl,HS.out,nA.out⟩
   ·have HD:Hid (decide ((xs[k - 1]'hk2).length=0)=true):=by
     rw[List.isEmpty_iff.1 hem];rfl
    have HA2:Hid (∀j (h:j<xs.length),k - 1≤j→(xs[j]).isEmpty=true):=fun j hj h=>by
     by_cases e:j=k - 1
     ·subst e;exact hem
     ·exact HA.out j hj (by omega)
    clear hem
    have AB:=hide (hb.alloc hb.size (Obj.cells #[.slice a5 (xs[k - 1]'hk2).length c5] 60))
    go_wp2_with fail
    refine(oI _ _ _ _).mono ?_
    rintro e w2 ⟨rfl,rfl⟩
    rw[HD.out]
    go_wp2_with fail
    go_roundw
    case rel=>exact⟨k - 1,by omega,by go_num,HA2.out,AB.out⟩
    case measure=>simp[intOf];omega
  ·obtain rfl:k=0:=by omega
   have HK:=hide (jm List.isEmpty xs 0 (eH _) HA.out (fun _ h=>absurd h (by omega)))
   have HS:Hid (wr.ownsRow w.heap.size 60 1 (.slice none 0 0) (aK List.isEmpty xs) (vs.take (aK List.isEmpty xs))):=by
    rw[HK.out]
    exact World.ownsRow_nil wr w.heap.size 60 1
   go_wp2_with fail
   go_ret
   exact⟨_,rfl,HS.out,hb⟩
set_option maxRecDepth 100000 in
set_option maxHeartbeats 2000000 in
theorem Qw {β:Type} (xs:List (List β)) (vs:List Value) (base:Nat) (v:Value) (w:World) (hv:w.ownsRow base 57 1 v vs.length vs) (hL:Lens vs xs) (hp:0<vs.length) (hl:vs.length≤40001) (hz:∀x∈xs,x.length≤9223372036854775807) :
  Calls Tryz.prog 119 #[v,.func (.func 88) #[] #[]] w fun e w'=>∃u,e=.returned u∧w'.ownsRow w.heap.size 57 1 u (aK List.isEmpty xs) (vs.take (aK List.isEmpty xs))∧Below w.heap.size w w':=by
 obtain⟨i0,hi,hz0,hz1,hz2⟩:=gV kL
 obtain⟨g,cap,rfl,hg,hgl,hcell,hcap⟩:∃g cap,v=.slice (some ⟨g,0,none⟩) vs.length cap∧base≤g∧g<w.heap.size∧(∀i (hi:i<vs.length),w.cell? ⟨g,i,none⟩=some vs[i])∧vs.length≤cap:=by
  rcases gu hv with⟨h0,_⟩|⟨g,cap,rfl,h1,h2,h3⟩
  ·subst h0;simp at hp
  ·refine⟨g,cap,rfl,h1,h2,fun i hi=>(h3 i hi).1,?_⟩
   obtain⟨_,⟨e1,_⟩|⟨g',cap',cur,e1,_,_,hcap,_⟩⟩:=hv
   ·cases e1
   ·injection e1 with _ _ e3
    subst e3
    exact hcap
 have Ym:=hide hL.1
 have HC:=hide hcell
 have HL:=hide hL
 have HZ:=hide hz
 clear hv hcell hL hz
 go_enter Tryz.func119,Tryz.ntmps119
 go_wp2_with fail
 go_loopw [5] (fun n wr=>∃k:Nat,k≤vs.length∧n=.int .i64 k∧(∀j (h:j<xs.length),k≤j→(xs[j]).isEmpty=true)∧Below w.heap.size w wr) (fun n _=>(intOf n).toNat)
 case atStart=>exact⟨vs.length,aS _,rfl,fun j h h1=>absurd h1 (by have:=Ym.out;omega),Below.refl _ _⟩
 case round =>
  obtain⟨k,hk,rfl,hA,hb⟩:=hrel
  have HA:=hide hA
  clear hA
  by_cases hz:0<k
  ·have hk1:k - 1<vs.length:=by omega
   have hk2:k - 1<xs.length:=by have:=Ym.out;omega
   obtain⟨a5,c5,e5⟩:=HL.out.2 (k - 1) hk1 hk2
   have hc1:wr.cell? ⟨g,k - 1,none⟩=some (.slice a5 (xs[k - 1]'hk2).length c5):=by rw[hb.cell (p:=⟨g,k - 1,none⟩) hgl,←e5];exact HC.out (k - 1) hk1
   have hzi:(0:Int)<(k:Int):=by omega
   have htn:((k:Int) - 1).toNat=k - 1:=by omega
   have aa4:(0:Int)≤(k:Int) - 1:=by omega
   have hb1':(k:Int) - 1<(vs.length:Int):=by omega
   have hbs:=hb.size
   clear e5
   cases hem:(xs[k - 1]'hk2).isEmpty
   ·have HD:Hid (decide ((xs[k - 1]'hk2).length=0)=false):=by
     show decide _=false
     refine decide_eq_false fun h0=>?_
     rw[List.length_eq_zero_iff.1 h0] at hem;cases hem
    have HK:=hide (jm List.isEmpty xs k (by have:=Ym.out;omega) HA.out (fun _ _=>hem))
    clear hem
    have hcp:(k:Int)≤(cap:Int):=by omega
    have gI:=hb.alloc hb.size (Obj.cells #[.slice a5 (xs[k - 1]'hk2).length c5] 57)
    have Xl:Hid (∀i (hi:i<vs.length),(wr.alloc (Obj.cells #[.slice a5 (xs[k - 1]'hk2).length c5] 57)).cell? ⟨g,i,none⟩=some vs[i]):=fun i hi=>by rw[gI.cell (p:=⟨g,i,none⟩) hgl];exact HC.out i hi
    have AB:=hide gI
    clear gI
    go_wp2_with fail
    refine(mO _ _ _ _).mono ?_
    rintro e w2 ⟨rfl,rfl⟩
    rw[HD.out]
    go_wp2_with (first
     | (at_builtin;refine wpList_append_own_at _ rfl _ _ 52 rfl w.heap.size 57 i0 (.agg #[.slice none 0 0]) 1 24 Tryz.underlying52 hi hz0 hz1 hz2 rfl (by decide) _ _ _ rfl (World.ownsRow_nil _ w.heap.size 57 1) ⟨g,0,none⟩ k cap (vs.take k) rfl ?c0 ?c1 ?c2 ?c3 ?c4 ?c5 ?_)
     | fail)
    case c0=>simp;omega
    case c1=>exact EC hk Xl.out
    case c2=>exact Hy HL.out k
    case c3=>unfold maxLen;omega
    case c4=>omega
    case c5=>simp;omega
    intro v' w2 hown' hgrow hnil hat
    have HS:Hid (w2.ownsRow w.heap.size 57 1 v' (aK List.isEmpty xs) (vs.take (aK List.isEmpty xs))):=by
     show World.ownsRow _ _ _ _ _ _ _
     rw[HK.out]
     simpa using hown'
    have nA:=hide (AB.out.grown (row:=none) (by simpa [Value.ownBlock] using hgrow) (by simp;omega) (fun b hb'=>by cases hb'))
    clear hown' hgrow hnil hat
    go_wp2_with fail
    go_ret
    exact⟨_,rfl,HS.out,nA.out⟩
   ·have HD:Hid (decide ((xs[k - 1]'hk2).length=0)=true):=by
     rw[List.isEmpty_iff.1 hem];rfl
    have HA2:Hid (∀j (h:j<xs.length),k - 1≤j→(xs[j]).isEmpty=true):=fun j hj h=>by
     by_cases e:j=k - 1
     ·subst e;exact hem
     ·exact HA.out j hj (by omega)
    clear hem
    have AB:=hide (hb.alloc hb.size (Obj.cells #[.slice a5 (xs[k - 1]'hk2).length c5] 57))
    go_wp2_with fail
    refine(mO _ _ _ _).mono ?_
    rintro e w2 ⟨rfl,rfl⟩
    rw[HD.out]
    go_wp2_with fail
    go_roundw
    case rel=>exact⟨k - 1,by omega,by go_num,HA2.out,AB.out⟩
    case measure=>simp[intOf];omega
  ·obtain rfl:k=0:=by omega
   have HK:=hide (jm List.isEmpty xs 0 (eH _) HA.out (fun _ h=>absurd h (by omega)))
   have HS:Hid (wr.ownsRow w.heap.size 57 1 (.slice none 0 0) (aK List.isEmpty xs) (vs.take (aK List.isEmpty xs))):=by
    rw[HK.out]
    exact World.ownsRow_nil wr w.heap.size 57 1
   go_wp2_with fail
   go_ret
   exact⟨_,rfl,HS.out,hb⟩
set_option maxRecDepth 100000 in
set_option maxHeartbeats 1000000 in
theorem Qx (w:World) :
  Calls Tryz.prog 119 #[.slice none 0 0,.func (.func 88) #[] #[]] w fun e w'=>e=.returned (.slice none 0 0)∧w'=w:=by
 go_enter Tryz.func119,Tryz.ntmps119
 go_wp2_with fail
 go_loop [5] (fun n=>n=.int .i64 0) (fun _=>0)
 case atStart=>rfl
 case round =>
  subst hrel
  go_wp2_with fail
  go_ret
  exact⟨rfl,rfl⟩
theorem qE {base base':Nat} {e:TypeId} {sz:Nat} {w:World} {v:Value} {n:Nat} {vs:List Value} (h:w.ownsRow base e sz v n vs) (hb:base'≤base):w.ownsRow base' e sz v n vs:=by
 obtain⟨hl,h|⟨g,cap,cur,e1,hg,rest⟩⟩:=h
 ·exact⟨hl,.inl h⟩
 ·exact⟨hl,.inr ⟨g,cap,cur,e1,Nat.le_trans hb hg,rest⟩⟩
set_option maxHeartbeats 1000000 in
theorem oJ (ps:List (List UInt8)) (base:Nat) (v:Value) (w:World) (hv:oG base w v (ps.map txt)) (hp:0<ps.length) (hl:ps.length≤40001) (hz:∀p∈ps,p.length≤1048576) :
  Calls Tryz.prog 84 #[v] w fun e w'=>∃u,e=.returned (.agg #[u])∧oG w.heap.size w' u ((ay List.isEmpty ps).map txt)∧Below w.heap.size w w':=by
 have hb0:=(Below.refl w.heap.size w).alloc (aS _) (Obj.cells #[.slice none 0 0] 60)
 have hv1:=own_below hv hb0
 have HB0:=hide hb0
 clear hb0 hv
 go_enter Tryz.func84,Tryz.ntmps84
 go_wp2_with fail
 refine(Qu ps base _ _ hv1 hp hl hz).mono ?_
 rintro e w2 ⟨u,rfl,hu,hb2⟩
 obtain⟨a,cap,rfl⟩:=tH hu
 have hs2:w.heap.size<w2.heap.size:=by have:=hb2.size;simp at this;omega
 have hc2:w2.cell? ⟨w.heap.size,0,none⟩=some (.slice none 0 0):=by rw[hb2.cell (p:=⟨w.heap.size,0,none⟩) (by simp)];simp
 have hf2:w2.frozen? ⟨w.heap.size,0,none⟩=false:=by rw[hb2.frozen (p:=⟨w.heap.size,0,none⟩) (by simp)];simp
 have hu1:w2.ownsRow (w.heap.size+1) 9 1 (.slice a ((ay List.isEmpty ps).map txt).length cap) ((ay List.isEmpty ps).map txt).length (((ay List.isEmpty ps).map txt).map Value.string):=by
  have:=hu
  unfold oG at this
  simpa using this
 have HU:Hid (oG w.heap.size (w2.setCell ⟨w.heap.size,0,none⟩ (.slice a ((ay List.isEmpty ps).map txt).length cap)) (.slice a ((ay List.isEmpty ps).map txt).length cap) ((ay List.isEmpty ps).map txt)) :=
  qE (mH hu1 (fun b hb'=>Deep.blk_setCell_other _ _ _ _ (by simp;omega))) (by omega)
 have nA:=hide ((aJ hb2 HB0.out).setCell (p:=⟨w.heap.size,0,none⟩) (by simp) (.slice a ((ay List.isEmpty ps).map txt).length cap))
 clear hu hu1 hv1 hb2
 generalize ((ay List.isEmpty ps).map txt).length=n at *
 go_wp2_with fail
 exact bodyPost_ret (v:=.agg #[.slice a n cap]) (by simp[results,Tryz.results84,go_sem,hc2,hf2,hs2]) rfl ⟨_,rfl,HU.out,nA.out⟩
set_option maxHeartbeats 1000000 in
theorem og {β:Type} (xs:List (List β)) (vs:List Value) (base:Nat) (v:Value) (w:World) (hv:w.ownsRow base 60 1 v vs.length vs) (hL:Lens vs xs) (hp:0<vs.length) (hl:vs.length≤40001) (hz:∀x∈xs,x.length≤9223372036854775807) :
  Calls Tryz.prog 85 #[v] w fun e w'=>∃u,e=.returned (.agg #[u])∧w'.ownsRow w.heap.size 60 1 u (aK List.isEmpty xs) (vs.take (aK List.isEmpty xs))∧Below w.heap.size w w':=by
 have hb0:=(Below.refl w.heap.size w).alloc (aS _) (Obj.cells #[.slice none 0 0] 57)
 have hv1:=own_below hv hb0
 have HB0:=hide hb0
 clear hb0 hv
 go_enter Tryz.func85,Tryz.ntmps85
 go_wp2_with fail
 refine(Qv xs vs base _ _ hv1 hL hp hl hz).mono ?_
 rintro e w2 ⟨u,rfl,hu,hb2⟩
 obtain⟨a,cap,rfl⟩:=tH hu
 have hs2:w.heap.size<w2.heap.size:=by have:=hb2.size;simp at this;omega
 have hc2:w2.cell? ⟨w.heap.size,0,none⟩=some (.slice none 0 0):=by rw[hb2.cell (p:=⟨w.heap.size,0,none⟩) (by simp)];simp
 have hf2:w2.frozen? ⟨w.heap.size,0,none⟩=false:=by rw[hb2.frozen (p:=⟨w.heap.size,0,none⟩) (by simp)];simp
 have hu1:w2.ownsRow (w.heap.size+1) 60 1 (.slice a (aK List.isEmpty xs) cap) (aK List.isEmpty xs) (vs.take (aK List.isEmpty xs)):=by simpa using hu
 have HU:Hid ((w2.setCell ⟨w.heap.size,0,none⟩ (.slice a (aK List.isEmpty xs) cap)).ownsRow w.heap.size 60 1 (.slice a (aK List.isEmpty xs) cap) (aK List.isEmpty xs) (vs.take (aK List.isEmpty xs))) :=
  qE (mH hu1 (fun b hb'=>Deep.blk_setCell_other _ _ _ _ (by simp;omega))) (by omega)
 have nA:=hide ((aJ hb2 HB0.out).setCell (p:=⟨w.heap.size,0,none⟩) (by simp) (.slice a (aK List.isEmpty xs) cap))
 clear hu hu1 hv1 hb2
 go_wp2_with fail
 exact bodyPost_ret (v:=.agg #[.slice a (aK List.isEmpty xs) cap]) (by simp[results,Tryz.results85,go_sem,hc2,hf2,hs2]) rfl ⟨_,rfl,HU.out,nA.out⟩
set_option maxHeartbeats 1000000 in
theorem oK {β:Type} (name:ByteArray) (xs:List (List β)) (vs:List Value) (base:Nat) (v:Value) (w:World) (hv:w.ownsRow base 57 1 v vs.length vs) (hL:Lens vs xs) (hn:vs.length=0→v=.slice none 0 0) (hl:vs.length≤40001) (hz:∀x∈xs,x.length≤9223372036854775807) :
  Calls Tryz.prog 86 #[.string name,v] w fun e w'=>∃u,e=.returned (.agg #[.string name,u])∧w'.ownsRow w.heap.size 57 1 u (aK List.isEmpty xs) (vs.take (aK List.isEmpty xs))∧Below w.heap.size w w':=by
 have hb0:=(Below.refl w.heap.size w).alloc (aS _) (Obj.cells #[.string ByteArray.empty,.slice none 0 0] 54)
 have hv1:=own_below hv hb0
 have HB0:=hide hb0
 have HN:=hide hn
 have ad9:Hid (∀W,W.ownsRow base 57 1 v vs.length vs→Calls Tryz.prog 119 #[v,.func (.func 88) #[] #[]] W fun e w'=>∃u,e=.returned u∧w'.ownsRow W.heap.size 57 1 u (aK List.isEmpty xs) (vs.take (aK List.isEmpty xs))∧Below W.heap.size W w'):=fun W hW=>by
  by_cases h0:vs.length=0
  ·rw[hn h0]
   refine(Qx W).mono ?_
   rintro e w' ⟨rfl,rfl⟩
   have hx:xs=[]:=List.length_eq_zero_iff.1 (by have:=hL.1;omega)
   refine⟨_,rfl,?_,Below.refl _ _⟩
   rw[hx]
   exact World.ownsRow_nil w' w'.heap.size 57 1
  ·exact Qw xs vs base v W hW hL (by omega) hl hz
 clear hb0 hv hn
 go_enter Tryz.func86,Tryz.ntmps86
 go_wp2_with fail
 refine(ad9.out _ hv1).mono ?_
 rintro e w2 ⟨u,rfl,hu,hb2⟩
 obtain⟨a,cap,rfl⟩:=tH hu
 have hs2:w.heap.size<w2.heap.size:=by have:=hb2.size;simp at this;omega
 have hc2:w2.cell? ⟨w.heap.size,0,none⟩=some (.string ByteArray.empty):=by rw[hb2.cell (p:=⟨w.heap.size,0,none⟩) (by simp)];simp
 have hf2:w2.frozen? ⟨w.heap.size,0,none⟩=false:=by rw[hb2.frozen (p:=⟨w.heap.size,0,none⟩) (by simp)];simp
 have hc3:w2.cell? ⟨w.heap.size,1,none⟩=some (.slice none 0 0):=by rw[hb2.cell (p:=⟨w.heap.size,1,none⟩) (by simp)];simp
 have hf3:w2.frozen? ⟨w.heap.size,1,none⟩=false:=by rw[hb2.frozen (p:=⟨w.heap.size,1,none⟩) (by simp)];simp
 have hu1:w2.ownsRow (w.heap.size+1) 57 1 (.slice a (aK List.isEmpty xs) cap) (aK List.isEmpty xs) (vs.take (aK List.isEmpty xs)):=by simpa using hu
 have HU:Hid (∀x y,(((w2.setCell ⟨w.heap.size,0,none⟩ x).setCell ⟨w.heap.size,1,none⟩ y)).ownsRow w.heap.size 57 1 (.slice a (aK List.isEmpty xs) cap) (aK List.isEmpty xs) (vs.take (aK List.isEmpty xs))):=fun x y =>
  qE (mH (mH hu1 (fun b hb'=>Deep.blk_setCell_other _ _ _ _ (by simp;omega))) (fun b hb'=>Deep.blk_setCell_other _ _ _ _ (by simp;omega))) (by omega)
 have nA:Hid (∀x y,Below w.heap.size w ((w2.setCell ⟨w.heap.size,0,none⟩ x).setCell ⟨w.heap.size,1,none⟩ y)):=fun x y=>((aJ hb2 HB0.out).setCell (p:=⟨w.heap.size,0,none⟩) (by simp) x).setCell (p:=⟨w.heap.size,1,none⟩) (by simp) y
 clear hu hu1 hv1 hb2
 go_wp2_with fail
 exact bodyPost_ret (v:=.agg #[.string name,.slice a (aK List.isEmpty xs) cap]) (by simp[results,Tryz.results86,go_sem,hc2,hf2,hs2,hc3,hf3]) rfl ⟨_,rfl,HU.out _ _,nA.out _ _⟩
end Go.Proofs.YtfdihjnlgdiioaaGreatDoor.dB
