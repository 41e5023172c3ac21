import Derived.Maps.AppendAt
import Derived.OwnWalk
import Derived.Laws.Rows
import Derived.Maps.Own
import Derived.Test.YtfdihjnlgdiioaaGreatDoorG6
import Derived.Test.YtfdihjnlgdiioaaGreatDoorG9
import Derived.Lib.Strings
import Derived.Deep.RegionHeld3
import Derived.Deep.DeepCutAuto
import Derived.Deep.RegionLaw
import Derived.Deep.AppendLies
namespace Go.Proofs.YtfdihjnlgdiioaaGreatDoor.dB
open Go.ChangeShapes Go.WideShapes Go.ChangeAt Go.RowKit
set_option linter.unusedVariables false
set_option linter.unusedSimpArgs false
def aU (w:World) (b:Nat) (t:TypeId) (cs:Array Value):Prop:=w.heap[b]?=some (.cells cs t (0,0))
theorem aU.lt {w:World} {b:Nat} {t:TypeId} {cs:Array Value} (h:aU w b t cs):b<w.heap.size:=by
 unfold aU at h
 rw[Array.getElem?_eq_some_iff] at h
 exact h.1
theorem aU.cell {w:World} {b:Nat} {t:TypeId} {cs:Array Value} (h:aU w b t cs) (i:Nat) (hi:i<cs.size):w.cell? ⟨b,i,none⟩=some cs[i]:=by
 unfold aU at h
 simp[World.cell?,h,hi]
theorem aU.frozen {w:World} {b:Nat} {t:TypeId} {cs:Array Value} (h:aU w b t cs) (i:Nat):w.frozen? ⟨b,i,none⟩=false:=by
 unfold aU at h
 simp[World.frozen?,h]
theorem aU.keep {w w':World} {b:Nat} {t:TypeId} {cs:Array Value} (h:aU w b t cs) (e:w'.heap[b]?=w.heap[b]?):aU w' b t cs:=by
 unfold aU at *
 rw[e]
 exact h
theorem aU.set {w:World} {b:Nat} {t:TypeId} {cs:Array Value} (h:aU w b t cs) (i:Nat) (v:Value):aU (w.setCell ⟨b,i,none⟩ v) b t (cs.setIfInBounds i v) :=
 heap_setCell_same w b i cs t v h
theorem aU.other {w:World} {b:Nat} {t:TypeId} {cs:Array Value} (h:aU w b t cs) {a:Addr} (ha:b≠a.block) (v:Value):aU (w.setCell a v) b t cs :=
 h.keep (Deep.blk_setCell_other _ _ _ _ ha)
theorem aU.new (w:World) (t:TypeId) (cs:Array Value):aU (w.alloc (.cells cs t)) w.heap.size t cs:=by
 exact(MapKept.heap_alloc w _).1
theorem aU.alloc {w:World} {b:Nat} {t:TypeId} {cs:Array Value} (h:aU w b t cs) (o:Obj):aU (w.alloc o) b t cs :=
 h.keep ((((Below.refl w.heap.size w).alloc (aS _) o)).block b h.lt)
theorem aU.below {w w':World} {b:Nat} {t:TypeId} {cs:Array Value} (h:aU w b t cs) (hb:Below w.heap.size w w'):aU w' b t cs:=h.keep (hb.block b h.lt)
theorem aU.only {bs:List Nat} {w w':World} {b:Nat} {t:TypeId} {cs:Array Value} (h:aU w b t cs) (hb:Only bs w w') (hn:b ∉ bs):aU w' b t cs:=h.keep (hb.block b h.lt hn)
theorem oL {ops:Array Oper} {o:Oper} {a:Act} {K:Act→World→Prop} {Q:Exit→Act→World→Prop} {E:Prop} {w w':World} {v y v':Value} (hgd:o.guard=none) (s x:Operand) (t:TypeId)
  (ho:o.op=.call { callee:=.builtin .append,args:=#[s,x],argTypes:=#[t,t] }) (hr:(Builtin.append_ #[t,t] o.type #[v,y]).run Tryz.prog w=.ok v' w') (hs:a.eval s=v) (hx:a.eval x=y) (h:K (a.put o.dst v') w') :
  if Region.wanted o (yielded ops a.tmps)=true then Oper.wp Tryz.prog o a w K Q else E:=by
 have hw:Region.wanted o (yielded ops a.tmps)=true:=by simp[Region.wanted,hgd]
 rw[if_pos hw]
 unfold Oper.wp execOp
 simp only[ho,resolve,invoke,builtin,Sem.run_bind,Sem.run_pure,Result.andThen_ok,List.map_toArray,List.map_cons,List.map_nil,hs,hx,hr]
 exact h
theorem bH {ops:Array Oper} {rest:List Oper} {o:Oper} {a:Act} {Q:Exit→Act→World→Prop} {w w':World} {v y v':Value} (hgd:o.guard=none) (s x:Operand) (t:TypeId)
  (ho:o.op=.call { callee:=.builtin .append,args:=#[s,x],argTypes:=#[t,t] }) (hr:(Builtin.append_ #[t,t] o.type #[v,y]).run Tryz.prog w=.ok v' w') (hs:a.eval s=v) (hx:a.eval x=y) (h:wpList Tryz.prog ops Q rest (a.put o.dst v') w') :
  wpList Tryz.prog ops Q (o :: rest) a w:=by
 refine wpList_plain hgd fun K hK=>?_
 unfold Oper.wp execOp
 simp only[ho,resolve,invoke,builtin,Sem.run_bind,Sem.run_pure,Result.andThen_ok,List.map_toArray,List.map_cons,List.map_nil,hs,hx,hr]
 exact hK _ _ h
def FB {α:Type} (C:α→List Value) (c:Nat) (e:TypeId) (base:Nat) (w:World) (v:Value) (xs:List α):Prop:=w.ownsRow base e c v xs.length (flat C xs)
theorem FB.nil {α:Type} (C:α→List Value) (c:Nat) (e:TypeId) (base:Nat) (w:World):FB C c e base w (.slice none 0 0) []:=⟨by simp[flat],.inl ⟨rfl,rfl⟩⟩
theorem FB.lit {α:Type} (C:α→List Value) (c:Nat) (e:TypeId) (w:World):FB C c e w.heap.size (w.alloc (.cells #[] e)) (.slice (some ⟨w.heap.size,0,none⟩) 0 0) [] :=
 World.ownsRow_lit (base:=w.heap.size) (e:=e) (size:=c) w #[] 0 (aS _) (by unfold maxLen;omega) (by simp)
theorem FB.form {α:Type} {C:α→List Value} {c:Nat} {e:TypeId} {base:Nat} {w:World} {v:Value} {xs:List α} (h:FB C c e base w v xs):∃a cap,v=.slice a xs.length cap∧xs.length≤cap∧cap≤9223372036854775807:=by
 obtain⟨_,⟨rfl,h0⟩|⟨g,cap,cur,rfl,hg,_,hc,hm,_⟩⟩:=h
 ·exact⟨none,0,by rw[h0],by omega,by omega⟩
 ·exact⟨_,_,rfl,hc,by unfold maxLen at hm;omega⟩
theorem FB.own {α:Type} {C:α→List Value} {c:Nat} {e:TypeId} {base:Nat} {w:World} {v:Value} {xs:List α} (h:FB C c e base w v xs):∀b∈v.ownBlock.toList,base≤b∧b<w.heap.size:=by
 obtain⟨_,⟨rfl,h0⟩|⟨g,cap,cur,rfl,hg,hs,_⟩⟩:=h
 ·intro b hb;simp[Value.ownBlock] at hb
 ·intro b hb
  simp[Value.ownBlock] at hb
  subst hb
  rw[Array.getElem?_eq_some_iff] at hs
  exact⟨hg,hs.1⟩
theorem FB.keep {α:Type} {C:α→List Value} {c:Nat} {e:TypeId} {base:Nat} {w w':World} {v:Value} {xs:List α} (h:FB C c e base w v xs) (hb:∀b∈v.ownBlock.toList,w'.heap[b]?=w.heap[b]?):FB C c e base w' v xs:=by
 unfold FB at *
 obtain⟨h0,⟨rfl,h1⟩|⟨g,cap,cur,rfl,hg,hh,rest⟩⟩:=h
 ·exact⟨h0,.inl ⟨rfl,h1⟩⟩
 ·exact⟨h0,.inr ⟨g,cap,cur,rfl,hg,by rw[hb g (by simp[Value.ownBlock])];exact hh,rest⟩⟩
theorem FB.below {α:Type} {C:α→List Value} {c:Nat} {e:TypeId} {base:Nat} {w w':World} {v:Value} {xs:List α} (h:FB C c e base w v xs) (hb:Below w.heap.size w w'):FB C c e base w' v xs :=
 h.keep fun b hb'=>hb.block b (h.own b hb').2
theorem FB.at {α:Type} {C:α→List Value} {c:Nat} {e:TypeId} {Z:α→Prop} (hC:∀x,(C x).length=c) {base:Nat} {w:World} {v:Value} {xs:List α} (h:FB C c e base w v xs) (hl:xs.length≤9223372036854775807) (hZ:∀i (h:i<xs.length),Z xs[i]) :
  At c (FR C Z) base w v xs:=by
 obtain⟨bs,h1,h2,_⟩:=FO.Yi hC h hl
 exact h1.at hC hZ fun b hb=>(h2 b hb).1
theorem BA {w:World} (cs:List Value) (e:TypeId):∀j u,cs[j]?=some u→(w.alloc (.cells cs.toArray e)).cell? ((⟨w.heap.size,0,none⟩:Addr).add j)=some u:=by
 intro j u hu
 have hj:j<cs.length:=by
  by_cases hj:j<cs.length
  ·exact hj
  ·rw[List.getElem?_eq_none (by omega)] at hu;cases hu
 have:=(aU.new w e cs.toArray).cell j (by simpa using hj)
 rw[List.getElem?_eq_getElem hj] at hu
 injection hu with hu
 subst hu
 have e2:((⟨w.heap.size,0,none⟩:Addr).add j)=⟨w.heap.size,j,none⟩:=by
  simp only[Addr.add,Nat.zero_add]
  by_cases h0:j=0
  ·subst h0;simp
  ·rw[if_neg h0]
 rw[e2,this]
 simp
theorem app1 {α:Type} {C:α→List Value} {c bytes:Nat} {t e:TypeId} {z:Value} (ht:Tryz.prog.underlying t=some (.slice e)) (hinfo:(Tryz.prog.info? e).map (fun i=>(i.zero,i.size,i.bytes))=some (some z,c,bytes)) (hz:z.cells.size=c) (hc:0<c)
  (hC:∀x,(C x).length=c) (h1:∀x,∀u∈C x,u.oneCell'=true) {base:Nat} {w:World} {v:Value} {xs:List α} (h:FB C c e base w v xs) (ty:TypeId) (x:α) (hb:base≤w.heap.size) (hl:xs.length≤1000000) (hby:bytes≤1000) :
  ∃v' w',(Builtin.append_ #[t,t] ty #[v,.slice (some ⟨w.heap.size,0,none⟩) 1 1]).run Tryz.prog (w.alloc (.cells (C x).toArray e))=.ok v' w'∧FB C c e base w' v' (xs++[x])∧Only v.ownBlock.toList w w'∧(v'.ownBlock=v.ownBlock∨∃g,v'.ownBlock=some g∧w.heap.size≤g):=by
 obtain⟨i0,hi,hz0,hz1,hz2⟩:=info_parts hinfo
 have hbl:(xs.length+1) * bytes≤1000001 * 1000:=Nat.mul_le_mul (by omega) hby
 obtain⟨v',w',hr,ho,hg,_,hat⟩:=run_append_own_at (P:=Tryz.prog) (w:=w.alloc (.cells (C x).toArray e)) base t ty e i0 z c bytes ht hi hz0 hz1 hz2 hz hc v xs.length (flat C xs) (World.ownsRow.alloc h _) ⟨w.heap.size,0,none⟩ 1 1 (C x) (by rw[hC];omega) (BA _ _) (h1 x) (by unfold maxLen;omega) (by omega) (by rw[Deep.nblk_alloc];omega)
 refine⟨v',w',hr,?_,?_,?_⟩
 ·unfold FB
  rw[List.length_append,List.length_singleton,Et]
  exact ho
 ·refine(Only.of_below ((Below.refl w.heap.size w).alloc (aS _) _)).trans ⟨hg.os,hg.tape,hg.output,hg.size,fun k hk hn=>hg.block k hk fun e1=>hn ?_⟩
  rw[←e1]
  simp
 ·rcases hat with hat|hat
  ·exact .inl hat
  ·exact .inr ⟨_,hat,by rw[Deep.nblk_alloc];omega⟩
end Go.Proofs.YtfdihjnlgdiioaaGreatDoor.dB
namespace Go.Proofs.YtfdihjnlgdiioaaGreatDoor.dB
set_option linter.unusedVariables false
set_option linter.unusedSimpArgs false
def Wr (B W R:List UInt8):Prop:=((B++W).length≤40000∧R=B++W)∨(40000<(B++W).length∧40000<R.length∧R.length≤(B++W).length)
theorem Wr.le {B W R:List UInt8} (h:Wr B W R):R.length≤(B++W).length:=by
 rcases h with⟨_,rfl⟩|⟨_,_,h⟩
 ·exact aS _
 ·exact h
theorem Wr.eq {B W R:List UInt8} (h:Wr B W R) (hl:(B++W).length≤40000):R=B++W:=by
 rcases h with⟨_,h⟩|⟨h,_⟩
 ·exact h
 ·omega
theorem Wr.long {B W R:List UInt8} (h:Wr B W R) (hl:40000<(B++W).length):40000<R.length:=by
 rcases h with⟨h,_⟩|⟨_,h,_⟩
 ·omega
 ·exact h
theorem Wr.nil (B:List UInt8):Wr B [] B:=by
 unfold Wr
 rw[List.append_nil]
 by_cases h:B.length≤40000
 ·exact .inl ⟨h,rfl⟩
 ·exact .inr ⟨by omega,by omega,aS _⟩
theorem Wr.full (B W:List UInt8):Wr B W (B++W):=by
 unfold Wr
 by_cases h:(B++W).length≤40000
 ·exact .inl ⟨h,rfl⟩
 ·exact .inr ⟨by omega,by omega,aS _⟩
theorem Wr.stay (B W:List UInt8) (h:40000<B.length):Wr B W B:=by
 refine .inr ⟨?_,h,?_⟩ <;> rw[List.length_append] <;> omega
theorem Wr.trans {B W1 R1 W2 R2:List UInt8} (h1:Wr B W1 R1) (h2:Wr R1 W2 R2):Wr B (W1++W2) R2:=by
 rcases h1 with⟨a,rfl⟩|⟨a,b,c⟩
 ·unfold Wr at h2 ⊢
  rw[List.append_assoc] at h2
  exact h2
 ·have hl:40000<(R1++W2).length:=by rw[List.length_append];omega
  have h3:=h2.long hl
  have h4:=h2.le
  rw[List.length_append] at h4 a c
  refine .inr ⟨?_,h3,?_⟩ <;> rw[List.length_append,List.length_append] <;> omega
end Go.Proofs.YtfdihjnlgdiioaaGreatDoor.dB
namespace Go.Proofs.YtfdihjnlgdiioaaGreatDoor.dB
open Go.ChangeShapes Go.WideShapes Go.ChangeAt Go.RowKit
set_option linter.unusedVariables false
set_option linter.unusedSimpArgs false
def nW (c:ByteArray):Bool:=decide (c.size≤40000) && dI c
def tL (r:lW):Bool:=sJ 20 ByteArray.size r && r.all nW
def gW (f:Field):Bool:=sJ 30 List.length f && f.all tL
def rD (s:Seg):Bool:=dY s.name && (sJ 30 List.length s.fields && s.fields.all gW)
set_option maxHeartbeats 1000000 in
theorem NW (x:lW) (v:Value) (w:World) {lo:Nat} (hv:bq lo w v x) :
  Calls Tryz.prog 121 #[.agg #[v]] w fun e w'=>e=.returned (.bool (tL x))∧Below w.heap.size w w':=by
 have hl:=hv.1
 have hb:=(Below.refl w.heap.size w).alloc (aS _) (Obj.cells #[v] 60)
 have hv1:=At.kept bE hv hb
 obtain⟨a,cap,rfl,hc⟩:=hv1.form
 have HC:=hide hc
 clear hc
 have HR:Hid (tL x=(sJ 20 ByteArray.size x && x.all nW)):=rfl
 cases hcs:sJ 20 ByteArray.size x
 ·have HX:Hid (tL x=false):=by rw[HR.out,hcs];rfl
  have HS:=hide hcs
  clear hcs
  go_enter Tryz.func121,Tryz.ntmps121
  go_wp2_with fail
  refine(vH x 20 _ _ hv1 (by omega)).mono ?_
  rintro e w' ⟨rfl,rfl⟩
  rw[HS.out]
  go_wp2_with fail
  go_ret
  exact⟨aA HX.out.symm,hb⟩
 ·have HX:Hid (tL x=x.all nW):=by rw[HR.out,hcs];rfl
  have HS:=hide hcs
  clear hcs
  go_enter Tryz.func121,Tryz.ntmps121
  go_wp2_with fail
  refine(vH x 20 _ _ hv1 (by omega)).mono ?_
  rintro e w' ⟨rfl,rfl⟩
  rw[HS.out]
  clear hv1 hv
  go_wp2_with fail
  go_loop [12] (fun i=>∃k:Nat,k≤x.length∧i=.int .i64 k∧(x.take k).all nW=true) (fun i=>x.length - (intOf i).toNat)
  case atStart=>exact⟨0,eH _,rfl,rfl⟩
  case round =>
   obtain⟨k,hk,rfl,hall⟩:=hrel
   have HA:=hide hall
   clear hall
   by_cases hlt:k<x.length
   ·obtain⟨b,off,rfl,_,_,hr⟩:=HC.out k hlt
    have hcell:(w.alloc (Obj.cells #[.slice (some ⟨b,off,none⟩) x.length cap] 60)).cell? ⟨b,off+k,none⟩=some (.string x[k]):=by simpa using hr.1
    have hsz:=hr.2
    clear hr
    have HK:Hid (nW x[k]=(decide (x[k].size≤40000) && dI x[k])):=rfl
    by_cases hlong:(40000:Int)<(x[k].size:Int)
    ·have HF:=hide (iy (p:=nW) hlt (by rw[HK.out,decide_eq_false (by omega)];rfl))
     go_wp2_with fail
     go_ret
     exact⟨aA (by rw[HX.out,HF.out]),hb⟩
    ·have HK2:Hid (nW x[k]=dI x[k]):=by rw[HK.out,decide_eq_true (by omega)];rfl
     go_wp2_with fail
     refine(ni x[k] _ hsz).mono ?_
     rintro e w' ⟨rfl,rfl⟩
     cases hp:dI x[k]
     ·have HF:=hide (iy (p:=nW) hlt (by rw[HK2.out];exact hp))
      clear hp
      go_wp2_with fail
      go_ret
      exact⟨aA (by rw[HX.out,HF.out]),hb⟩
     ·have HF:=hide (jD (p:=nW) hlt HA.out (by rw[HK2.out];exact hp))
      clear hp
      go_wp2_with fail
      go_round
      case rel=>exact⟨k+1,by omega,by go_num,HF.out⟩
      case measure=>simp[intOf];omega
   ·have HF:=hide (jE (by omega) HA.out)
    go_wp2_with fail
    go_ret
    exact⟨aA (by rw[HX.out,HF.out]),hb⟩
set_option maxHeartbeats 1000000 in
theorem Ii (x:Field) (v:Value) (w:World) {lo:Nat} (hv:gL lo w v x) :
  Calls Tryz.prog 89 #[.agg #[v]] w fun e w'=>e=.returned (.bool (gW x))∧Below w.heap.size w w':=by
 have hl:=hv.1
 have hb:=(Below.refl w.heap.size w).alloc (aS _) (Obj.cells #[v] 57)
 have dP:(w.alloc (Obj.cells #[v] 57)).cell? ⟨w.heap.size,0,none⟩=some v:=by simp
 have hv1:=At.kept iQ hv hb
 have HR:Hid (gW x=(sJ 30 List.length x && x.all tL)):=rfl
 have jr:=hide dP
 clear dP hv
 cases hcs:sJ 30 List.length x
 ·have HX:Hid (gW x=false):=by rw[HR.out,hcs];rfl
  have HS:=hide hcs
  clear hcs
  go_enter Tryz.func89,Tryz.ntmps89
  go_wp2_with fail
  refine(vI x 30 _ _ hv1 (by omega)).mono ?_
  rintro e w1 ⟨rfl,hb1⟩
  rw[HS.out]
  clear hv1
  go_wp2_with fail
  go_ret
  exact⟨aA HX.out.symm,aj hb1 hb⟩
 ·have HX:Hid (gW x=x.all tL):=by rw[HR.out,hcs];rfl
  have HS:=hide hcs
  clear hcs
  go_enter Tryz.func89,Tryz.ntmps89
  go_wp2_with fail
  refine(vI x 30 _ _ hv1 (by omega)).mono ?_
  rintro e w1 ⟨rfl,hb1⟩
  rw[HS.out]
  have ED:w1.cell? ⟨w.heap.size,0,none⟩=some v:=by rw[hb1.cell (p:=⟨w.heap.size,0,none⟩) (by simp)];exact jr.out
  have hv2:=At.kept iQ hv1 hb1
  have hb2:=aj hb1 hb
  clear hv1 hb1 jr hb
  obtain⟨a,cap,rfl,hc⟩:=hv2.form
  have HC:=hide hc
  clear hc hv2
  go_wp2_with fail
  clear ED
  go_loopw [12] (fun i wr=>∃k:Nat,k≤x.length∧i=.int .i64 k∧(x.take k).all tL=true∧Below w1.heap.size w1 wr) (fun i _=>x.length - (intOf i).toNat)
  case atStart=>exact⟨0,eH _,rfl,rfl,Below.refl _ _⟩
  case round =>
   obtain⟨k,hk,rfl,hall,hbr⟩:=hrel
   have HA:=hide hall
   clear hall
   by_cases hlt:k<x.length
   ·obtain⟨b,off,rfl,_,hbl,ve,hcell,hel⟩:=HC.out k hlt
    obtain⟨a5,cap5,rfl,_⟩:=hel.form
    have hcell':wr.cell? ⟨b,off+k,none⟩=some (.slice a5 x[k].length cap5):=by rw[hbr.cell (p:=⟨b,off+k,none⟩) hbl];simpa using hcell
    have KD:=hbr.alloc hbr.size (Obj.cells #[.slice a5 x[k].length cap5] 60)
    have xD:=At.kept bE hel KD
    clear hcell hel
    go_wp2_with fail
    refine(NW x[k] _ _ xD).mono ?_
    rintro e w2 ⟨rfl,hb3⟩
    have hb4:Below w1.heap.size w1 w2:=aj hb3 KD
    clear hbr KD hb3 hcell' xD
    cases hp:tL x[k]
    ·have HF:=hide (iy hlt hp)
     clear hp
     go_wp2_with fail
     go_ret
     exact⟨aA (by rw[HX.out,HF.out]),aj hb4 hb2⟩
    ·have HF:=hide (jD hlt HA.out hp)
     clear hp
     go_wp2_with fail
     go_roundw
     case rel=>exact⟨k+1,by omega,by go_num,HF.out,hb4⟩
     case measure=>simp[intOf];omega
   ·have HF:=hide (jE (by omega) HA.out)
    go_wp2_with fail
    go_ret
    exact⟨aA (by rw[HX.out,HF.out]),aj hbr hb2⟩
theorem Ij (k:Nat):((k:Int) == 0)=(k == 0):=by
 by_cases h:k=0
 ·subst h;rfl
 ·rw[beq_eq_false_iff_ne.2 (by omega),beq_eq_false_iff_ne.2 h]
def tN (p:Seg × Nat):Bool:=jY (p.2 == 0) p.1
theorem NY {xs:List Seg} {k:Nat} (h:k<xs.length) (h1:(xs.take k).zipIdx.all tN=true) (h2:jY (k == 0) xs[k]=true):(xs.take (k+1)).zipIdx.all tN=true:=by
 rw[Bp xs k h,List.all_append,h1]
 simp[tN,h2]
theorem EF {xs:List Seg} {k:Nat} (h:k<xs.length) (h2:jY (k == 0) xs[k]=false):xs.zipIdx.all tN=false:=by
 rw[List.all_eq_false]
 refine⟨(xs[k],k),?_,by simp[tN,h2]⟩
 rw[List.mk_mem_zipIdx_iff_getElem?]
 simp[h]
theorem NZ {xs:List Seg} {k:Nat} (h:xs.length≤k) (h1:(xs.take k).zipIdx.all tN=true):xs.zipIdx.all tN=true:=by
 rwa [List.take_of_length_le h] at h1
set_option maxHeartbeats 1000000 in
theorem EG (xs:List Seg) (v:Value) (w:World) {lo:Nat} (hv:aX lo w v xs) :
  Calls Tryz.prog 70 #[.agg #[v]] w fun e w'=>e=.returned (.bool (jZ xs))∧Below w.heap.size w w':=by
 have hl:=hv.1
 have hb:=(Below.refl w.heap.size w).alloc (aS _) (Obj.cells #[v] 28)
 have dP:(w.alloc (Obj.cells #[v] 28)).cell? ⟨w.heap.size,0,none⟩=some v:=by simp
 obtain⟨a,cap,rfl,hc⟩:=(At.kept bA hv hb).form
 have HC:=hide hc
 clear hc hv
 have jr:=hide dP
 clear dP
 have HR:Hid (jZ xs=(decide (1≤xs.length) && (decide (xs.length≤250) && xs.zipIdx.all tN))):=rfl
 by_cases h1:(xs.length:Int)<1
 ·go_enter Tryz.func70,Tryz.ntmps70
  go_wp2_with fail
  go_ret
  exact⟨aA (by rw[HR.out,decide_eq_false (by omega)];rfl),hb⟩
 ·by_cases h2:(250:Int)<(xs.length:Int)
  ·go_enter Tryz.func70,Tryz.ntmps70
   go_wp2_with fail
   go_ret
   exact⟨aA (by rw[HR.out,decide_eq_false (p:=xs.length≤250) (by omega),Bool.false_and,Bool.and_false]),hb⟩
  ·have HX:Hid (jZ xs=xs.zipIdx.all tN):=by rw[HR.out,decide_eq_true (by omega),decide_eq_true (by omega)];rfl
   go_enter Tryz.func70,Tryz.ntmps70
   go_wp2_with fail
   go_loopw [3] (fun i wr=>∃k:Nat,k≤xs.length∧i=.int .i64 k∧(xs.take k).zipIdx.all tN=true∧Below (w.heap.size+1) (w.alloc (Obj.cells #[.slice a xs.length cap] 28)) wr) (fun i _=>xs.length - (intOf i).toNat)
   case atStart=>exact⟨0,eH _,rfl,rfl,Below.refl _ _⟩
   case round =>
    obtain⟨k,hk,rfl,hall,hbr⟩:=hrel
    have HA:=hide hall
    clear hall
    have hbw:Below w.heap.size w wr:=hb.trans (hbr.mono (by omega))
    have dP:wr.cell? ⟨w.heap.size,0,none⟩=some (.slice a xs.length cap):=by rw[hbr.cell (p:=⟨w.heap.size,0,none⟩) (by simp)];exact jr.out
    have tK:Below (w.alloc (Obj.cells #[.slice a xs.length cap] 28)).heap.size (w.alloc (Obj.cells #[.slice a xs.length cap] 28)) wr:=by simpa using hbr
    by_cases hlt:k<xs.length
    ·obtain⟨b,off,rfl,_,Ic,hc0,hns,ve,hcell,hel⟩:=HC.out k hlt
     have hcell0:wr.cell? ⟨b,off+k * 2,none⟩=some (.string xs[k].name):=by rw[tK.cell (p:=⟨b,off+k * 2,none⟩) Ic];exact hc0
     have hcell1:wr.cell? ⟨b,off+k * 2+1,none⟩=some ve:=by rw[tK.cell (p:=⟨b,off+k * 2+1,none⟩) Ic];exact hcell
     have xD:=At.kept aP hel tK
     clear hcell hel hc0
     have HK:=hide (Ij k)
     go_wp2_with fail
     rw[HK.out]
     refine(NV xs[k] (k == 0) ve _ hns xD).mono ?_
     rintro e w2 ⟨rfl,hb2⟩
     have hb3:Below (w.heap.size+1) (w.alloc (Obj.cells #[.slice (some ⟨b,off,none⟩) xs.length cap] 28)) w2:=hbr.trans (hb2.mono (by have:=hbr.size;simp at this;omega))
     clear hbr tK hb2 hcell0 hcell1 xD dP
     cases hp:jY (k == 0) xs[k]
     ·have HF:=hide (EF hlt hp)
      clear hp
      go_wp2_with fail
      go_ret
      exact⟨aA (by rw[HX.out,HF.out]),hb.trans (hb3.mono (by omega))⟩
     ·have HF:=hide (NY hlt HA.out hp)
      clear hp
      go_wp2_with fail
      go_roundw
      case rel=>exact⟨k+1,by omega,by go_num,HF.out,hb3⟩
      case measure=>simp[intOf];omega
    ·have HF:=hide (NZ (by omega) HA.out)
     go_wp2_with fail
     go_ret
     exact⟨aA (by rw[HX.out,HF.out]),hbw⟩
theorem KE {base:Nat} {w:World} {v:Value} {bs:List UInt8} (h:Buf base w v bs):Sem.run Tryz.prog (convert 22 9 v) w=.ok (.string ⟨bs.toArray⟩) w:=by
 obtain⟨hlen,⟨rfl,h0⟩|⟨g,cap,cur,rfl,hg,hs,hcap,hm,hsz,htk⟩⟩:=h
 ·rw[run_convert_bytes_nil w 22 5 Tryz.underlying22 Tryz.underlying5 0 0 9 Tryz.underlying9]
  have:bs=[]:=List.length_eq_zero_iff.1 h0
  subst this
  rfl
 ·rw[run_convert_bytes_arg w 22 5 Tryz.underlying22 Tryz.underlying5 g 0 bs.length cap (bs.map fun c=>(c.toNat:Int)) (by simp) ?_ 9 Tryz.underlying9]
  ·congr 2
   unfold strOfNums
   congr 2
   rw[List.map_map]
   conv=>rhs;rw[←List.map_id bs]
   apply List.map_congr_left
   intro c _
   simp
  ·intro i hi
   have h2:cur.toList[i]?=some (.int .u8 (bs[i].toNat:Int)):=by
    have h3:(cur.toList.take (bs.length * 1))[i]?=some (.int .u8 (bs[i].toNat:Int)):=by rw[htk];simp[Qh,hi]
    rw[List.getElem?_take] at h3
    rw[if_pos (by omega)] at h3
    exact h3
   simp only[World.cell?,hs,Nat.zero_add]
   rw[←Array.getElem?_toList,h2]
   simp[List.getD_eq_getElem?_getD,hi]
def dW (m:List Seg):Bool:=jZ m && decide ((iq m).length≤40000)
def encoded (m:List Seg):ByteArray:=if dW m=true then ⟨(iq m).toArray⟩ else ⟨#[]⟩
theorem jI {m:List Seg} (h:dW m=true):encoded m=⟨(iq m).toArray⟩:=if_pos h
theorem rE {m:List Seg} (h:dW m=false):encoded m=⟨#[]⟩:=if_neg (by rw[h];decide)
theorem Buf.len {base:Nat} {w:World} {v:Value} {bs:List UInt8} (h:Buf base w v bs):∃a cap,v=.slice a bs.length cap:=by
 obtain⟨hlen,⟨rfl,h0⟩|⟨g,cap,cur,rfl,_⟩⟩:=h
 ·exact⟨none,0,by rw[h0]⟩
 ·exact⟨_,_,rfl⟩
set_option maxHeartbeats 1000000 in
theorem Ea (xs:List Seg) (v:Value) (w:World) (hsz:aT xs≤1048576) {lo:Nat} (hv:aX lo w v xs) :
  Calls Tryz.prog 39 #[.agg #[v]] w fun e w'=>e=.returned (.bool (dW xs))∧Below w.heap.size w w':=by
 have hb:=(Below.refl w.heap.size w).alloc (aS _) (Obj.cells #[v] 28)
 have hv1:=At.kept bA hv hb
 have dP:(w.alloc (Obj.cells #[v] 28)).cell? ⟨w.heap.size,0,none⟩=some v:=by simp
 have HR:Hid (dW xs=(jZ xs && decide ((iq xs).length≤40000))):=rfl
 have hmw:=MI xs
 cases hs:jZ xs
 ·have HX:Hid (dW xs=false):=by rw[HR.out,hs];rfl
  have HS:=hide hs
  clear hs dP
  go_enter Tryz.func39,Tryz.ntmps39
  go_wp2_with fail
  refine(EG xs v _ hv1).mono ?_
  rintro e w1 ⟨rfl,hb1⟩
  rw[HS.out]
  go_wp2_with fail
  go_ret
  exact⟨aA HX.out.symm,aj hb1 hb⟩
 ·have HX:Hid (dW xs=decide ((iq xs).length≤40000)):=by rw[HR.out,hs];rfl
  have HS:=hide hs
  have jr:=hide dP
  clear hs dP
  go_enter Tryz.func39,Tryz.ntmps39
  go_wp2_with fail
  refine(EG xs v _ hv1).mono ?_
  rintro e w1 ⟨rfl,hb1⟩
  rw[HS.out]
  have ED:w1.cell? ⟨w.heap.size,0,none⟩=some v:=by rw[hb1.cell (p:=⟨w.heap.size,0,none⟩) (by simp)];exact jr.out
  have hv2:=At.kept bA hv1 hb1
  have hb2:=aj hb1 hb
  clear hv1 hb1
  go_wp2_with fail
  refine(H7 xs v _ hsz hv2).mono ?_
  rintro e w3 ⟨u,rfl,hu,hb3⟩
  obtain⟨a,cap,rfl⟩:=hu.len
  by_cases hle:((iq xs).length:Int)≤40000
  ·go_wp2_with fail
   go_ret
   exact⟨aA (by rw[HX.out,decide_eq_true (by omega)]),aj hb3 hb2⟩
  ·go_wp2_with fail
   go_ret
   exact⟨aA (by rw[HX.out,decide_eq_false (p:=(iq xs).length≤40000) (by omega)];first|rfl|simpa using hle),aj hb3 hb2⟩
end Go.Proofs.YtfdihjnlgdiioaaGreatDoor.dB
namespace Go.Proofs.YtfdihjnlgdiioaaGreatDoor.dB
set_option linter.unusedVariables false
set_option linter.unusedSimpArgs false
theorem zJ (l:List UInt8) (h:(bI 13 l)[(bI 13 l).length - 1]'(by have:=jC 13 l;omega)=[]):dL l=(bI 13 l).dropLast:=by
 unfold dL
 rw[if_pos]
 rw[List.getLast?_eq_getElem?,List.getElem?_eq_getElem (by have:=jC 13 l;omega),h]
theorem BD (l:List UInt8) (h:(bI 13 l)[(bI 13 l).length - 1]'(by have:=jC 13 l;omega)≠[]):dL l=bI 13 l:=by
 unfold dL
 rw[if_neg]
 rw[List.getLast?_eq_getElem?,List.getElem?_eq_getElem (by have:=jC 13 l;omega)]
 intro e
 injection e with e
 exact h e
theorem rF (l:List UInt8) (i:Nat) (h:i<(dL l).length):∃h2:i<(bI 13 l).length,(dL l)[i]=(bI 13 l)[i]:=by
 by_cases hl:(bI 13 l)[(bI 13 l).length - 1]'(by have:=jC 13 l;omega)=[]
 ·have e:=zJ l hl
  have h':i<((bI 13 l).dropLast).length:=by rw[←e];exact h
  refine⟨by rw[List.length_dropLast] at h';omega,?_⟩
  have:(dL l)[i]=((bI 13 l).dropLast)[i]:=by simp only[e]
  rw[this,List.getElem_dropLast]
 ·have e:=BD l hl
  have h':i<(bI 13 l).length:=by rw[←e];exact h
  exact⟨h',by simp only[e]⟩
theorem KG (l:List UInt8):(dL l).length≤(bI 13 l).length:=by
 unfold dL
 split
 ·rw[List.length_dropLast];omega
 ·exact aS _
theorem Ik {s:ByteArray} (h:eB s=true) (h0:0<(dL s.data.toList).length):8≤((dL s.data.toList)[0]).length:=by
 obtain⟨h2,e⟩:=rF s.data.toList 0 h0
 rw[e]
 unfold eB at h
 simp only[Bool.and_eq_true,decide_eq_true_eq] at h
 obtain⟨h8,hm,hd,_⟩:=h
 have hl:8≤s.data.toList.length:=by simpa using h8
 have hno:∀x∈s.data.toList.take 8,x≠13:=by
  intro x hx
  obtain⟨i,hi,rfl⟩:=List.getElem_of_mem hx
  have hi8:i<8:=by rw[List.length_take] at hi;omega
  rw[List.getElem_take]
  by_cases h3:i<3
  ·have hm':s.data.toList.take 3=[77,83,72]:=by
    have:=beq_iff_eq.1 hm
    rw[ByteArray.toList_eq,Lib.extract_data] at this
    simpa using this
   have:(s.data.toList.take 3)[i]'(by rw[List.length_take];omega)=([77,83,72]:List UInt8)[i]'(by simpa using h3):=by simp only[hm']
   rw[List.getElem_take] at this
   rw[this]
   match i,h3 with
   | 0,_=>exact(by decide:(77:UInt8)≠13)
   | 1,_=>exact(by decide:(83:UInt8)≠13)
   | 2,_=>exact(by decide:(72:UInt8)≠13)
  ·unfold pX at hd
   rw[List.all_eq_true] at hd
   have:=hd (i - 3) (by simp;omega)
   have hg:(s.extract 3 8).data.toList[i - 3]?=some s.data.toList[i]:=by
    rw[Lib.extract_data,List.getElem?_take,if_pos (by omega),List.getElem?_drop,show 3+(i - 3)=i by omega,List.getElem?_eq_getElem (by omega)]
   intro aee
   rw[aee] at hg
   unfold newAt at this
   rw[hg] at this
   have hb:xA 13=true:=by decide
   simp[hb] at this
 obtain⟨t,ts,hc⟩:=Nw 13 (s.data.toList.take 8) (s.data.toList.drop 8) hno
 rw[List.take_append_drop] at hc
 have:(bI 13 s.data.toList)[0]=s.data.toList.take 8++t:=by simp only[hc,List.getElem_cons_zero]
 rw[this,List.length_append,List.length_take]
 omega
theorem YB {d:ByteArray} {hd:d.size=5} {i:Nat} {p:List UInt8} (h:p.length<3∨dY (txt (p.take 3))=false∨(0<i∧p.take 3=[77,83,72])):nk d hd i p=.error 4:=by
 unfold nk;rw[if_pos h]
theorem YC {d:ByteArray} {hd:d.size=5} {i:Nat} {p:List UInt8} (h:¬(p.length<3∨dY (txt (p.take 3))=false∨(0<i∧p.take 3=[77,83,72]))) (h2:(cB i p).head?.any (fun c=>c != d[0])=true):nk d hd i p=.error 4:=by
 unfold nk;rw[if_neg h,if_pos h2]
theorem Xo {d:ByteArray} {hd:d.size=5} {i:Nat} {p:List UInt8} (h:¬(p.length<3∨dY (txt (p.take 3))=false∨(0<i∧p.take 3=[77,83,72]))) (h2:(cB i p).head?.any (fun c=>c != d[0])=false)
  (h3:250≤i∨qB (cO d hd (cB i p))=true):nk d hd i p=.error 5:=by
 unfold nk;rw[if_neg h,if_neg (by rw[h2];decide),if_pos h3]
theorem abm {d:ByteArray} {hd:d.size=5} {i:Nat} {p:List UInt8} (h:¬(p.length<3∨dY (txt (p.take 3))=false∨(0<i∧p.take 3=[77,83,72]))) (h2:(cB i p).head?.any (fun c=>c != d[0])=false)
  (h3:¬(250≤i∨qB (cO d hd (cB i p))=true)) (h4:dK (dK (dK (plainO d hd))) (cO d hd (cB i p))=none):nk d hd i p=.error 6:=by
 unfold nk;rw[if_neg h,if_neg (by rw[h2];decide),if_neg h3,h4]
theorem YD {d:ByteArray} {hd:d.size=5} {i:Nat} {p:List UInt8} (h:¬(p.length<3∨dY (txt (p.take 3))=false∨(0<i∧p.take 3=[77,83,72]))) (h2:(cB i p).head?.any (fun c=>c != d[0])=false)
  (h3:¬(250≤i∨qB (cO d hd (cB i p))=true)) {g:List Field} (h4:dK (dK (dK (plainO d hd))) (cO d hd (cB i p))=some g):nk d hd i p=.ok ⟨txt (p.take 3),g⟩:=by
 unfold nk;rw[if_neg h,if_neg (by rw[h2];decide),if_neg h3,h4]
theorem KH (d:ByteArray) (hd:d.size=5) (ps:List (List UInt8)):dS d hd 0 ps=(dS d hd 0 (ps.drop 0)).map (([]:List Seg)++·):=by
 rw[List.drop_zero]
 cases dS d hd 0 ps <;> rfl
theorem Il (p:List UInt8):(txt p).extract 0 3=txt (p.take 3):=by rw[jc,eU];rfl
theorem Im (p:List UInt8) (a:Nat):(txt p).extract a (txt p).size=txt (p.drop a):=by
 rw[jc,eU,dn,List.take_length]
theorem EH (i:Nat) (p:List UInt8):(cB i p).length≤p.length:=by
 unfold cB
 split <;> simp
theorem kT (w:World) (x y:Value) (t:TypeId):∀(j:Nat) (u:Value),[x,y][j]?=some u→(w.alloc (.cells #[x,y] t)).cell? ((⟨w.heap.size,0,none⟩:Addr).add j)=some u:=by
 intro j u hj
 match j with
 | 0=>simp at hj;subst hj;simp[Addr.add]
 | 1=>simp at hj;subst hj;simp[Addr.add]
 | j+2=>simp at hj
theorem qH:(Tryz.prog.info? 54).map (fun i=>(i.zero,i.size,i.bytes))=some (some (.agg #[.string ByteArray.empty,.slice none 0 0]),2,40):=by kernel_rfl
theorem kU (s:ByteArray) (a:Option Addr) (n c:Nat):∀u∈[Value.string s,Value.slice a n c],u.oneCell'=true:=by
 intro u hu
 simp only[List.mem_cons,List.not_mem_nil,or_false] at hu
 rcases hu with rfl|rfl <;> rfl
end Go.Proofs.YtfdihjnlgdiioaaGreatDoor.dB
namespace Go.Proofs.YtfdihjnlgdiioaaGreatDoor.dB
open Go.ChangeShapes Go.WideShapes Go.ChangeAt Go.RowKit
set_option linter.unusedVariables false
set_option linter.unusedSimpArgs false
def Led (c:UInt8) (s:List UInt8):Prop:=s=[]∨∃r,s=c :: r
theorem uQ {c:UInt8}:∀{a b s t:List UInt8},a++s=b++t→c ∉ a→c ∉ b→Led c s→Led c t→a=b∧s=t
 | [],[],s,t,h,_,_,_,_=>⟨rfl,h⟩
 | [],y :: b,s,t,h,_,hb,hs,_=>by
  rcases hs with rfl|⟨r,rfl⟩
  ·simp at h
  ·simp only[List.nil_append,List.cons_append,List.cons.injEq] at h
   exact absurd (by rw[h.1];exact List.mem_cons_self ..) hb
 | x :: a,[],s,t,h,ha,_,_,ht=>by
  rcases ht with rfl|⟨r,rfl⟩
  ·simp at h
  ·simp only[List.nil_append,List.cons_append,List.cons.injEq] at h
   exact absurd (by rw[←h.1];exact List.mem_cons_self ..) ha
 | x :: a,y :: b,s,t,h,ha,hb,hs,ht=>by
  simp only[List.cons_append,List.cons.injEq] at h
  obtain⟨e1,e2⟩:=uQ h.2 (fun hm=>ha (List.mem_cons_of_mem _ hm)) (fun hm=>hb (List.mem_cons_of_mem _ hm)) hs ht
  exact⟨by rw[h.1,e1],e2⟩
def lS {α:Type} (c:UInt8) (f:α→List UInt8) (xs:List α):List UInt8:=xs.flatMap fun x=>c :: f x
theorem xG {α:Type} (c:UInt8) (f:α→List UInt8) (xs:List α):Led c (lS c f xs):=by
 cases xs with
 | nil=>exact .inl rfl
 | cons x xs=>exact .inr ⟨_,rfl⟩
theorem BF {α:Type} {c:UInt8} {f:α→List UInt8} {V:α→Prop} (hc:∀x,V x→c ∉ f x) (hf:∀x y,V x→V y→f x=f y→x=y) :
  ∀{xs ys:List α},(∀x∈xs,V x)→(∀y∈ys,V y)→lS c f xs=lS c f ys→xs=ys
 | [],[],_,_,_=>rfl
 | [],y :: ys,_,_,h=>by simp[lS] at h
 | x :: xs,[],_,_,h=>by simp[lS] at h
 | x :: xs,y :: ys,hx,hy,h=>by
  have h1:f x++lS c f xs=f y++lS c f ys:=by
   simp only[lS,List.flatMap_cons,List.cons_append,List.cons.injEq,true_and] at h
   exact h
  have vx:=hx x (List.mem_cons_self ..)
  have vy:=hy y (List.mem_cons_self ..)
  obtain⟨e1,e2⟩:=uQ h1 (hc x vx) (hc y vy) (xG ..) (xG ..)
  rw[hf x y vx vy e1,BF hc hf (fun z hz=>hx z (List.mem_cons_of_mem _ hz)) (fun z hz=>hy z (List.mem_cons_of_mem _ hz)) e2]
theorem jd {α:Type} (c:UInt8) (f:α→List UInt8) (x:α) (xs:List α):joined c f (x :: xs)=f x++lS c f xs:=by
 have key:∀(ys:List α) (n:Nat),1≤n→((ys.zipIdx n).flatMap fun p=>(if p.2=0 then [] else [c])++f p.1)=lS c f ys:=by
  intro ys
  induction ys with
  | nil=>intro n _;rfl
  | cons y ys ih =>
   intro n hn
   rw[List.zipIdx_cons,List.flatMap_cons,ih (n+1) (by omega)]
   have:¬n=0:=by omega
   simp[lS,this]
 unfold joined
 rw[List.zipIdx_cons,List.flatMap_cons,key xs (0+1) (by omega)]
 simp
theorem BG {α:Type} {c:UInt8} {f:α→List UInt8} {V:α→Prop} (hc:∀x,V x→c ∉ f x) (hf:∀x y,V x→V y→f x=f y→x=y) {xs ys:List α} (hx:∀x∈xs,V x) (hy:∀y∈ys,V y)
  (h0x:∀x,xs=[x]→f x≠[]) (h0y:∀y,ys=[y]→f y≠[]) (h:joined c f xs=joined c f ys):xs=ys:=by
 have single:∀(z:α) (zs:List α),f z++lS c f zs=[]→zs=[]∧f z=[]:=fun z zs e=>by
  rw[List.append_eq_nil_iff] at e
  refine⟨?_,e.1⟩
  cases zs with
  | nil=>rfl
  | cons a t=>simp[lS] at e
 match xs,ys,h,hx,hy,h0x,h0y with
 | [],[],_,_,_,_,_=>rfl
 | [],y :: ys,h,_,_,_,h0y =>
  rw[jd] at h
  obtain⟨rfl,e⟩:=single y ys h.symm
  exact absurd e (h0y y rfl)
 | x :: xs,[],h,_,_,h0x,_ =>
  rw[jd] at h
  obtain⟨rfl,e⟩:=single x xs h
  exact absurd e (h0x x rfl)
 | x :: xs,y :: ys,h,hx,hy,_,_ =>
  rw[jd,jd] at h
  have vx:=hx x (List.mem_cons_self ..)
  have vy:=hy y (List.mem_cons_self ..)
  obtain⟨e1,e2⟩:=uQ h (hc x vx) (hc y vy) (xG ..) (xG ..)
  rw[hf x y vx vy e1,BF hc hf (fun z hz=>hx z (List.mem_cons_of_mem _ hz)) (fun z hz=>hy z (List.mem_cons_of_mem _ hz)) e2]
theorem Io {α:Type} {c d:UInt8} {f:α→List UInt8} {xs:List α} (hd:d≠c) (h:∀x∈xs,d ∉ f x):d ∉ lS c f xs:=by
 intro hm
 unfold lS at hm
 rw[List.mem_flatMap] at hm
 obtain⟨x,hx,hm⟩:=hm
 rcases List.mem_cons.1 hm with e|hm
 ·exact hd e
 ·exact h x hx hm
theorem jJ {α:Type} {c d:UInt8} {f:α→List UInt8} {xs:List α} (hd:d≠c) (h:∀x∈xs,d ∉ f x):d ∉ joined c f xs:=by
 cases xs with
 | nil=>intro hm;simp[joined] at hm
 | cons x xs =>
  rw[jd]
  intro hm
  rcases List.mem_append.1 hm with hm|hm
  ·exact h x (List.mem_cons_self ..) hm
  ·exact Io hd (fun y hy=>h y (List.mem_cons_of_mem _ hy)) hm
theorem u8 {a b:UInt8} (h:a.toNat=b.toNat):a=b:=UInt8.toNat_inj.1 h
theorem mP (c:UInt8):(∃k,esc c=[92,k,92]∧((c=124∧k=70)∨(c=94∧k=83)∨(c=38∧k=84)∨(c=126∧k=82)∨(c=92∧k=69)))∨(esc c=[c]∧c≠124∧c≠94∧c≠38∧c≠126∧c≠92):=by
 unfold esc
 by_cases h1:c.toNat=124
 ·rw[if_pos h1];exact .inl ⟨70,rfl,.inl ⟨u8 h1,rfl⟩⟩
 rw[if_neg h1]
 by_cases h2:c.toNat=94
 ·rw[if_pos h2];exact .inl ⟨83,rfl,.inr (.inl ⟨u8 h2,rfl⟩)⟩
 rw[if_neg h2]
 by_cases h3:c.toNat=38
 ·rw[if_pos h3];exact .inl ⟨84,rfl,.inr (.inr (.inl ⟨u8 h3,rfl⟩))⟩
 rw[if_neg h3]
 by_cases h4:c.toNat=126
 ·rw[if_pos h4];exact .inl ⟨82,rfl,.inr (.inr (.inr (.inl ⟨u8 h4,rfl⟩)))⟩
 rw[if_neg h4]
 by_cases h5:c.toNat=92
 ·rw[if_pos h5];exact .inl ⟨69,rfl,.inr (.inr (.inr (.inr ⟨u8 h5,rfl⟩)))⟩
 rw[if_neg h5]
 exact .inr ⟨rfl,fun e=>h1 (by rw[e];rfl),fun e=>h2 (by rw[e];rfl),fun e=>h3 (by rw[e];rfl),fun e=>h4 (by rw[e];rfl),fun e=>h5 (by rw[e];rfl)⟩
theorem N7 {a b:UInt8} {s t:List UInt8} (h:esc a++s=esc b++t):a=b∧s=t:=by
 rcases mP a with⟨k,ea,ha⟩|⟨ea,_,_,_,_,na⟩ <;> rcases mP b with⟨j,eb,hb⟩|⟨eb,_,_,_,_,nb⟩
 ·rw[ea,eb] at h
  simp only[List.cons_append,List.nil_append,List.cons.injEq,true_and] at h
  obtain⟨hk,hs⟩:=h
  refine⟨?_,hs⟩
  rcases ha with⟨rfl,rfl⟩|⟨rfl,rfl⟩|⟨rfl,rfl⟩|⟨rfl,rfl⟩|⟨rfl,rfl⟩ <;> rcases hb with⟨rfl,rfl⟩|⟨rfl,rfl⟩|⟨rfl,rfl⟩|⟨rfl,rfl⟩|⟨rfl,rfl⟩ <;> first|rfl|exact absurd hk (by decide)
 ·rw[ea,eb] at h
  simp only[List.cons_append,List.nil_append,List.cons.injEq] at h
  exact absurd h.1.symm nb
 ·rw[ea,eb] at h
  simp only[List.cons_append,List.nil_append,List.cons.injEq] at h
  exact absurd h.1 na
 ·rw[ea,eb] at h
  simp only[List.cons_append,List.nil_append,List.cons.injEq] at h
  exact h
theorem BH:∀{l m:List UInt8},dR l=dR m→l=m
 | [],[],_=>rfl
 | [],b :: m,h=>by
  exfalso
  simp only[dR,List.flatMap_nil,List.flatMap_cons] at h
  rcases mP b with⟨k,e,_⟩|⟨e,_⟩ <;> · rw[e] at h;simp at h
 | a :: l,[],h=>by
  exfalso
  simp only[dR,List.flatMap_nil,List.flatMap_cons] at h
  rcases mP a with⟨k,e,_⟩|⟨e,_⟩ <;> · rw[e] at h;simp at h
 | a :: l,b :: m,h=>by
  have h1:esc a++dR l=esc b++dR m:=by simpa [dR] using h
  obtain⟨e1,e2⟩:=N7 h1
  rw[e1,BH e2]
theorem QJ {d:UInt8} {l:List UInt8} (h:d∈dR l):d∈l∨d∈[92,70,83,84,82,69]:=by
 unfold dR at h
 rw[List.mem_flatMap] at h
 obtain⟨c,hc,hm⟩:=h
 rcases mP c with⟨k,e,hk⟩|⟨e,_⟩
 ·rw[e] at hm
  right
  rcases hk with⟨_,rfl⟩|⟨_,rfl⟩|⟨_,rfl⟩|⟨_,rfl⟩|⟨_,rfl⟩ <;> simp at hm <;> rcases hm with rfl|rfl|rfl <;> decide
 ·rw[e] at hm
  left
  rw[List.mem_singleton.1 hm]
  exact hc
theorem BI {d:UInt8} {l:List UInt8} (hd:d=124∨d=94∨d=126):d ∉ dR l:=by
 intro h
 unfold dR at h
 rw[List.mem_flatMap] at h
 obtain⟨c,_,hm⟩:=h
 rcases mP c with⟨k,e,hk⟩|⟨e,n1,n2,n3,n4,n5⟩
 ·rw[e] at hm
  rcases hk with⟨_,rfl⟩|⟨_,rfl⟩|⟨_,rfl⟩|⟨_,rfl⟩|⟨_,rfl⟩ <;> simp at hm <;> rcases hm with rfl|rfl|rfl <;> revert hd <;> decide
 ·rw[e] at hm
  rw[List.mem_singleton.1 hm] at hd
  rcases hd with rfl|rfl|rfl
  ·exact n1 rfl
  ·exact n2 rfl
  ·exact n4 rfl
theorem U5 {s:ByteArray} (h:dI s=true):(13:UInt8) ∉ dR s.data.toList:=by
 intro hm
 rcases QJ hm with h1|h1
 ·unfold dI at h
  have:=List.all_eq_true.1 h 13 h1
  revert this
  decide
 ·revert h1
  decide
theorem Ip {s:ByteArray} (h:dR s.data.toList=[]):s.size=0:=by
 have h1:s.data.toList=[]:=BH (m:=[]) h
 have h2:s.data.size=0:=by rw[←Array.length_toList,h1];rfl
 exact h2
theorem xH {α:Type} {f:α→Nat} {x:α} (h:iT f [x]=true):0<f x:=by
 unfold iT at h
 simpa using h
theorem qI {r:lW} (h:nO r=true):iT ByteArray.size r=true∧∀c∈r,dI c=true:=by
 unfold nO at h
 simp only[Bool.and_eq_true,List.all_eq_true] at h
 exact⟨h.2.1,h.2.2⟩
theorem nD {f:Field} (h:fG f=true):iT List.length f=true∧∀r∈f,nO r=true:=by
 unfold fG at h
 simp only[Bool.and_eq_true,List.all_eq_true] at h
 exact⟨h.2.1,h.2.2⟩
theorem FM {s t:ByteArray} (h:s.data.toList=t.data.toList):s=t:=by
 apply ByteArray.ext
 exact Array.toList_inj.1 h
theorem Iq {r q:lW} (hr:nO r=true) (hq:nO q=true) (h:iY r=iY q):r=q:=by
 obtain⟨r1,r2⟩:=qI hr
 obtain⟨q1,q2⟩:=qI hq
 refine BG (V:=fun c=>dI c=true) (fun c _=>BI (.inr (.inl rfl))) (fun c d _ _ e=>FM (BH e)) r2 q2 ?_ ?_ h
 ·rintro c rfl e
  have:=xH r1
  have:=Ip e
  omega
 ·rintro c rfl e
  have:=xH q1
  have:=Ip e
  omega
theorem Ir {r:lW} (hr:nO r=true) (h:iY r=[]):r=[]:=Iq hr (by decide) (by rw[h];rfl)
theorem Iu {r:lW}:(126:UInt8) ∉ iY r∧(124:UInt8) ∉ iY r:=⟨jJ (by decide) fun c _=>BI (.inr (.inr rfl)),jJ (by decide) fun c _=>BI (.inl rfl)⟩
theorem U6 {r:lW} (hr:nO r=true):(13:UInt8) ∉ iY r:=jJ (by decide) fun c hc=>U5 ((qI hr).2 c hc)
theorem KI {f g:Field} (hf:fG f=true) (hg:fG g=true) (h:iE f=iE g):f=g:=by
 obtain⟨r1,r2⟩:=nD hf
 obtain⟨q1,q2⟩:=nD hg
 refine BG (V:=fun r=>nO r=true) (fun c _=>Iu.1) (fun c d hc hd e=>Iq hc hd e) r2 q2 ?_ ?_ h
 ·rintro c rfl e
  have h1:=xH r1
  have h2:=Ir (r2 c (List.mem_singleton.2 rfl)) e
  rw[h2] at h1
  exact absurd h1 (by decide)
 ·rintro c rfl e
  have h1:=xH q1
  have h2:=Ir (q2 c (List.mem_singleton.2 rfl)) e
  rw[h2] at h1
  exact absurd h1 (by decide)
theorem KJ {f:Field}:(124:UInt8) ∉ iE f:=jJ (by decide) fun c _=>Iu.2
theorem N8 {f:Field} (hf:fG f=true):(13:UInt8) ∉ iE f:=jJ (by decide) fun c hc=>U6 ((nD hf).2 c hc)
theorem rG (fs:List Field):bT fs=lS 124 iE fs:=rfl
theorem yU {b:Bool} {s:Seg} (h:jY b s=true):dY s.name=true∧∀f∈s.fields,fG f=true:=by
 unfold jY at h
 simp only[Bool.and_eq_true,List.all_eq_true] at h
 exact⟨h.1,h.2.2.2.2⟩
theorem QK {s:ByteArray} (h:dY s=true):s.data.toList.length=3∧(13:UInt8) ∉ s.data.toList:=by
 unfold dY at h
 split at h
 ·rename_i a b c e
  rw[e]
  refine⟨rfl,fun hm=>?_⟩
  simp only[Bool.and_eq_true,Bool.or_eq_true,nN,tq,decide_eq_true_eq] at h
  simp only[List.mem_cons,List.not_mem_nil,or_false] at hm
  have k:(13:UInt8).toNat=13:=rfl
  rcases hm with rfl|rfl|rfl <;> rw[k] at h <;> omega
 ·cases h
def N9 (i:Nat) (s:Seg):List UInt8:=s.name.data.toList++(if i=0 then [124,94,126,92,38] else [])++bT s.fields
theorem xI (i:Nat) (s:Seg):qD i s=N9 i s++[13]:=rfl
theorem QL {i:Nat} {b:Bool} {s t:Seg} (hs:jY b s=true) (ht:jY b t=true) (h:N9 i s=N9 i t):s=t:=by
 obtain⟨s1,s2⟩:=yU hs
 obtain⟨t1,t2⟩:=yU ht
 unfold N9 at h
 rw[List.append_assoc,List.append_assoc] at h
 obtain⟨e1,e2⟩:=List.append_inj h (by rw[(QK s1).1,(QK t1).1])
 have e3:=List.append_cancel_left e2
 rw[rG,rG] at e3
 have e4:=BF (V:=fun f=>fG f=true) (fun f _=>KJ) (fun f g hf hg e=>KI hf hg e) s2 t2 e3
 obtain⟨n,fs⟩:=s
 obtain⟨m,gs⟩:=t
 simp only at e1 e4
 rw[FM e1,e4]
theorem MN {i:Nat} {b:Bool} {s:Seg} (hs:jY b s=true):(13:UInt8) ∉ N9 i s:=by
 obtain⟨s1,s2⟩:=yU hs
 unfold N9
 intro hm
 rcases List.mem_append.1 hm with hm|hm
 ·rcases List.mem_append.1 hm with hm|hm
  ·exact(QK s1).2 hm
  ·split at hm
   ·revert hm;decide
   ·cases hm
 ·rw[rG] at hm
  exact Io (by decide) (fun f hf=>N8 (s2 f hf)) hm
theorem EI:∀(xs ys:List Seg) (n:Nat),(∀p∈xs.zipIdx n,jY (p.2 == 0) p.1=true)→(∀p∈ys.zipIdx n,jY (p.2 == 0) p.1=true) →
  ((xs.zipIdx n).flatMap fun p=>qD p.2 p.1)=((ys.zipIdx n).flatMap fun p=>qD p.2 p.1)→xs=ys
 | [],[],_,_,_,_=>rfl
 | [],y :: ys,n,_,_,h=>by
  exfalso
  rw[List.zipIdx_cons,List.flatMap_cons,xI] at h
  simp at h
 | x :: xs,[],n,_,_,h=>by
  exfalso
  rw[List.zipIdx_cons,List.flatMap_cons,xI] at h
  simp at h
 | x :: xs,y :: ys,n,hx,hy,h=>by
  rw[List.zipIdx_cons,List.flatMap_cons,List.zipIdx_cons,List.flatMap_cons,xI,xI,List.append_assoc,List.append_assoc] at h
  rw[List.zipIdx_cons] at hx hy
  have vx:=hx _ (List.mem_cons_self ..)
  have vy:=hy _ (List.mem_cons_self ..)
  obtain⟨e1,e2⟩:=uQ h (MN vx) (MN vy) (.inr ⟨_,rfl⟩) (.inr ⟨_,rfl⟩)
  have e3:x=y:=QL (i:=n) vx vy e1
  rw[e3,EI xs ys (n+1) (fun p hp=>hx p (List.mem_cons_of_mem _ hp)) (fun p hp=>hy p (List.mem_cons_of_mem _ hp)) (List.append_cancel_left e2)]
theorem tQ {m:List Seg} (h:dW m=true):1≤m.length∧∀p∈m.zipIdx,jY (p.2 == 0) p.1=true:=by
 unfold dW jZ at h
 simp only[Bool.and_eq_true,decide_eq_true_eq,List.all_eq_true] at h
 exact⟨h.1.1,h.1.2.2⟩
theorem QM {xs ys:List Seg} (hx:dW xs=true) (hy:dW ys=true) (h:iq xs=iq ys):xs=ys :=
 EI xs ys 0 (tQ hx).2 (tQ hy).2 h
theorem U7 {xs:List Seg} (hx:dW xs=true):iq xs≠[]:=by
 intro h
 have h1:=(tQ hx).1
 match xs,h1 with
 | x :: t,_ =>
  unfold iq at h
  rw[List.zipIdx_cons,List.flatMap_cons,xI] at h
  simp at h
theorem Iw {xs ys:List Seg} (hx:dW xs=true) (hy:dW ys=true) (h:encoded xs=encoded ys):xs=ys:=by
 rw[jI hx,jI hy] at h
 have e:=congrArg (fun b:ByteArray=>b.data.toList) h
 exact QM hx hy (by simpa using e)
end Go.Proofs.YtfdihjnlgdiioaaGreatDoor.dB
namespace Go.Proofs.YtfdihjnlgdiioaaGreatDoor.dB
open Go
set_option linter.unusedVariables false
set_option linter.unusedSimpArgs false
section
variable {P:Program} {ops:Array Oper} {Q:Exit→Act→World→Prop} {md:Region.Mode} {S:World→Prop} {n1:Nat}
def vL (P:Program) (md:Region.Mode) (ops:Array Oper) (Q:Exit→Act→World→Prop) (S:World→Prop) (n1:Nat):Nat→Array Bool→Act→World→Prop
 | 0,done,a,w=>Region.ready md ops done=[]∧Q .normal a w
 | f+1,done,a,w=>(Region.ready md ops done=[]→Q .normal a w)∧∀j∈Region.ready md ops done,wpOp P ops Q j (fun b v=>(j<n1→S v)∧vL P md ops Q S n1 f (done.setIfInBounds j true) b v) a w
theorem EJ:∀(f:Nat) (done:Array Bool) (a:Act) (w:World),vL P md ops Q S n1 f done a w→wpAny P md ops Q f done a w
 | 0,_,_,_,h=>h
 | f+1,done,a,w,h=>⟨h.1,fun j hj=>wpOp_mono (fun b v hv=>EJ f (done.setIfInBounds j true) b v hv.2) (h.2 j hj)⟩
def BJ (md:Region.Mode) (ops:Array Oper) (n1 i:Nat):Bool:=(ops.toList.drop n1).all fun o=>o.after.any fun e=>Region.binds md e && e.on == i
theorem Iy {i j:Nat} {o:Oper} (h:BJ md ops n1 i=true) (hj:ops[j]?=some o) (hn:¬∃e∈o.after,Region.binds md e=true∧e.on=i):j<n1:=by
 refine Nat.lt_of_not_le fun hle=>hn ?_
 have hm:o∈ops.toList.drop n1:=by
  rw[List.mem_iff_getElem?]
  exact⟨j - n1,by rw[List.getElem?_drop,show n1+(j - n1)=j by omega,Array.getElem?_toList];exact hj⟩
 have h1:=List.all_eq_true.1 h o hm
 rw[Array.any_eq_true'] at h1
 obtain⟨e,he,hb⟩:=h1
 simp only[Bool.and_eq_true,beq_iff_eq] at hb
 exact⟨e,he,hb.1,hb.2⟩
theorem zK {i:Nat} {oi:Oper} {v:Value} (hi:ops[i]?=some oi) (Xp:BJ md ops n1 i=true) (hsel:∀(j:Nat) (o:Oper) cs b,ops[j]?=some o→o.op≠.select cs b) (hQ:∀c a w,Q (.panic c) (a.put oi.dst v) w→Q (.panic c) a w) :
  ∀(f:Nat) (done:Array Bool) (a:Act) (w:World),
   (∀j oj,ops[j]?=some oj→j≠i→done.getD j true=false→(∀e∈oj.after,Region.binds md e=true→e.on≠i)→oi.apart ops oj=true) →
   i∈Region.ready md ops done→YieldsIf P ops S oi v a→S w →
   vL P md ops Q S n1 f (done.setIfInBounds i true) (a.put oi.dst v) w→vL P md ops Q S n1 (f+1) done a w
 | 0,done,a,w,_,hr,hy,hS,H=>by
  refine⟨fun h=>(by rw[h] at hr;cases hr),fun j hj=>?_⟩
  by_cases hji:j=i
  ·subst hji
   exact hy.wpOp hi hS ⟨fun _=>hS,H⟩
  ·have h1:=ready_mono hj hji
   rw[H.1] at h1
   cases h1
 | f+1,done,a,w,hfree,hr,hy,hS,H=>by
  refine⟨fun h=>(by rw[h] at hr;cases hr),fun j hj=>?_⟩
  by_cases hji:j=i
  ·subst hji
   exact hy.wpOp hi hS ⟨fun _=>hS,H⟩
  ·have h1:=H.2 j (ready_mono hj hji)
   obtain⟨hun,oj,hoj,hall⟩:=mem_ready.1 hj
   have hnot:∀e∈oj.after,Region.binds md e=true→e.on≠i:=fun e he hb heq=>by
    have hd:=hall e he hb
    have h0:=(mem_ready.1 hr).1
    rw[heq] at hd
    rcases Nat.lt_or_ge i done.size with h'|h'
    ·simp[h'] at h0 hd;rw[h0] at hd;cases hd
    ·simp[Array.getElem?_eq_none h'] at hd
   have hjn:j<n1:=Iy Xp hoj fun⟨e,he,hb,hei⟩=>hnot e he hb hei
   have h2:=wpOp_putIf hoj (hfree j oj hoj hji hun hnot) (fun cs b=>hsel i oi cs b hi) (fun cs b=>hsel j oj cs b hoj) hQ hy h1
   refine wpOp_mono (fun b u h3=>?_) h2
   obtain⟨hyb,hSu,hK⟩:=h3
   refine⟨hSu,zK hi Xp hsel hQ f (done.setIfInBounds j true) b u (fun k ok hk hki hku hno=>hfree k ok hk hki ?_ hno) (ready_mono hr (Ne.symm hji)) hyb (hSu hjn) ?_⟩
   ·by_cases hjk:j=k
    ·subst hjk;exact hun
    ·rw[getD_set_ne true hjk] at hku;exact hku
   ·rw[Array.setIfInBounds_comm _ _ hji]
    exact hK
theorem aR {i:Nat} (d:Option Tmp) {oi:Oper} {v:Value} {f:Nat} {done:Array Bool} {a:Act} {w:World} (hi:ops[i]?=some oi) (hd:oi.dst=d) (hl:BJ md ops n1 i=true) (hs:Region.noSelect ops=true) (hf:Region.free md ops done i=true) (hr:(Region.ready md ops done).contains i=true)
  (hQ:∀c a w,Q (.panic c) (a.put d v) w→Q (.panic c) a w) (hS:S w) (hy:YieldsIf P ops S oi v a)
  (h:vL P md ops Q S n1 f (done.setIfInBounds i true) (a.put d v) w):vL P md ops Q S n1 (f+1) done a w:=by
 subst hd
 exact zK hi hl (Region.noSelect_spec hs) hQ f done a w (Region.free_spec hi hf) (by simpa using hr) hy hS h
theorem aQ {j:Nat} {o:Oper} {f:Nat} {done:Array Bool} {a:Act} {w:World} (hr:Region.ready md ops done=[j]) (ho:ops[j]?=some o)
  (h:∀K:Act→World→Prop,Shut (∀b v,(j<n1→S v)→vL P md ops Q S n1 f (done.setIfInBounds j true) b v→K b v)→if Region.wanted o (yielded ops a.tmps)=true then Oper.wp P o a w K Q else K (a.put o.dst undef) w) :
  vL P md ops Q S n1 (f+1) done a w :=
 ⟨fun h0=>(by rw[hr] at h0;cases h0),fun k hk=>by
  rw[hr] at hk
  simp at hk
  subst hk
  exact wpOp_step ho fun K hK=>h K fun b v h1 h2=>hK b v ⟨h1,h2⟩⟩
theorem kV {done:Array Bool} {a:Act} {w:World} (hr:Region.ready md ops done=[]) (h:Q .normal a w):∀f,vL P md ops Q S n1 f done a w
 | 0=>⟨hr,h⟩
 | _+1=>⟨fun _=>h,by rw[hr];simp⟩
theorem iF {id:Nat} {a:Act} {w:World} (S:World→Prop) (n1:Nat) (hm:P.follows .mixedOrders=true) (h:vL P .any ops Q S n1 ops.size (Array.replicate ops.size false) a w.drew):(Code.region id ops true).wp P Q a w :=
 wp_region_any hm (EJ _ _ _ _ h)
end
end Go.Proofs.YtfdihjnlgdiioaaGreatDoor.dB
namespace Go.Proofs.YtfdihjnlgdiioaaGreatDoor.dB
set_option linter.unusedVariables false
set_option linter.unusedSimpArgs false
def sm {α:Type} (g:α→Nat) (xs:List α):Nat:=(xs.map g).sum
theorem FN {α:Type} (g:α→Nat):sm g []=0:=rfl
theorem iN {α:Type} (g:α→Nat) (x:α) (xs:List α):sm g (x :: xs)=g x+sm g xs:=by
 unfold sm;rw[List.map_cons,List.sum_cons]
theorem BK {α β:Type} (g:β→Nat) (f:α→β) (xs:List α):sm g (xs.map f)=sm (fun x=>g (f x)) xs:=by
 unfold sm;rw[List.map_map];rfl
theorem QN {α:Type} {g h:α→Nat}:∀(xs:List α),(∀x∈xs,g x≤h x)→sm g xs≤sm h xs
 | [],_=>aS _
 | x :: xs,H=>by
  have h1:=H x (by simp)
  have h2:=QN xs fun y hy=>H y (by simp[hy])
  rw[iN,iN]
  omega
theorem KL {α:Type} (g:α→Nat) (k:Nat):∀(xs:List α),sm (fun x=>k * g x) xs=k * sm g xs
 | []=>rfl
 | x :: xs=>by rw[iN,iN,KL g k xs,Nat.mul_add]
theorem FP {α:Type} (g:α→Nat):∀(xs:List α) (k:Nat),sm g (xs.take k)≤sm g xs
 | [],k=>by simp[sm]
 | x :: xs,0=>by simp[sm]
 | x :: xs,k+1=>by
  have:=FP g xs k
  rw[List.take_succ_cons,iN,iN]
  omega
theorem AL {α:Type} (g:α→Nat) (p:α→Bool) (xs:List α):sm g (ay p xs)≤sm g xs:=FP g xs _
theorem dH {α:Type} (g:α→Nat):∀(xs:List α),aH g xs=sm (fun x=>g x+1) xs
 | []=>rfl
 | x :: xs=>by
  have h:=dH g xs
  rw[iN,←h]
  unfold aH sumOf
  rw[List.map_cons,List.sum_cons,List.length_cons]
  omega
theorem FQ {α β:Type} {f:α→Option β} {g:β→Nat} {h:α→Nat} (H:∀x y,f x=some y→g y≤h x):∀(xs:List α) (ys:List β),dK f xs=some ys→sm g ys≤sm h xs
 | [],ys,e=>by simp[dK] at e;subst e;exact aS _
 | x :: xs,ys,e=>by
  unfold dK at e
  cases hx:f x with
  | none=>rw[hx] at e;cases e
  | some y =>
   rw[hx] at e
   cases hr:dK f xs with
   | none=>rw[hr] at e;cases e
   | some zs =>
    rw[hr] at e
    simp only[Option.map_some,Option.some.injEq] at e
    subst e
    have h1:=H x y hx
    have h2:=FQ H xs zs hr
    rw[iN,iN]
    omega
def ln (p:List UInt8):Nat:=p.length+1
theorem FT (c:UInt8):∀(l cur:List UInt8),sm ln (bU c cur l)=cur.length+l.length+1
 | [],cur=>by unfold bU;rw[iN,FN];simp[ln]
 | x :: xs,cur=>by
  unfold bU
  split
  ·rw[iN,FT c xs []]
   simp only[ln,List.length_nil,List.length_cons]
   omega
  ·rw[FT c xs (cur++[x])]
   simp only[List.length_append,List.length_cons,List.length_nil]
   omega
theorem FU (c:UInt8) (l:List UInt8):sm ln (bI c l)=l.length+1:=by
 unfold bI;rw[FT];simp
def lnR (r:List (List UInt8)):Nat:=sm ln r+1
def lnF (f:List (List (List UInt8))):Nat:=sm lnR f+1
theorem QO (c1:UInt8) (l:List UInt8):sm ln (dF c1 l)≤l.length+1:=by
 have h1:=AL ln List.isEmpty (bI c1 l)
 rw[FU] at h1
 exact h1
theorem U8 (c1 c2:UInt8) (l:List UInt8):sm lnR (dX c1 c2 l)≤2 * (l.length+1):=by
 have h1:=AL lnR List.isEmpty ((bI c2 l).map (dF c1))
 rw[BK] at h1
 have h2:sm (fun x=>lnR (dF c1 x)) (bI c2 l)≤sm (fun x=>2 * ln x) (bI c2 l):=QN _ fun x _=>by
  have:=QO c1 x
  show sm ln (dF c1 x)+1≤2 * (x.length+1)
  omega
 rw[KL,FU] at h2
 exact Nat.le_trans h1 h2
theorem Oa (c0 c1 c2:UInt8) (l:List UInt8):sm lnF (xw c0 c1 c2 l)≤3 * (l.length+1):=by
 cases l with
 | nil=>exact eH _
 | cons x l =>
  have h1:=AL lnF List.isEmpty ((bI c0 l).map (dX c1 c2))
  rw[BK] at h1
  have h2:sm (fun x=>lnF (dX c1 c2 x)) (bI c0 l)≤sm (fun x=>3 * ln x) (bI c0 l):=QN _ fun x _=>by
   have:=U8 c1 c2 x
   show sm lnR (dX c1 c2 x)+1≤3 * (x.length+1)
   omega
  rw[KL,FU] at h2
  have h3:=Nat.le_trans h1 h2
  rw[List.length_cons]
  exact Nat.le_trans h3 (by omega)
theorem YE (r:List (List UInt8)):sm (fun c=>pU c+1) (jR r)=sm ln r:=by
 unfold jR
 rw[BK]
 have e:(fun x=>pU (txt x)+1)=ln:=funext fun x=>by
  show (txt x).size+1=x.length+1
  rw[dn]
 rw[e]
theorem Ob {d:ByteArray} {hd:d.size=5} {t u:ByteArray} (h:plainO d hd t=some u):pU u+1≤pU t+1:=by
 unfold plainO at h
 cases hp:kQ d[0] d[1] d[2] d[3] d[4] t.data.toList with
 | none=>rw[hp] at h;cases h
 | some z =>
  rw[hp] at h
  simp only[Option.map_some,Option.some.injEq] at h
  subst h
  have h1:=Bl hp
  have h2:t.data.toList.length=t.size:=by simp
  show (txt z).size+1≤t.size+1
  rw[dn]
  omega
theorem Oc {d:ByteArray} {hd:d.size=5} (t u:lW) (h:dK (plainO d hd) t=some u):iw u+1≤iw t+1:=by
 have h1:=FQ (fun x y=>Ob) t u h
 unfold iw
 rw[dH,dH]
 omega
theorem Od {d:ByteArray} {hd:d.size=5} (t u:Field) (h:dK (dK (plainO d hd)) t=some u):aF u+1≤aF t+1:=by
 have h1:=FQ Oc t u h
 unfold aF
 rw[dH,dH]
 omega
theorem Oe (f:List (List (List UInt8))):aF (bL f)+1=lnF f:=by
 unfold aF
 rw[dH]
 unfold bL lnF
 rw[BK]
 have e:(fun x=>iw (jR x)+1)=lnR:=funext fun r=>by
  show iw (jR r)+1=sm ln r+1
  unfold iw
  rw[dH,YE]
 rw[e]
theorem Og (d:ByteArray) (hd:d.size=5) (l:List UInt8):aH aF (cO d hd l)≤3 * (l.length+1):=by
 rw[dH]
 unfold cO
 rw[BK]
 have e:(fun x=>aF (bL x)+1)=lnF:=funext Oe
 rw[e]
 exact Oa _ _ _ l
theorem YF {d:ByteArray} {hd:d.size=5} {i:Nat} {p:List UInt8} {x:Seg} (h:nk d hd i p=.ok x):bB x+1≤7 * ln p:=by
 unfold nk at h
 split at h
 ·cases h
 ·split at h
  ·cases h
  ·split at h
   ·cases h
   ·split at h
    ·cases h
    ·rename_i g hg
     injection h with h
     subst h
     have h1:=FQ Od _ _ hg
     have h2:=Og d hd (cB i p)
     rw[dH] at h2
     have h3:(cB i p).length≤p.length:=by
      unfold cB
      split <;> rw[List.length_drop] <;> omega
     have h4:(txt (p.take 3)).size≤3:=by rw[dn,List.length_take];omega
     show (txt (p.take 3)).size+aH aF g+1≤7 * (p.length+1)
     rw[dH]
     omega
theorem Iz {d:ByteArray} {hd:d.size=5}:∀(ps:List (List UInt8)) (i:Nat) (xs:List Seg),dS d hd i ps=.ok xs→aT xs≤7 * sm ln ps
 | [],i,xs,h=>by
  unfold dS at h
  injection h with h
  subst h
  exact eH _
 | p :: ps,i,xs,h=>by
  unfold dS at h
  cases hx:nk d hd i p with
  | error c=>rw[hx] at h;cases h
  | ok x =>
   rw[hx] at h
   cases hr:dS d hd (i+1) ps with
   | error c=>rw[hr] at h;cases h
   | ok zs =>
    rw[hr] at h
    simp only[Except.map,Except.ok.injEq] at h
    subst h
    have h1:=YF hx
    have h2:=Iz ps (i+1) zs hr
    unfold aT at h2 ⊢
    rw[dH] at h2 ⊢
    rw[iN,iN]
    omega
structure Dl where
 c0:UInt8
 c1:UInt8
 c2:UInt8
 c3:UInt8
 c4:UInt8
def Dl.list (d:Dl):List UInt8:=[d.c0,d.c1,d.c2,d.c3,d.c4]
structure Dl.Ok (d:Dl):Prop where
 nd:d.list.Nodup
 good:∀c∈d.list,xA c=false∧bZ c=true
def FV (d:Dl) (c:UInt8):List UInt8 :=
 if c=d.c0 then [d.c3,70,d.c3] else if c=d.c1 then [d.c3,83,d.c3] else if c=d.c2 then [d.c3,82,d.c3] else if c=d.c3 then [d.c3,69,d.c3] else if c=d.c4 then [d.c3,84,d.c3] else [c]
def je (d:Dl) (l:List UInt8):List UInt8:=l.flatMap (FV d)
def IB (d:Dl) (r:lW):List UInt8:=joined d.c1 (fun c=>je d c.data.toList) r
def oM (d:Dl) (f:Field):List UInt8:=joined d.c2 (IB d) f
def fieldsD (d:Dl) (fs:List Field):List UInt8:=lS d.c0 (oM d) fs
def nE (d:Dl) (i:Nat) (s:Seg):List UInt8:=s.name.data.toList++(if i=0 then d.list else [])++fieldsD d s.fields
def tT (d:Dl) (m:List Seg):List UInt8:=m.zipIdx.flatMap fun p=>nE d p.2 p.1++[13]
theorem zL {c:UInt8} (h:xA c=false):c≠70∧c≠83∧c≠82∧c≠69∧c≠84∧c≠13:=by
 refine⟨?_,?_,?_,?_,?_,?_⟩ <;> (rintro rfl;revert h;decide)
theorem Dl.Ok.ne {d:Dl} (h:d.Ok):d.c0≠d.c1∧d.c0≠d.c2∧d.c0≠d.c3∧d.c0≠d.c4∧d.c1≠d.c2∧d.c1≠d.c3∧d.c1≠d.c4∧d.c2≠d.c3∧d.c2≠d.c4∧d.c3≠d.c4:=by
 have:=h.nd
 unfold Dl.list at this
 simp only[List.nodup_cons,List.mem_cons,List.not_mem_nil,or_false,not_or,not_false_eq_true,List.nodup_nil,and_true] at this
 obtain⟨⟨a,b,c,e⟩,⟨f,g,i⟩,⟨j,k⟩,l⟩:=this
 exact⟨a,b,c,e,f,g,i,j,k,l⟩
theorem rH {d:Dl} (h:d.Ok) (c:UInt8):(∃k,FV d c=[d.c3,k,d.c3]∧k≠d.c3∧q9 d.c0 d.c1 d.c2 d.c3 d.c4 [k]=some [c]∧k∈[(70:UInt8),83,82,69,84])∨(FV d c=[c]∧c ∉ d.list):=by
 have hb:=(h.good d.c3 (by simp[Dl.list])).1
 obtain⟨l1,l2,l3,l4,l5,_⟩:=zL hb
 unfold FV
 by_cases h0:c=d.c0
 ·rw[if_pos h0];exact .inl ⟨70,rfl,fun e=>l1 e.symm,by subst h0;rfl,by decide⟩
 rw[if_neg h0]
 by_cases h1:c=d.c1
 ·rw[if_pos h1];exact .inl ⟨83,rfl,fun e=>l2 e.symm,by subst h1;rfl,by decide⟩
 rw[if_neg h1]
 by_cases h2:c=d.c2
 ·rw[if_pos h2];exact .inl ⟨82,rfl,fun e=>l3 e.symm,by subst h2;rfl,by decide⟩
 rw[if_neg h2]
 by_cases h3:c=d.c3
 ·rw[if_pos h3];exact .inl ⟨69,rfl,fun e=>l4 e.symm,by subst h3;rfl,by decide⟩
 rw[if_neg h3]
 by_cases h4:c=d.c4
 ·rw[if_pos h4];exact .inl ⟨84,rfl,fun e=>l5 e.symm,by subst h4;rfl,by decide⟩
 rw[if_neg h4]
 exact .inr ⟨rfl,by simp[Dl.list,h0,h1,h2,h3,h4]⟩
theorem wF {d:Dl} (h:d.Ok):∀(l cur:List UInt8) (i:Nat),i % 2=0→iL (q9 d.c0 d.c1 d.c2 d.c3 d.c4) i (bU d.c3 cur (je d l))=some (cur++l)∧(bU d.c3 cur (je d l)).length % 2=1
 | [],cur,i,hi=>by
  have e:je d []=[]:=rfl
  rw[e]
  refine⟨?_,rfl⟩
  simp only[bU,iL,tF,hi,if_true,Option.map_some,List.append_nil]
 | a :: l,cur,i,hi=>by
  have e:je d (a :: l)=FV d a++je d l:=rfl
  rw[e]
  rcases rH h a with⟨k,ek,hk,hl,_⟩|⟨ea,hn⟩
  ·obtain⟨q1,q2⟩:=wF h l [] (i+1+1) (by omega)
   rw[ek]
   have e1:bU d.c3 cur ([d.c3,k,d.c3]++je d l)=cur :: [k] :: bU d.c3 [] (je d l):=by
    simp only[List.cons_append,List.nil_append]
    rw[bU,if_pos rfl,bU,if_neg hk,bU,if_pos rfl]
    rfl
   rw[e1]
   have hi1:¬(i+1) % 2=0:=by omega
   refine⟨?_,by simp only[List.length_cons];omega⟩
   simp only[iL,tF,hi,if_true,if_neg hi1,hl,q1,Option.map_some,List.nil_append]
   simp
  ·have hne:a≠d.c3:=fun e=>hn (by simp[Dl.list,e])
   obtain⟨q1,q2⟩:=wF h l (cur++[a]) i hi
   rw[ea]
   have e1:bU d.c3 cur ([a]++je d l)=bU d.c3 (cur++[a]) (je d l):=by
    simp only[List.cons_append,List.nil_append]
    rw[bU,if_neg hne]
   rw[e1]
   exact⟨by rw[q1];simp,q2⟩
theorem KN {d:Dl} (h:d.Ok) (l:List UInt8):kQ d.c0 d.c1 d.c2 d.c3 d.c4 (je d l)=some l:=by
 obtain⟨q1,q2⟩:=wF h l [] 0 rfl
 unfold kQ bI
 rw[if_neg (by omega),q1]
 rfl
theorem MO {α:Type} {c:UInt8} {f:α→List UInt8}:∀(xs:List α) (cur:List UInt8),(∀x∈xs,c ∉ f x)→bU c cur (lS c f xs)=cur :: xs.map f
 | [],cur,_=>rfl
 | x :: xs,cur,h=>by
  have e:lS c f (x :: xs)=c :: (f x++lS c f xs):=by simp[lS]
  rw[e,bU,if_pos rfl,kN c (f x) _ [] (fun y hy e=>h x (List.mem_cons_self ..) (e ▸ hy)),MO xs _ (fun y hy=>h y (List.mem_cons_of_mem _ hy))]
  simp
theorem wG {α:Type} {c:UInt8} {f:α→List UInt8} (x:α) (xs:List α) (h:∀y∈x :: xs,c ∉ f y):bI c (joined c f (x :: xs))=(x :: xs).map f:=by
 unfold bI
 rw[jd,kN c (f x) _ [] (fun y hy e=>h x (List.mem_cons_self ..) (e ▸ hy)),MO xs _ (fun y hy=>h y (List.mem_cons_of_mem _ hy))]
 simp
theorem EK {α:Type} {p:α→Bool}:∀(xs:List α) (x:α),xs.getLast?=some x→p x=false→aK p xs=xs.length
 | [],x,h,_=>by simp at h
 | [y],x,h,hp=>by
  simp at h
  subst h
  simp[aK,hp]
 | y :: z :: xs,x,h,hp=>by
  have h':(z :: xs).getLast?=some x:=by simpa [List.getLast?_cons_cons] using h
  have:=EK (z :: xs) x h' hp
  rw[aK,this]
  rfl
theorem yV {α β:Type} {f:α→List β} {xs:List α} (h:iT (fun x=>(f x).length) xs=true):ay List.isEmpty (xs.map f)=xs.map f:=by
 unfold ay
 cases hl:xs.getLast? with
 | none =>
  rw[List.getLast?_eq_none_iff] at hl
  rw[hl]
  rfl
 | some x =>
  unfold iT at h
  rw[hl] at h
  have h0:0<(f x).length:=by simpa using h
  have e:(xs.map f).getLast?=some (f x):=by rw[List.getLast?_map,hl];rfl
  rw[EK _ _ e (by cases hf:f x with
   | nil=>rw[hf] at h0;simp at h0
   | cons a b=>rfl)]
  exact List.take_of_length_le (by simp)
theorem wH {α:Type} {f g:α→Nat} {xs:List α} (h:∀x∈xs,0<f x→0<g x) (he:iT f xs=true):iT g xs=true:=by
 unfold iT at *
 cases hl:xs.getLast? with
 | none=>rfl
 | some x =>
  rw[hl] at he
  simp only[decide_eq_true_eq] at he ⊢
  exact h x (List.mem_of_getLast? hl) he
theorem U9 {d:Dl} (h:d.Ok) (c:UInt8):FV d c≠[]:=by
 rcases rH h c with⟨k,e,_⟩|⟨e,_⟩ <;> rw[e] <;> simp
theorem Oh {d:Dl} (h:d.Ok) {s:ByteArray} (hs:0<s.size):0<(je d s.data.toList).length:=by
 cases hl:s.data.toList with
 | nil =>
  have:s.data.toList.length=s.size:=by simp
  rw[hl] at this
  simp at this
  omega
 | cons a l =>
  have:=U9 h a
  unfold je
  rw[List.flatMap_cons,List.length_append]
  have:0<(FV d a).length:=List.length_pos_iff.2 this
  omega
theorem yX {d:Dl} (h:d.Ok) {c:UInt8} (hc:c=d.c0∨c=d.c1∨c=d.c2∨c=d.c4) (l:List UInt8):c ∉ je d l:=by
 intro hm
 unfold je at hm
 rw[List.mem_flatMap] at hm
 obtain⟨a,_,hm⟩:=hm
 obtain⟨n01,n02,n03,n04,n12,n13,n14,n23,n24,n34⟩:=h.ne
 have hcl:c∈d.list:=by rcases hc with rfl|rfl|rfl|rfl <;> simp[Dl.list]
 obtain⟨l1,l2,l3,l4,l5,_⟩:=zL (h.good c hcl).1
 have hc3:c≠d.c3:=by rcases hc with rfl|rfl|rfl|rfl <;> first|assumption|exact fun e=>n34 e.symm
 rcases rH h a with⟨k,e,_,_,hk⟩|⟨e,hn⟩
 ·rw[e] at hm
  simp only[List.mem_cons,List.not_mem_nil,or_false] at hm hk
  rcases hm with rfl|rfl|rfl
  ·exact hc3 rfl
  ·rcases hk with rfl|rfl|rfl|rfl|rfl
   ·exact l1 rfl
   ·exact l2 rfl
   ·exact l3 rfl
   ·exact l4 rfl
   ·exact l5 rfl
  ·exact hc3 rfl
 ·rw[e] at hm
  rw[List.mem_singleton.1 hm] at hcl
  exact hn hcl
theorem KO {d:Dl} (h:d.Ok) {r:lW} (hr:nO r=true):dF d.c1 (IB d r)=r.map fun c=>je d c.data.toList:=by
 obtain⟨r1,r2⟩:=qI hr
 unfold dF IB
 cases r with
 | nil=>rfl
 | cons x r =>
  rw[wG x r fun y _=>yX h (.inr (.inl rfl)) _]
  exact yV (wH (fun c hc hp=>Oh h hp) r1)
theorem IC {d:Dl} (h:d.Ok) (r:lW):d.c2 ∉ IB d r∧d.c0 ∉ IB d r:=by
 obtain⟨n01,n02,n03,n04,n12,n13,n14,n23,n24,n34⟩:=h.ne
 exact⟨jJ (fun e=>n12 e.symm) fun c _=>yX h (.inr (.inr (.inl rfl))) _,jJ n01 fun c _=>yX h (.inl rfl) _⟩
theorem Oi {d:Dl} (h:d.Ok) {f:Field} (hf:fG f=true):dX d.c1 d.c2 (oM d f)=f.map fun r=>r.map fun c=>je d c.data.toList:=by
 obtain⟨f1,f2⟩:=nD hf
 unfold dX oM
 cases f with
 | nil=>rfl
 | cons x f =>
  rw[wG x f fun y _=>(IC h y).1]
  have e:((x :: f).map (IB d)).map (dF d.c1)=(x :: f).map fun r=>r.map fun c=>je d c.data.toList:=by
   rw[List.map_map]
   exact List.map_congr_left fun r hr=>KO h (f2 r hr)
  rw[e]
  exact yV (wH (fun c hc hp=>by rw[List.length_map];exact hp) f1)
theorem KQ {d:Dl} (h:d.Ok) (f:Field):d.c0 ∉ oM d f:=by
 obtain⟨n01,n02,n03,n04,n12,n13,n14,n23,n24,n34⟩:=h.ne
 exact jJ n02 fun r _=>(IC h r).2
theorem IE {d:Dl} (h:d.Ok) {fs:List Field} (h1:iT List.length fs=true) (h2:∀f∈fs,fG f=true):xw d.c0 d.c1 d.c2 (fieldsD d fs)=fs.map fun f=>f.map fun r=>r.map fun c=>je d c.data.toList:=by
 cases fs with
 | nil=>rfl
 | cons x fs =>
  have e:fieldsD d (x :: fs)=d.c0 :: (oM d x++lS d.c0 (oM d) fs):=by simp[fieldsD,lS]
  rw[e]
  show ay List.isEmpty ((bI d.c0 (oM d x++lS d.c0 (oM d) fs)).map (dX d.c1 d.c2))=_
  rw[←jd,wG x fs fun y _=>KQ h y]
  have e2:((x :: fs).map (oM d)).map (dX d.c1 d.c2)=(x :: fs).map fun f=>f.map fun r=>r.map fun c=>je d c.data.toList:=by
   rw[List.map_map]
   exact List.map_congr_left fun f hf=>Oi h (h2 f hf)
  rw[e2]
  exact yV (wH (fun c hc hp=>by rw[List.length_map];exact hp) h1)
theorem xJ {α β:Type} {g:β→α} {f:α→Option β}:∀(xs:List β),(∀x∈xs,f (g x)=some x)→dK f (xs.map g)=some xs
 | [],_=>rfl
 | x :: xs,h=>by
  rw[List.map_cons,dK,h x (List.mem_cons_self ..)]
  simp only
  rw[xJ xs fun y hy=>h y (List.mem_cons_of_mem _ hy)]
  rfl
theorem Xq {s:ByteArray} (h:dY s=true):∃a b c,s.data.toList=[a,b,c]∧bZ a=true∧bZ b=true∧bZ c=true:=by
 unfold dY at h
 split at h
 ·rename_i a b c e
  refine⟨a,b,c,e,?_⟩
  simp only[Bool.and_eq_true,Bool.or_eq_true,nN,tq,decide_eq_true_eq] at h
  unfold bZ
  simp only[Bool.and_eq_true,decide_eq_true_eq]
  omega
 ·cases h
theorem FW {b:Bool} {s:Seg} (h:jY b s=true):dY s.name=true∧(ig s.name == b)=true∧s.fields.length≤30∧iT List.length s.fields=true∧∀f∈s.fields,fG f=true:=by
 unfold jY at h
 simp only[Bool.and_eq_true,List.all_eq_true,decide_eq_true_eq] at h
 exact⟨h.1,h.2.1,h.2.2.1,h.2.2.2.1,h.2.2.2.2⟩
theorem Oj {d:Dl} {fs:List Field} (h1:fs.length≤30) (h2:∀f∈fs,fG f=true) (g:ByteArray→ByteArray):qB (fs.map fun f=>f.map fun r=>r.map g)=false:=by
 unfold qB
 rw[Bool.or_eq_false_iff]
 refine⟨by rw[List.length_map];simpa using h1,?_⟩
 rw[Bool.not_eq_false',List.all_eq_true]
 intro f hf
 rw[List.mem_map] at hf
 obtain⟨f',hf',rfl⟩:=hf
 have hb:=h2 f' hf'
 unfold fG at hb
 simp only[Bool.and_eq_true,decide_eq_true_eq,List.all_eq_true] at hb
 unfold zC
 rw[Bool.and_eq_true]
 refine⟨by rw[List.length_map];simpa using hb.1,?_⟩
 rw[List.all_eq_true]
 intro r hr
 rw[List.mem_map] at hr
 obtain⟨r',hr',rfl⟩:=hr
 have hc:=hb.2.2 r' hr'
 unfold nO at hc
 simp only[Bool.and_eq_true,decide_eq_true_eq] at hc
 unfold Ew
 rw[List.length_map]
 simpa using hc.1
theorem QT {d:Dl} (h:d.Ok) {s:Seg} {i:Nat} (hs:jY (i == 0) s=true) (hi:i<250) {db:ByteArray} (hd:db.size=5) (e0:db[0]=d.c0) (e1:db[1]=d.c1) (e2:db[2]=d.c2) (e3:db[3]=d.c3) (e4:db[4]=d.c4) :
  nk db hd i (nE d i s)=.ok s:=by
 obtain⟨s1,s2,s3,s4,s5⟩:=FW hs
 obtain⟨a,b,c,hn,_⟩:=Xq s1
 have ht:(nE d i s).take 3=[a,b,c]:=by unfold nE;rw[hn];rfl
 have htx:txt [a,b,c]=s.name:=by rw[←hn];exact qj _
 have hr:cB i (nE d i s)=fieldsD d s.fields:=by
  unfold cB nE
  rw[hn]
  by_cases h0:i=0
  ·rw[if_pos h0,if_pos h0];rfl
  ·rw[if_neg h0,if_neg h0];rfl
 have hm:ig s.name=(i == 0):=eq_of_beq s2
 unfold nk
 rw[ht,hr,htx]
 rw[if_neg (by
  rintro(hl|hl|⟨hl,hl2⟩)
  ·unfold nE at hl;rw[hn] at hl;simp at hl;omega
  ·rw[s1] at hl;cases hl
  ·have:ig s.name=true:=by unfold ig;rw[ByteArray.toList_eq,hn,hl2];rfl
   rw[this] at hm
   have:(i == 0)=false:=by simpa using (by omega:i≠0)
   rw[this] at hm
   cases hm)]
 rw[if_neg (by
  cases hf:s.fields with
  | nil=>simp[fieldsD,lS]
  | cons x fs=>simp[fieldsD,lS,e0])]
 have hT:cO db hd (fieldsD d s.fields)=s.fields.map fun f=>f.map fun r=>r.map fun c=>txt (je d c.data.toList):=by
  unfold cO
  rw[e0,e1,e2,IE h s4 s5,List.map_map]
  refine List.map_congr_left fun f _=>?_
  show bL _=_
  unfold bL
  rw[List.map_map]
  refine List.map_congr_left fun r _=>?_
  show jR _=_
  unfold jR
  rw[List.map_map]
  rfl
 rw[hT,if_neg (by
  rintro(hl|hl)
  ·omega
  ·rw[Oj (d:=d) s3 s5] at hl;cases hl)]
 have hA:dK (dK (dK (plainO db hd))) (s.fields.map fun f=>f.map fun r=>r.map fun c=>txt (je d c.data.toList))=some s.fields :=
  xJ _ fun f _=>xJ _ fun r _=>xJ _ fun c _=>by
   unfold plainO
   rw[eU,e0,e1,e2,e3,e4,KN h]
   simp only[Option.map_some,qj]
 rw[hA]
theorem zM {d:Dl} (h:d.Ok) {db:ByteArray} (hd:db.size=5) (e0:db[0]=d.c0) (e1:db[1]=d.c1) (e2:db[2]=d.c2) (e3:db[3]=d.c3) (e4:db[4]=d.c4):∀(xs:List Seg) (n:Nat),n+xs.length≤250→(∀p∈xs.zipIdx n,jY (p.2 == 0) p.1=true)→dS db hd n ((xs.zipIdx n).map fun p=>nE d p.2 p.1)=.ok xs
 | [],n,_,_=>rfl
 | x :: xs,n,hn,hx=>by
  rw[List.zipIdx_cons] at hx ⊢
  rw[List.map_cons,dS,QT h (hx _ (List.mem_cons_self ..)) (by simp at hn;omega) hd e0 e1 e2 e3 e4]
  simp only
  rw[zM h hd e0 e1 e2 e3 e4 xs (n+1) (by simp at hn ⊢;omega) fun p hp=>hx p (List.mem_cons_of_mem _ hp)]
  rfl
theorem Ol {d:Dl} (h:d.Ok) {c:UInt8} {l:List UInt8} (hm:c∈je d l) (hl:∀x∈l,bZ x=true):bZ c=true:=by
 unfold je at hm
 rw[List.mem_flatMap] at hm
 obtain⟨a,ha,hm⟩:=hm
 rcases rH h a with⟨k,e,_,_,hk⟩|⟨e,hn⟩
 ·rw[e] at hm
  simp only[List.mem_cons,List.not_mem_nil,or_false] at hm hk
  have h3:=(h.good d.c3 (by simp[Dl.list])).2
  rcases hm with rfl|rfl|rfl
  ·exact h3
  ·rcases hk with rfl|rfl|rfl|rfl|rfl <;> decide
  ·exact h3
 ·rw[e] at hm
  rw[List.mem_singleton.1 hm]
  exact hl a ha
theorem MP {α:Type} {c x:UInt8} {f:α→List UInt8} {xs:List α} {P:UInt8→Prop} (hc:P c) (hf:∀y∈xs,∀z∈f y,P z) (h:x∈lS c f xs):P x:=by
 unfold lS at h
 rw[List.mem_flatMap] at h
 obtain⟨y,hy,hm⟩:=h
 rcases List.mem_cons.1 hm with rfl|hm
 ·exact hc
 ·exact hf y hy x hm
theorem BL {α:Type} {c x:UInt8} {f:α→List UInt8} {xs:List α} {P:UInt8→Prop} (hc:P c) (hf:∀y∈xs,∀z∈f y,P z) (h:x∈joined c f xs):P x:=by
 cases xs with
 | nil=>simp[joined] at h
 | cons y ys =>
  rw[jd] at h
  rcases List.mem_append.1 h with h|h
  ·exact hf y (List.mem_cons_self ..) x h
  ·exact MP hc (fun z hz=>hf z (List.mem_cons_of_mem _ hz)) h
theorem IG {d:Dl} (h:d.Ok) {s:Seg} {i:Nat} {b:Bool} (hs:jY b s=true):∀c∈nE d i s,bZ c=true:=by
 obtain⟨s1,s2,s3,s4,s5⟩:=FW hs
 obtain⟨x,y,z,hn,p1,p2,p3⟩:=Xq s1
 intro c hc
 unfold nE at hc
 rcases List.mem_append.1 hc with hc|hc
 ·rcases List.mem_append.1 hc with hc|hc
  ·rw[hn] at hc
   simp only[List.mem_cons,List.not_mem_nil,or_false] at hc
   rcases hc with rfl|rfl|rfl <;> assumption
  ·split at hc
   ·exact(h.good c hc).2
   ·cases hc
 ·refine MP (P:=fun c=>bZ c=true) (h.good _ (by simp[Dl.list])).2 (fun f hf c hc=>?_) hc
  refine BL (P:=fun c=>bZ c=true) (h.good _ (by simp[Dl.list])).2 (fun r hr c hc=>?_) hc
  refine BL (P:=fun c=>bZ c=true) (h.good _ (by simp[Dl.list])).2 (fun t ht c hc=>?_) hc
  have hp:=(qI ((nD (s5 f hf)).2 r hr)).2 t ht
  unfold dI at hp
  exact Ol h hc fun x hx=>List.all_eq_true.1 hp x hx
theorem QU {c:UInt8} (h:bZ c=true):c≠13:=by rintro rfl;revert h;decide
theorem EL {α:Type} {g:α→List UInt8}:∀(xs:List α),(∀x∈xs,(13:UInt8) ∉ g x)→bU 13 [] (xs.flatMap fun p=>g p++[13])=xs.map g++[[]]
 | [],_=>rfl
 | x :: xs,h=>by
  rw[List.flatMap_cons,List.append_assoc,kN 13 (g x) _ [] (fun y hy e=>h x (List.mem_cons_self ..) (e ▸ hy))]
  simp only[List.cons_append,List.nil_append]
  rw[bU,if_pos rfl,EL xs fun y hy=>h y (List.mem_cons_of_mem _ hy)]
  simp
theorem KT {d:Dl} (h:d.Ok) (xs:List Seg) (hsh:jZ xs=true) (hl:(tT d xs).length≤40000):kS (txt (tT d xs))=.ok xs:=by
 unfold jZ at hsh
 simp only[Bool.and_eq_true,decide_eq_true_eq,List.all_eq_true] at hsh
 obtain⟨h1,h2,h3⟩:=hsh
 have hplain:∀p∈xs.zipIdx,∀c∈nE d p.2 p.1,bZ c=true:=fun p hp=>IG h (h3 p hp)
 have hcut:bI 13 (tT d xs)=(xs.zipIdx.map fun p=>nE d p.2 p.1)++[[]]:=EL _ fun p hp hm=>QU (hplain p hp 13 hm) rfl
 have Va:dL (tT d xs)=xs.zipIdx.map fun p=>nE d p.2 p.1:=by
  unfold dL
  rw[hcut]
  simp
 cases xs with
 | nil=>simp at h1
 | cons x xs =>
  have hx:=h3 (x,0) (by rw[List.zipIdx_cons];exact List.mem_cons_self ..)
  obtain⟨s1,s2,s3,s4,s5⟩:=FW hx
  have hm:ig x.name=true:=by have:=eq_of_beq s2;simpa using this
  have hn:x.name.data.toList=[77,83,72]:=by unfold ig at hm;have:=eq_of_beq hm;rw[ByteArray.toList_eq] at this;exact this
  have e:tT d (x :: xs)=77 :: 83 :: 72 :: d.c0 :: d.c1 :: d.c2 :: d.c3 :: d.c4 :: (fieldsD d x.fields++13 :: ((xs.zipIdx (0+1)).flatMap fun p=>nE d p.2 p.1++[13])):=by
   unfold tT
   rw[List.zipIdx_cons,List.flatMap_cons]
   simp only[nE,hn,Dl.list,if_true]
   simp
  have hsz:(txt (tT d (x :: xs))).size=(tT d (x :: xs)).length:=dn _
  have h8:9≤(tT d (x :: xs)).length:=by rw[e];simp;omega
  have hex:((txt (tT d (x :: xs))).extract 3 8)=txt d.list:=by
   rw[jc,eU,e]
   rfl
  have hbytes:lY (txt (tT d (x :: xs)))=true:=by
   unfold lY
   rw[eU,List.all_eq_true]
   intro c hc
   unfold tT at hc
   rw[List.mem_flatMap] at hc
   obtain⟨p,hp,hc⟩:=hc
   rcases List.mem_append.1 hc with hc|hc
   ·unfold Qm
    rw[hplain p hp c hc,Bool.or_true]
   ·rw[List.mem_singleton.1 hc]
    decide
  have hhead:eB (txt (tT d (x :: xs)))=true:=by
   unfold eB
   rw[hex,hsz,eU,decide_eq_true (by omega:8≤(tT d (x :: xs)).length),Bool.true_and,Bool.and_eq_true,Bool.and_eq_true]
   refine⟨?_,?_,?_⟩
   ·rw[jc,eU,e,ByteArray.toList_eq,eU]
    rfl
   ·unfold pX
    rw[eU,List.all_eq_true]
    obtain⟨n01,n02,n03,n04,n12,n13,n14,n23,n24,n34⟩:=h.ne
    intro i hi
    have hi5:i<5:=by simpa using hi
    have hb:∀c∈d.list,xA c=false:=fun c hc=>(h.good c hc).1
    have b0:=hb d.c0 (by simp[Dl.list])
    have b1:=hb d.c1 (by simp[Dl.list])
    have b2:=hb d.c2 (by simp[Dl.list])
    have b3:=hb d.c3 (by simp[Dl.list])
    have b4:=hb d.c4 (by simp[Dl.list])
    match i,hi5 with
    | 0,_=>simp[newAt,Dl.list,b0]
    | 1,_=>simp[newAt,Dl.list,b1,n01]
    | 2,_=>simp[newAt,Dl.list,b2,n02,n12]
    | 3,_=>simp[newAt,Dl.list,b3,n03,n13,n23]
    | 4,_=>simp[newAt,Dl.list,b4,n04,n14,n24,n34]
   ·rw[Bool.or_eq_true,Bool.or_eq_true]
    right
    rw[e]
    cases hf:x.fields with
    | nil=>left;simp[fieldsD,lS]
    | cons f fs=>right;simp[fieldsD,lS]
  unfold kS
  rw[if_neg (by rw[hsz];omega),if_neg (by rw[hbytes];simp),dif_pos hhead]
  have key:∀(db:ByteArray) (hd:db.size=5),db=txt d.list→dS db hd 0 (dL (txt (tT d (x :: xs))).data.toList)=.ok (x :: xs):=by
   rintro db hd rfl
   rw[eU,Va]
   exact zM h hd rfl rfl rfl rfl rfl (x :: xs) 0 (by omega) h3
  exact key _ _ hex
def std:Dl:=⟨124,94,126,92,38⟩
theorem YG:std.Ok:=⟨by decide,by decide⟩
theorem Vb (c:UInt8):FV std c=esc c:=by
 rcases mP c with⟨k,e,hk⟩|⟨e,n1,n2,n3,n4,n5⟩
 ·rw[e]
  rcases hk with⟨rfl,rfl⟩|⟨rfl,rfl⟩|⟨rfl,rfl⟩|⟨rfl,rfl⟩|⟨rfl,rfl⟩ <;> rfl
 ·rw[e]
  unfold FV std
  simp[n1,n2,n3,n4,n5]
theorem MQ (xs:List Seg):tT std xs=iq xs:=by
 have e1:∀l,je std l=dR l:=fun l=>by unfold je dR;congr 1;funext c;exact Vb c
 have e2:IB std=iY:=by funext r;unfold IB iY;simp only[e1];rfl
 have e3:oM std=iE:=by funext f;unfold oM iE;rw[e2];rfl
 have e4:∀i s,nE std i s++[13]=qD i s:=fun i s=>by unfold nE qD fieldsD;rw[e3,rG];rfl
 unfold tT iq
 simp only[e4]
theorem vN {xs:List Seg} (h:dW xs=true):kS (encoded xs)=.ok xs:=by
 have h':=h
 unfold dW at h'
 simp only[Bool.and_eq_true,decide_eq_true_eq] at h'
 have:=KT YG xs h'.1 (by rw[MQ];exact h'.2)
 rw[MQ] at this
 rw[jI h]
 exact this
end Go.Proofs.YtfdihjnlgdiioaaGreatDoor.dB
namespace Go.Proofs.YtfdihjnlgdiioaaGreatDoor.dB
open Go.ChangeShapes Go.WideShapes Go.ChangeAt Go.RowKit
set_option linter.unusedVariables false
set_option linter.unusedSimpArgs false
theorem BM {s:ByteArray} (h:eB s=true):8≤s.size∧((s.extract 0 3).toList == [77,83,72])=true∧pX (s.extract 3 8)=true∧(s.size≤8∨∃h8:8<s.size,s[8].toNat=13∨s[8].toNat=s[3].toNat):=by
 unfold eB at h
 simp only[Bool.and_eq_true,Bool.or_eq_true,decide_eq_true_eq] at h
 obtain⟨h1,h2,h3,h4⟩:=h
 refine⟨h1,h2,h3,?_⟩
 by_cases h8:s.size≤8
 ·exact .inl h8
 ·right
  have h8':8<s.size:=by omega
  refine⟨h8',?_⟩
  have e8:s.data.toList[8]?=some s[8]:=by rw[List.getElem?_eq_getElem (by simpa using h8')];rfl
  have e3:s.data.toList[3]?=some s[3]:=by rw[List.getElem?_eq_getElem (by simp;omega)];rfl
  rcases h4 with h4|h4
  ·exact absurd h4 h8
  ·rw[e8,e3] at h4
   rcases h4 with h4|h4
   ·left
    have:=beq_iff_eq.1 h4
    injection this with this
    rw[this];rfl
   ·right
    have:=beq_iff_eq.1 h4
    injection this with this
    rw[this]
theorem FX {s:ByteArray} (h8:8≤s.size) (hm:((s.extract 0 3).toList == [77,83,72])=true) (hd:pX (s.extract 3 8)=true) (hs:s.size≤8∨∃h8:8<s.size,s[8].toNat=13∨s[8].toNat=s[3].toNat):eB s=true:=by
 unfold eB
 rw[decide_eq_true h8,hm,hd,Bool.true_and,Bool.true_and,Bool.true_and]
 rcases hs with h|⟨h,h1⟩
 ·rw[decide_eq_true h];rfl
 ·have e8:s.data.toList[8]?=some s[8]:=by rw[List.getElem?_eq_getElem (by simpa using h)];rfl
  have e3:s.data.toList[3]?=some s[3]:=by rw[List.getElem?_eq_getElem (by simp;omega)];rfl
  rw[e8,e3]
  rcases h1 with h1|h1
  ·have:s[8]=13:=UInt8.toNat_inj.1 h1
   rw[this];simp
  ·have:s[8]=s[3]:=UInt8.toNat_inj.1 h1
   rw[this];simp
end Go.Proofs.YtfdihjnlgdiioaaGreatDoor.dB
