import Derived.Test.YtglcdcekkglmiaaGreatDoorG10
import Derived.Deep.RegionHeld3
import Derived.Laws.AppendOwn
import Derived.Maps.AppendAt
import Derived.OwnWalk
import Derived.Laws.Rows
import Derived.Maps.Own
import Derived.Maps.OwnSet
import Derived.DeepKeys4
import Derived.Deep.LoopGhost
namespace Go.Proofs.YtglcdcekkglmiaaGreatDoor.Msg
open Go.ChangeShapes Go.WideShapes Go.ChangeAt Go.RowKit
set_option linter.unusedVariables false
set_option linter.unusedSimpArgs false
theorem cutGo_len (c:UInt8):∀(l cur:List UInt8),(cutGo c cur l).length≤l.length+1
 | [],cur=>by simp[cutGo]
 | x :: xs,cur=>by
  unfold cutGo
  split
  ·have:=cutGo_len c xs []
   simp only[List.length_cons];omega
  ·have:=cutGo_len c xs (cur++[x])
   simp only[List.length_cons];omega
theorem cutGo_sz (c:UInt8):∀(l cur:List UInt8),∀p∈cutGo c cur l,p.length≤cur.length+l.length
 | [],cur=>by intro p hp;simp[cutGo] at hp;subst hp;simp
 | x :: xs,cur=>by
  intro p hp
  unfold cutGo at hp
  split at hp
  ·rw[List.mem_cons] at hp
   rcases hp with rfl|hp
   ·omega
   ·have:=cutGo_sz c xs [] p hp;simp only[List.length_cons,List.length_nil] at *;omega
  ·have:=cutGo_sz c xs (cur++[x]) p hp
   simp only[List.length_append,List.length_cons,List.length_nil] at *;omega
theorem cutL_len (c:UInt8) (l:List UInt8):(cutL c l).length≤l.length+1:=cutGo_len c l []
theorem cutL_sz (c:UInt8) (l:List UInt8):∀p∈cutL c l,p.length≤l.length:=fun p hp=>by have:=cutGo_sz c l [] p hp;simpa using this
theorem cutGo_pos (c:UInt8):∀(l cur:List UInt8),0<(cutGo c cur l).length
 | [],cur=>by simp[cutGo]
 | x :: xs,cur=>by
  unfold cutGo
  split
  ·simp
  ·exact cutGo_pos c xs _
theorem cutL_pos (c:UInt8) (l:List UInt8):0<(cutL c l).length:=cutGo_pos c l []
theorem info_Sess:(Tryz.prog.info? 41).map (fun i=>(i.zero,i.size,i.bytes))=some (some (.agg #[.int .i64 0,.string ByteArray.empty,.string ByteArray.empty,.int .i64 0,.int .i64 0,.slice none 0 0,.int .i64 0]),7,88):=by kernel_rfl
def flat {α:Type} (C:α→List Value) (xs:List α):List Value:=(xs.map C).flatten
theorem flat_snoc {α:Type} (C:α→List Value) (xs:List α) (x:α):flat C (xs++[x])=flat C xs++C x:=by simp[flat]
theorem flat_len {α:Type} {C:α→List Value} {c:Nat} (hC:∀x,(C x).length=c):∀xs:List α,(flat C xs).length=xs.length * c
 | []=>by simp[flat]
 | x :: xs=>by
  have:=flat_len hC xs
  simp only[flat,List.map_cons,List.flatten_cons,List.length_append,List.length_cons,hC] at this ⊢
  rw[this,Nat.add_mul]
  omega
theorem flat_get {α:Type} {C:α→List Value} {c:Nat} (hC:∀x,(C x).length=c):∀(xs:List α) (i j:Nat) (hi:i<xs.length) (hj:j<c),(flat C xs)[i * c+j]?=some ((C xs[i])[j]'(by rw[hC];exact hj))
 | x :: xs,0,j,_,hj=>by
  simp only[flat,List.map_cons,List.flatten_cons,Nat.zero_mul,Nat.zero_add,List.getElem_cons_zero]
  rw[List.getElem?_append_left (by rw[hC];exact hj),List.getElem?_eq_getElem (by rw[hC];exact hj)]
 | x :: xs,i+1,j,hi,hj=>by
  have:=flat_get hC xs i j (by simpa using hi) hj
  simp only[flat,List.map_cons,List.flatten_cons,List.getElem_cons_succ] at this ⊢
  rw[List.getElem?_append_right (by rw[hC,Nat.add_mul];omega),hC,show (i+1) * c+j - c=i * c+j by rw[Nat.add_mul];omega]
  exact this
def FR {α:Type} (C:α→List Value) (Z:α→Prop) (_:Nat) (w:World) (b off:Nat) (x:α):Prop :=
 (∀j (h:j<(C x).length),w.cell? ⟨b,off+j,none⟩=some (C x)[j])∧Z x
def RowC (w:World) (v:Value) (n c:Nat) (f:Nat→Value) (bs:List Nat):Prop :=
 n≤9223372036854775807∧((∃a cap,v=.slice a 0 cap∧n=0∧bs=[]) ∨
  ∃b off cap,v=.slice (some ⟨b,off,none⟩) n cap∧b<w.heap.size∧bs=[b]∧∀i,i<n * c→w.cell? ⟨b,off+i,none⟩=some (f i)∧w.frozen? ⟨b,off+i,none⟩=false)
def FO {α:Type} (C:α→List Value) (c:Nat) (w:World) (v:Value) (xs:List α) (bs:List Nat):Prop:=RowC w v xs.length c (fun i=>(flat C xs).getD i (.int .i64 0)) bs
theorem FO.at {α:Type} {C:α→List Value} {c:Nat} {Z:α→Prop} (hC:∀x,(C x).length=c) {w:World} {v:Value} {xs:List α} {bs:List Nat} (h:FO C c w v xs bs) (hZ:∀i (h:i<xs.length),Z xs[i]) {lo:Nat} (hlo:∀b∈bs,lo≤b) :
  At c (FR C Z) lo w v xs:=by
 obtain⟨h0,h⟩:=h
 refine⟨h0,?_⟩
 rcases h with⟨a,cap,rfl,hn,_⟩|⟨b,off,cap,rfl,hlt,rfl,h⟩
 ·exact .inl ⟨a,cap,rfl,List.length_eq_zero_iff.1 hn⟩
 ·refine .inr ⟨b,off,cap,rfl,⟨hlo b (by simp),hlt⟩,fun i hi=>⟨fun j hj=>?_,hZ i hi⟩⟩
  rw[hC] at hj
  have hij:i * c+j<xs.length * c:=by
   have:(i+1) * c≤xs.length * c:=Nat.mul_le_mul_right c hi
   rw[Nat.add_mul] at this
   omega
  have:=(h (i * c+j) hij).1
  simp only[List.getD_eq_getElem?_getD] at this
  rw[flat_get hC xs i j hi hj] at this
  rw[show off+i * c+j=off+(i * c+j) from Nat.add_assoc _ _ _]
  exact this
theorem FO.of_own {α:Type} {C:α→List Value} {c:Nat} (hC:∀x,(C x).length=c) {base:Nat} {e:TypeId} {w:World} {v:Value} {xs:List α} (h:w.ownsRow base e c v xs.length (flat C xs)) (hl:xs.length≤9223372036854775807) :
  ∃bs,FO C c w v xs bs∧(∀b∈bs,base≤b∧v.ownBlock=some b)∧bs.Nodup:=by
 obtain⟨hlen,⟨rfl,h0⟩|⟨g,cap,cur,rfl,hg,hs,hcap,hm,hsz,htk⟩⟩:=h
 ·exact⟨[],⟨hl,.inl ⟨_,_,rfl,h0,rfl⟩⟩,by simp,by simp⟩
 ·have hglt:g<w.heap.size:=by rw[Array.getElem?_eq_some_iff] at hs;exact hs.1
  refine⟨[g],⟨hl,.inr ⟨g,0,cap,rfl,hglt,rfl,fun i hi=>⟨?_,?_⟩⟩⟩,by simp[Value.ownBlock,hg],by simp⟩
  ·have hu:(flat C xs)[i]?=some ((flat C xs).getD i (.int .i64 0)):=by rw[List.getD_eq_getElem?_getD,List.getElem?_eq_getElem (by omega)];rfl
   rw[←htk,List.getElem?_take,if_pos hi,htk] at hu
   simp only[World.cell?,hs,Nat.zero_add]
   rw[←Array.getElem?_toList]
   exact hu
  ·simp[World.frozen?,hs]
structure Wn where
 client:Int
 tag:ByteArray
 query:ByteArray
 pointer:ByteArray
structure Cn where
 busy:Bool
 control:ByteArray
 want:Wn
 due:Int
structure St where
 conn:Int
 control:ByteArray
 want:Wn
structure Pl where
 epoch:Int
 next:Int
 conns:List Cn
 queue:List Wn
def Box (w:World) (b:Nat) (t:TypeId) (cs:Array Value):Prop:=w.heap[b]?=some (.cells cs t (0,0))
theorem Box.lt {w:World} {b:Nat} {t:TypeId} {cs:Array Value} (h:Box w b t cs):b<w.heap.size:=by
 unfold Box at h
 rw[Array.getElem?_eq_some_iff] at h
 exact h.1
theorem Box.cell {w:World} {b:Nat} {t:TypeId} {cs:Array Value} (h:Box w b t cs) (i:Nat) (hi:i<cs.size):w.cell? ⟨b,i,none⟩=some cs[i]:=by
 unfold Box at h
 simp[World.cell?,h,hi]
theorem Box.frozen {w:World} {b:Nat} {t:TypeId} {cs:Array Value} (h:Box w b t cs) (i:Nat):w.frozen? ⟨b,i,none⟩=false:=by
 unfold Box at h
 simp[World.frozen?,h]
theorem Box.keep {w w':World} {b:Nat} {t:TypeId} {cs:Array Value} (h:Box w b t cs) (e:w'.heap[b]?=w.heap[b]?):Box w' b t cs:=by
 unfold Box at *
 rw[e]
 exact h
theorem Box.set {w:World} {b:Nat} {t:TypeId} {cs:Array Value} (h:Box w b t cs) (i:Nat) (v:Value):Box (w.setCell ⟨b,i,none⟩ v) b t (cs.setIfInBounds i v) :=
 heap_setCell_same w b i cs t v h
theorem Box.other {w:World} {b:Nat} {t:TypeId} {cs:Array Value} (h:Box w b t cs) {a:Addr} (ha:b≠a.block) (v:Value):Box (w.setCell a v) b t cs :=
 h.keep (Deep.blk_setCell_other _ _ _ _ ha)
theorem Box.new (w:World) (t:TypeId) (cs:Array Value):Box (w.alloc (.cells cs t)) w.heap.size t cs:=by
 exact(MapKept.heap_alloc w _).1
theorem Box.alloc {w:World} {b:Nat} {t:TypeId} {cs:Array Value} (h:Box w b t cs) (o:Obj):Box (w.alloc o) b t cs :=
 h.keep ((((Below.refl w.heap.size w).alloc (leR _) o)).block b h.lt)
theorem Box.below {w w':World} {b:Nat} {t:TypeId} {cs:Array Value} (h:Box w b t cs) (hb:Below w.heap.size w w'):Box w' b t cs:=h.keep (hb.block b h.lt)
theorem Box.only {bs:List Nat} {w w':World} {b:Nat} {t:TypeId} {cs:Array Value} (h:Box w b t cs) (hb:Only bs w w') (hn:b ∉ bs):Box w' b t cs:=h.keep (hb.block b h.lt hn)
theorem step_app {ops:Array Oper} {o:Oper} {a:Act} {K:Act→World→Prop} {Q:Exit→Act→World→Prop} {E:Prop} {w w':World} {v y v':Value} (hgd:o.guard=none) (s x:Operand) (t:TypeId)
  (ho:o.op=.call { callee:=.builtin .append,args:=#[s,x],argTypes:=#[t,t] }) (hr:(Builtin.append_ #[t,t] o.type #[v,y]).run Tryz.prog w=.ok v' w') (hs:a.eval s=v) (hx:a.eval x=y) (h:K (a.put o.dst v') w') :
  if Region.wanted o (yielded ops a.tmps)=true then Oper.wp Tryz.prog o a w K Q else E:=by
 have hw:Region.wanted o (yielded ops a.tmps)=true:=by simp[Region.wanted,hgd]
 rw[if_pos hw]
 unfold Oper.wp execOp
 simp only[ho,resolve,invoke,builtin,Sem.run_bind,Sem.run_pure,Result.andThen_ok,List.map_toArray,List.map_cons,List.map_nil,hs,hx,hr]
 exact h
theorem wpList_app {ops:Array Oper} {rest:List Oper} {o:Oper} {a:Act} {Q:Exit→Act→World→Prop} {w w':World} {v y v':Value} (hgd:o.guard=none) (s x:Operand) (t:TypeId)
  (ho:o.op=.call { callee:=.builtin .append,args:=#[s,x],argTypes:=#[t,t] }) (hr:(Builtin.append_ #[t,t] o.type #[v,y]).run Tryz.prog w=.ok v' w') (hs:a.eval s=v) (hx:a.eval x=y) (h:wpList Tryz.prog ops Q rest (a.put o.dst v') w') :
  wpList Tryz.prog ops Q (o :: rest) a w:=by
 refine wpList_plain hgd fun K hK=>?_
 unfold Oper.wp execOp
 simp only[ho,resolve,invoke,builtin,Sem.run_bind,Sem.run_pure,Result.andThen_ok,List.map_toArray,List.map_cons,List.map_nil,hs,hx,hr]
 exact hK _ _ h
def FB {α:Type} (C:α→List Value) (c:Nat) (e:TypeId) (base:Nat) (w:World) (v:Value) (xs:List α):Prop:=w.ownsRow base e c v xs.length (flat C xs)
theorem FB.nil {α:Type} (C:α→List Value) (c:Nat) (e:TypeId) (base:Nat) (w:World):FB C c e base w (.slice none 0 0) []:=⟨by simp[flat],.inl ⟨rfl,rfl⟩⟩
theorem FB.lit {α:Type} (C:α→List Value) (c:Nat) (e:TypeId) (w:World):FB C c e w.heap.size (w.alloc (.cells #[] e)) (.slice (some ⟨w.heap.size,0,none⟩) 0 0) [] :=
 World.ownsRow_lit (base:=w.heap.size) (e:=e) (size:=c) w #[] 0 (leR _) (by unfold maxLen;omega) (by simp)
theorem FB.form {α:Type} {C:α→List Value} {c:Nat} {e:TypeId} {base:Nat} {w:World} {v:Value} {xs:List α} (h:FB C c e base w v xs):∃a cap,v=.slice a xs.length cap∧xs.length≤cap∧cap≤9223372036854775807:=by
 obtain⟨_,⟨rfl,h0⟩|⟨g,cap,cur,rfl,hg,_,hc,hm,_⟩⟩:=h
 ·exact⟨none,0,by rw[h0],by omega,by omega⟩
 ·exact⟨_,_,rfl,hc,by unfold maxLen at hm;omega⟩
theorem FB.own {α:Type} {C:α→List Value} {c:Nat} {e:TypeId} {base:Nat} {w:World} {v:Value} {xs:List α} (h:FB C c e base w v xs):∀b∈v.ownBlock.toList,base≤b∧b<w.heap.size:=by
 obtain⟨_,⟨rfl,h0⟩|⟨g,cap,cur,rfl,hg,hs,_⟩⟩:=h
 ·intro b hb;simp[Value.ownBlock] at hb
 ·intro b hb
  simp[Value.ownBlock] at hb
  subst hb
  rw[Array.getElem?_eq_some_iff] at hs
  exact⟨hg,hs.1⟩
theorem FB.keep {α:Type} {C:α→List Value} {c:Nat} {e:TypeId} {base:Nat} {w w':World} {v:Value} {xs:List α} (h:FB C c e base w v xs) (hb:∀b∈v.ownBlock.toList,w'.heap[b]?=w.heap[b]?):FB C c e base w' v xs:=by
 unfold FB at *
 obtain⟨h0,⟨rfl,h1⟩|⟨g,cap,cur,rfl,hg,hh,rest⟩⟩:=h
 ·exact⟨h0,.inl ⟨rfl,h1⟩⟩
 ·exact⟨h0,.inr ⟨g,cap,cur,rfl,hg,by rw[hb g (by simp[Value.ownBlock])];exact hh,rest⟩⟩
theorem FB.below {α:Type} {C:α→List Value} {c:Nat} {e:TypeId} {base:Nat} {w w':World} {v:Value} {xs:List α} (h:FB C c e base w v xs) (hb:Below w.heap.size w w'):FB C c e base w' v xs :=
 h.keep fun b hb'=>hb.block b (h.own b hb').2
theorem FB.only {α:Type} {C:α→List Value} {c:Nat} {e:TypeId} {base:Nat} {bs:List Nat} {w w':World} {v:Value} {xs:List α} (h:FB C c e base w v xs) (hb:Only bs w w') (hn:∀b∈v.ownBlock.toList,b ∉ bs):FB C c e base w' v xs :=
 h.keep fun b hb'=>hb.block b (h.own b hb').2 (hn b hb')
theorem FB.at {α:Type} {C:α→List Value} {c:Nat} {e:TypeId} {Z:α→Prop} (hC:∀x,(C x).length=c) {base:Nat} {w:World} {v:Value} {xs:List α} (h:FB C c e base w v xs) (hl:xs.length≤9223372036854775807) (hZ:∀i (h:i<xs.length),Z xs[i]) :
  At c (FR C Z) base w v xs:=by
 obtain⟨bs,h1,h2,_⟩:=FO.of_own hC h hl
 exact h1.at hC hZ fun b hb=>(h2 b hb).1
theorem news_cells {w:World} (cs:List Value) (e:TypeId):∀j u,cs[j]?=some u→(w.alloc (.cells cs.toArray e)).cell? ((⟨w.heap.size,0,none⟩:Addr).add j)=some u:=by
 intro j u hu
 have hj:j<cs.length:=by
  by_cases hj:j<cs.length
  ·exact hj
  ·rw[List.getElem?_eq_none (by omega)] at hu;cases hu
 have:=(Box.new w e cs.toArray).cell j (by simpa using hj)
 rw[List.getElem?_eq_getElem hj] at hu
 injection hu with hu
 subst hu
 have e2:((⟨w.heap.size,0,none⟩:Addr).add j)=⟨w.heap.size,j,none⟩:=by
  simp only[Addr.add,Nat.zero_add]
  by_cases h0:j=0
  ·subst h0;simp
  ·rw[if_neg h0]
 rw[e2,this]
 simp
theorem app1 {α:Type} {C:α→List Value} {c bytes:Nat} {t e:TypeId} {z:Value} (ht:Tryz.prog.underlying t=some (.slice e)) (hinfo:(Tryz.prog.info? e).map (fun i=>(i.zero,i.size,i.bytes))=some (some z,c,bytes)) (hz:z.cells.size=c) (hc:0<c)
  (hC:∀x,(C x).length=c) (h1:∀x,∀u∈C x,u.oneCell'=true) {base:Nat} {w:World} {v:Value} {xs:List α} (h:FB C c e base w v xs) (ty:TypeId) (x:α) (hb:base≤w.heap.size) (hl:xs.length≤1000000) (hby:bytes≤1000) :
  ∃v' w',(Builtin.append_ #[t,t] ty #[v,.slice (some ⟨w.heap.size,0,none⟩) 1 1]).run Tryz.prog (w.alloc (.cells (C x).toArray e))=.ok v' w'∧FB C c e base w' v' (xs++[x])∧Only v.ownBlock.toList w w'∧(v'.ownBlock=v.ownBlock∨∃g,v'.ownBlock=some g∧w.heap.size≤g):=by
 obtain⟨i0,hi,hz0,hz1,hz2⟩:=info_parts hinfo
 have hbl:(xs.length+1) * bytes≤1000001 * 1000:=Nat.mul_le_mul (by omega) hby
 obtain⟨v',w',hr,ho,hg,_,hat⟩:=run_append_own_at (P:=Tryz.prog) (w:=w.alloc (.cells (C x).toArray e)) base t ty e i0 z c bytes ht hi hz0 hz1 hz2 hz hc v xs.length (flat C xs) (World.ownsRow.alloc h _) ⟨w.heap.size,0,none⟩ 1 1 (C x) (by rw[hC];omega) (news_cells _ _) (h1 x) (by unfold maxLen;omega) (by omega) (by rw[Deep.nblk_alloc];omega)
 refine⟨v',w',hr,?_,?_,?_⟩
 ·unfold FB
  rw[List.length_append,List.length_singleton,flat_snoc]
  exact ho
 ·refine(Only.of_below ((Below.refl w.heap.size w).alloc (leR _) _)).trans ⟨hg.os,hg.tape,hg.output,hg.size,fun k hk hn=>hg.block k hk fun e1=>hn ?_⟩
  rw[←e1]
  simp
 ·rcases hat with hat|hat
  ·exact .inl hat
  ·exact .inr ⟨_,hat,by rw[Deep.nblk_alloc];omega⟩
def OneV (v:Value):Prop:=∃a n c,v=.slice a n c
def Ind {α:Type} (A:Nat→World→Value→α→Prop) (lo:Nat) (w:World) (v u:Value) (x:α):Prop :=
 ∃L W,lo≤L∧A L W u x∧W.heap.size≤w.heap.size∧∀b,L≤b→b<W.heap.size→w.heap[b]?=W.heap[b]?∧v.ownBlock≠some b
theorem Ind.new {α:Type} {A:Nat→World→Value→α→Prop} {lo L:Nat} {w:World} {v u:Value} {x:α} (h:A L w u x) (hl:lo≤L) (hn:∀b,v.ownBlock=some b→b<L∨w.heap.size≤b):Ind A lo w v u x :=
 ⟨L,w,hl,h,leR _,fun b h1 h2=>⟨rfl,fun e=>by rcases hn b e with h|h <;> omega⟩⟩
theorem Ind.below {α:Type} {A:Nat→World→Value→α→Prop} {lo:Nat} {w w':World} {v u:Value} {x:α} (h:Ind A lo w v u x) (hb:Below w.heap.size w w'):Ind A lo w' v u x:=by
 obtain⟨L,W,h1,h2,h3,h4⟩:=h
 exact⟨L,W,h1,h2,Nat.le_trans h3 hb.size,fun b g1 g2=>⟨(hb.block b (by omega)).trans (h4 b g1 g2).1,(h4 b g1 g2).2⟩⟩
theorem Ind.app {α:Type} {A:Nat→World→Value→α→Prop} {lo:Nat} {w w':World} {v v' u:Value} {x:α} (h:Ind A lo w v u x) (ho:Only v.ownBlock.toList w w') (hv:∀b,v'.ownBlock=some b→v.ownBlock=some b∨w.heap.size≤b):Ind A lo w' v' u x:=by
 obtain⟨L,W,h1,h2,h3,h4⟩:=h
 refine⟨L,W,h1,h2,Nat.le_trans h3 ho.size,fun b g1 g2=>⟨(ho.block b (by omega) fun hm=>?_).trans (h4 b g1 g2).1,fun e=>?_⟩⟩
 ·exact(h4 b g1 g2).2 (by simpa using hm)
 ·rcases hv b e with e1|e1
  ·exact(h4 b g1 g2).2 e1
  ·omega
def Inds {α β:Type} (A:Nat→World→Value→α→Prop) (val:β→Value) (rel:β→α→Prop) (lo:Nat) (w:World) (v:Value) (ps:List β) (xs:List α):Prop :=
 ps.length=xs.length∧(∀y∈ps,OneV (val y))∧∀i (h1:i<ps.length) (h2:i<xs.length),rel ps[i] xs[i]∧Ind A lo w v (val ps[i]) xs[i]
section
variable {α β:Type} {A:Nat→World→Value→α→Prop} {val:β→Value} {rel:β→α→Prop} {lo:Nat} {w w':World} {v v':Value} {ps:List β} {xs:List α}
theorem Inds.nil (A:Nat→World→Value→α→Prop) (val:β→Value) (rel:β→α→Prop) (lo:Nat) (w:World) (v:Value):Inds A val rel lo w v [] []:=⟨rfl,by simp,fun i h=>absurd h (by simp)⟩
theorem Inds.below (h:Inds A val rel lo w v ps xs) (hb:Below w.heap.size w w'):Inds A val rel lo w' v ps xs :=
 ⟨h.1,h.2.1,fun i h1 h2=>⟨(h.2.2 i h1 h2).1,(h.2.2 i h1 h2).2.below hb⟩⟩
theorem Inds.app (h:Inds A val rel lo w v ps xs) (ho:Only v.ownBlock.toList w w') (hv:∀b,v'.ownBlock=some b→v.ownBlock=some b∨w.heap.size≤b):Inds A val rel lo w' v' ps xs :=
 ⟨h.1,h.2.1,fun i h1 h2=>⟨(h.2.2 i h1 h2).1,(h.2.2 i h1 h2).2.app ho hv⟩⟩
theorem Inds.snoc (h:Inds A val rel lo w v ps xs) {y:β} {x:α} (h1:OneV (val y)) (hr:rel y x) (hi:Ind A lo w v (val y) x):Inds A val rel lo w v (ps++[y]) (xs++[x]):=by
 refine⟨by simp[h.1],fun z hz=>?_,fun i g1 g2=>?_⟩
 ·rcases List.mem_append.1 hz with hz|hz
  ·exact h.2.1 z hz
  ·rw[List.mem_singleton.1 hz];exact h1
 ·by_cases hi1:i<ps.length
  ·have hi2:i<xs.length:=by rw[←h.1];exact hi1
   rw[List.getElem_append_left hi1,List.getElem_append_left hi2]
   exact h.2.2 i hi1 hi2
  ·have e:i=ps.length:=by simp at g1;omega
   subst e
   have e2:ps.length=xs.length:=h.1
   rw[List.getElem_append_right (leR _),List.getElem_append_right (by omega)]
   simp only[e2,Nat.sub_self,List.getElem_cons_zero]
   exact⟨hr,hi⟩
end
theorem row_more {β:Type} {C:β→List Value} {c bytes:Nat} {t e:TypeId} {z:Value} (ht:Tryz.prog.underlying t=some (.slice e)) (hinfo:(Tryz.prog.info? e).map (fun i=>(i.zero,i.size,i.bytes))=some (some z,c,bytes)) (hz:z.cells.size=c) (hc:0<c)
  {base n:Nat} {w:World} {v:Value} {ps:List β} (h:FB C c e base w v ps) (x:β) (hCx:(C x).length=c) (h1:∀u∈C x,u.oneCell'=true) (hb:base≤w.heap.size) (hn:ps.length=n) (hl:n≤100000) (hby:bytes≤1000) :
  ∃a' c' w',(Builtin.append_ #[t,t] t #[v,.slice (some ⟨w.heap.size,0,none⟩) 1 1]).run Tryz.prog (w.alloc (.cells (C x).toArray e))=.ok (.slice a' (n+1) c') w' ∧
   FB C c e base w' (.slice a' (n+1) c') (ps++[x])∧Only v.ownBlock.toList w w'∧(∀b,(Value.slice a' (n+1) c').ownBlock=some b→v.ownBlock=some b∨w.heap.size≤b):=by
 subst hn
 obtain⟨i0,hi,hz0,hz1,hz2⟩:=info_parts hinfo
 have hbl:(ps.length+1) * bytes≤100001 * 1000:=Nat.mul_le_mul (by omega) hby
 obtain⟨v',w',hr,ho,hg,_,hat⟩:=run_append_own_at (P:=Tryz.prog) (w:=w.alloc (.cells (C x).toArray e)) base t t e i0 z c bytes ht hi hz0 hz1 hz2 hz hc v ps.length (flat C ps) (World.ownsRow.alloc h _) ⟨w.heap.size,0,none⟩ 1 1 (C x) (by rw[hCx];omega) (news_cells _ _) h1 (by unfold maxLen;omega) (by omega) (by rw[Deep.nblk_alloc];omega)
 have hF:FB C c e base w' v' (ps++[x]):=by
  unfold FB
  rw[List.length_append,List.length_singleton,flat_snoc]
  exact ho
 obtain⟨a8,c8,e8,_,_⟩:=hF.form
 rw[List.length_append,List.length_singleton] at e8
 subst e8
 refine⟨a8,c8,w',hr,hF,?_,fun b hb=>?_⟩
 ·refine(Only.of_below ((Below.refl w.heap.size w).alloc (leR _) _)).trans ⟨hg.os,hg.tape,hg.output,hg.size,fun k hk hn=>hg.block k hk fun e1=>hn ?_⟩
  rw[←e1]
  simp
 ·rcases hat with hat|hat
  ·exact .inl (by rw[←hat];exact hb)
  ·refine .inr ?_
   rw[hat] at hb
   injection hb with hb
   rw[Deep.nblk_alloc] at hb
   omega
end Go.Proofs.YtglcdcekkglmiaaGreatDoor.Msg
namespace Go.Proofs.YtglcdcekkglmiaaGreatDoor.Msg
set_option linter.unusedVariables false
set_option linter.unusedSimpArgs false
theorem cutGo_skip (c:UInt8):∀(a b cur:List UInt8),(∀x∈a,x≠c)→cutGo c cur (a++b)=cutGo c (cur++a) b
 | [],b,cur,_=>by simp
 | x :: a,b,cur,h=>by
  rw[List.cons_append]
  conv=>lhs;unfold cutGo
  rw[if_neg (h x (by simp)),cutGo_skip c a b (cur++[x]) (fun y hy=>h y (by simp[hy]))]
  simp
end Go.Proofs.YtglcdcekkglmiaaGreatDoor.Msg
namespace Go.Proofs.YtglcdcekkglmiaaGreatDoor.Msg
open Go.ChangeShapes Go.WideShapes Go.ChangeAt Go.RowKit
open Go.Maps (Keyed)
set_option linter.unusedVariables false
set_option linter.unusedSimpArgs false
theorem laidOut6:laidOutB Tryz.prog=true:=by kernel_rfl
theorem nTy:Tryz.prog.types.size=185:=by kernel_rfl
theorem keyRow:95<Tryz.prog.types.size:=by rw[nTy];decide
theorem keyDeep:Tryz.prog.keyTypeAt 2 95=true:=by kernel_rfl
theorem outKeyed:Keyed Tryz.prog 95:=Keyed.of_law (deep_law_laid laidOut6 (m:=2) (by omega) keyRow keyDeep (by simp only[Tryz.underlying95]))
theorem keyCells:Tryz.prog.cellsOf 95=2:=by kernel_rfl
theorem keyInt:Tryz.prog.cellsOf 3=1:=by kernel_rfl
theorem keyStr:Tryz.prog.cellsOf 9=1:=by kernel_rfl
theorem keyTy:Tryz.prog.keyType 95=true:=by kernel_rfl
theorem nTypes:∃m,Tryz.prog.types.size=m+1:=⟨185 - 1,by kernel_rfl⟩
theorem key_some (i:Int) (s:ByteArray) (hi:(Lit.int .i64 i).wf=true) (hs:s.size≤9223372036854775807):∃kl,keyOf Tryz.prog 95 (.agg #[.int .i64 i,.string s])=some kl:=by
 obtain⟨m,hm⟩:=nTypes
 have hs':s.size≤maxLen:=by unfold maxLen;omega
 unfold keyOf
 simp only[Tryz.underlying95]
 rw[keyTy,hm]
 have hf:(Value.agg #[.int .i64 i,.string s]).formed Tryz.prog 95=true:=by
  simp[Value.formed,Tryz.underlying95,keyCells]
 rw[hf]
 simp[Value.cells,Program.keyLits,Tryz.underlying95,Tryz.underlying3,Tryz.underlying9,keyCells,keyInt,keyStr,hi,hs']
def ptrElem2 (v:Value):Option (DataW Unit × List MemPlace):=match v with
 | .pointer none=>some (.nil,[])
 | .pointer (some a)=>if a=⟨a.block,0,none⟩ then some (.lit (.int .i64 a.block),[]) else none
 | _=>none
theorem ptrElem2_nil {v:Value} {ps:List MemPlace} (h:ptrElem2 v=some (.nil,ps)):v=.pointer none:=by
 unfold ptrElem2 at h
 split at h
 ·rfl
 ·split at h
  ·injection h with h;injection h with h1 _;cases h1
  ·cases h
 ·cases h
theorem ptrElem2_some {v:Value} {b:Nat} {ps:List MemPlace} (h:ptrElem2 v=some (.lit (.int .i64 (b:Int)),ps)):v=.pointer (some ⟨b,0,none⟩):=by
 unfold ptrElem2 at h
 split at h
 ·injection h with h;injection h with h1 _;cases h1
 ·rename_i a
  split at h
  ·rename_i ha
   injection h with h
   injection h with h1 _
   injection h1 with h1
   injection h1 with _ h1
   have hb:a.block=b:=by omega
   rw[ha,hb]
  ·cases h
 ·cases h
def outD (o:Option Nat) (z:DataW Unit):DataW Unit:=match o with|some b=>.lit (.int .i64 (b:Int))|none=>z
def outV (o:Option Nat):Value:=match o with|some b=>.pointer (some ⟨b,0,none⟩)|none=>.pointer none
def MapF (w:World) (M n:Nat) (f:Int→ByteArray→Option Nat):Prop :=
 ∃D,w.ownsMap (H:=Unit) Tryz.prog 95 ptrElem2 M n D∧∀i s kl,keyOf Tryz.prog 95 (.agg #[.int .i64 i,.string s])=some kl→∀z,D.atKey kl z=outD (f i s) z
theorem MapF.new (w:World):MapF (w.alloc (.map #[] 0)) w.heap.size 0 (fun _ _=>none):=⟨_,World.ownsMap_made w _ _ _,fun _ _ _ _ _=>rfl⟩
theorem MapF.keep {w w':World} {M n:Nat} {f:Int→ByteArray→Option Nat} (h:MapF w M n f) (hb:w'.heap[M]?=w.heap[M]?):MapF w' M n f:=by
 obtain⟨D,⟨es,c,h1,h2⟩,h3⟩:=h
 exact⟨D,⟨es,c,by rw[hb];exact h1,h2⟩,h3⟩
theorem MapF.put {w w':World} {M n:Nat} {f:Int→ByteArray→Option Nat} (h:MapF w M n f) (hn:n≤1000000) (i:Int) (s:ByteArray) (b:Nat) (hi:(Lit.int .i64 i).wf=true) (hs:s.size≤9223372036854775807)
  (hr:(Instr.mapUpdate 81 (.map (some M)) (.agg #[.int .i64 i,.string s]) (.pointer (some ⟨b,0,none⟩))).run Tryz.prog w=.ok () w'):MapF w' M (n+1) (fun j t=>if j=i∧t=s then some b else f j t):=by
 obtain⟨D,h,hD⟩:=h
 obtain⟨kl,hk⟩:=key_some i s hi hs
 obtain⟨w2,hr2,ho,_⟩:=h.update outKeyed Tryz.underlying81 (by unfold maxLen;omega) hk (show ptrElem2 (.pointer (some ⟨b,0,none⟩))=some (.lit (.int .i64 (b:Int)),[]) from by simp[ptrElem2])
 rw[hr] at hr2
 injection hr2 with _ e
 rw[e]
 refine⟨_,ho,fun j t kl2 hk2 z=>?_⟩
 by_cases hjt:j=i∧t=s
 ·obtain⟨rfl,rfl⟩:=hjt
  have e2:kl=kl2:=Option.some.inj (hk.symm.trans hk2)
  subst e2
  rw[Maps.atKey_put_same h.isMap (outKeyed.key hk)]
  show _=outD (if j=j∧t=t then some b else f j t) z
  rw[if_pos ⟨rfl,rfl⟩]
  rfl
 ·have hne:kl2≠kl:=fun e=>hjt (by
   have:=outKeyed.inj (by rw[←e];exact hk2) hk
   injection this with this
   simp at this
   exact this)
  rw[Maps.atKey_put_other hne,hD j t kl2 hk2 z]
  show _=outD (if j=i∧t=s then some b else f j t) z
  rw[if_neg hjt]
theorem zeroPtr (w:World):(zeroValue 84).run Tryz.prog w=.ok (.pointer none) w:=by
 have hz:Tryz.t84.zero=some (.pointer none):=by kernel_rfl
 simp[zeroValue,go_sem,Tryz.underlying84,hz]
theorem MapF.look {w:World} {M n:Nat} {f:Int→ByteArray→Option Nat} (h:MapF w M n f) (i:Int) (s:ByteArray) (hi:(Lit.int .i64 i).wf=true) (hs:s.size≤9223372036854775807) :
  (Instr.lookup 81 (.map (some M)) (.agg #[.int .i64 i,.string s]) false).run Tryz.prog w=.ok (outV (f i s)) w:=by
 obtain⟨D,h,hD⟩:=h
 obtain⟨kl,hk⟩:=key_some i s hi hs
 obtain⟨v,ps,hr,hv⟩:=h.lookup outKeyed Tryz.underlying81 (zeroPtr w) (show ptrElem2 (.pointer none)=some (.nil,[]) from rfl) hk
 rw[hD i s kl hk] at hv
 rw[hr]
 cases hf:f i s with
 | none=>rw[hf] at hv;rw[ptrElem2_nil hv];rfl
 | some b=>rw[hf] at hv;rw[ptrElem2_some hv];rfl
theorem MapF.puts {w:World} {M n:Nat} {f:Int→ByteArray→Option Nat} (h:MapF w M n f) (hn:n≤1000000) (i:Int) (s:ByteArray) (b:Nat) (hi:(Lit.int .i64 i).wf=true) (hs:s.size≤9223372036854775807) :
  ∃w',(Instr.mapUpdate 81 (.map (some M)) (.agg #[.int .i64 i,.string s]) (.pointer (some ⟨b,0,none⟩))).run Tryz.prog w=.ok () w'∧MapF w' M (n+1) (fun j t=>if j=i∧t=s then some b else f j t)∧Only [M] w w':=by
 obtain⟨D,h1,hD⟩:=id h
 obtain⟨kl,hk⟩:=key_some i s hi hs
 obtain⟨w',hr,ho,hg⟩:=h1.update outKeyed Tryz.underlying81 (by unfold maxLen;omega) hk (show ptrElem2 (.pointer (some ⟨b,0,none⟩))=some (.lit (.int .i64 (b:Int)),[]) from by simp[ptrElem2])
 exact⟨w',hr,h.put hn i s b hi hs hr,hg.os,hg.tape,hg.output,hg.size,fun k hk1 hk2=>hg.block k hk1 fun e=>hk2 (by injection e with e;rw[e];simp)⟩
theorem MapF.drops {w:World} {M n:Nat} {f:Int→ByteArray→Option Nat} (h:MapF w M n f) (i:Int) (s:ByteArray) (hi:(Lit.int .i64 i).wf=true) (hs:s.size≤9223372036854775807) (ty:TypeId) :
  ∃w',(Builtin.delete_ #[81,95] ty #[.map (some M),.agg #[.int .i64 i,.string s]]).run Tryz.prog w=.ok (.tuple #[]) w'∧MapF w' M n (fun j t=>if j=i∧t=s then none else f j t)∧Only [M] w w':=by
 obtain⟨D,h1,hD⟩:=id h
 obtain⟨kl,hk⟩:=key_some i s hi hs
 obtain⟨w',hr,ho,es,clock,es',clock',hb,rfl⟩:=h1.drop outKeyed Tryz.underlying81 hk ty
 have hlt:M<w.heap.size:=h1.lt
 refine⟨_,hr,⟨_,ho,fun j t kl2 hk2 z=>?_⟩,rfl,rfl,rfl,by simp[Go.ChangeMaps.setBlock],fun d hd hn=>?_⟩
 ·by_cases hjt:j=i∧t=s
  ·obtain⟨rfl,rfl⟩:=hjt
   have e2:kl=kl2:=Option.some.inj (hk.symm.trans hk2)
   subst e2
   rw[Maps.atKey_del_same]
   show _=outD (if j=j∧t=t then none else f j t) z
   rw[if_pos ⟨rfl,rfl⟩]
   rfl
  ·have hne:kl2≠kl:=fun e=>hjt (by
    have:=outKeyed.inj (by rw[←e];exact hk2) hk
    injection this with this
    simp at this
    exact this)
   rw[Maps.atKey_del_other hne,hD j t kl2 hk2 z]
   show _=outD (if j=i∧t=s then none else f j t) z
   rw[if_neg hjt]
 ·have hne:d≠M:=fun e=>hn (by rw[e];simp)
  simp[Go.ChangeMaps.setBlock,Array.getElem?_setIfInBounds,Ne.symm hne]
theorem MapF.lt {w:World} {M n:Nat} {f:Int→ByteArray→Option Nat} (h:MapF w M n f):M<w.heap.size:=let ⟨_,h,_⟩:=h;h.lt
theorem MapF.ne {w:World} {M n b:Nat} {f:Int→ByteArray→Option Nat} {t:TypeId} {cs:Array Value} (h:MapF w M n f) (hb:Box w b t cs):b≠M:=fun e=>by
 obtain⟨D,⟨es,c,h1,h2⟩,_⟩:=h
 unfold Box at hb
 rw[e,h1] at hb
 cases hb
end Go.Proofs.YtglcdcekkglmiaaGreatDoor.Msg
namespace Go.Proofs.YtglcdcekkglmiaaGreatDoor.Msg
open Go.ChangeShapes Go.WideShapes Go.ChangeAt Go.RowKit
set_option linter.unusedVariables false
set_option linter.unusedSimpArgs false
set_option maxHeartbeats 2000000 in
theorem wTexts_yes (xs:List ByteArray) (v u:Value) (w:World) {lo lo2:Nat} (hv:StrsAt lo w v xs) (hu:StrsAt lo2 w u xs) :
  Calls Tryz.prog 37 #[v,u] w fun e w'=>e=.returned (.bool true)∧Below w.heap.size w w':=by
 have hl1:=hv.1
 obtain⟨a,cap,rfl,hc⟩:=hv.form
 obtain⟨a2,cap2,rfl,hc2⟩:=hu.form
 clear hv hu
 obtain⟨n,hn⟩:∃n,xs.length=n:=⟨_,rfl⟩
 rw[hn]
 rw[hn] at hl1
 have HC:Hid (∀k (h1:k<xs.length),∃b off b2 off2,a=some ⟨b,off,none⟩∧a2=some ⟨b2,off2,none⟩∧b<w.heap.size∧b2<w.heap.size∧w.cell? ⟨b,off+k,none⟩=some (.string (xs[k]))∧w.cell? ⟨b2,off2+k,none⟩=some (.string (xs[k]))):=fun k h1=>by
  obtain⟨b,off,e1,_,l1,r1⟩:=hc k h1
  obtain⟨b2,off2,e2,_,l2,r2⟩:=hc2 k h1
  exact⟨b,off,b2,off2,e1,e2,l1,l2,by simpa using r1.1,by simpa using r2.1⟩
 have HN:=hide hn
 clear hc hc2 hn
 go_enter Tryz.func37,Tryz.ntmps37
 go_wp2_with fail
 go_loopg [5] n (fun q i wr=>∃k:Nat,k≤n∧q=n - k∧i=.int .i64 (k:Int)∧Below w.heap.size w wr)
 case atStart=>exact⟨0,zrL _,rfl,rfl,Below.refl _ _⟩
 case round =>
  obtain⟨k,hk,rfl,rfl,hb⟩:=hrel
  by_cases hlt:k<n
  ·have hki:(k:Int)<(n:Int):=by omega
   have k1:k<xs.length:=by have:=HN.out;omega
   obtain⟨b,off,b2,off2,rfl,rfl,l1,l2,r1,r2⟩:=HC.out k k1
   have h1:=(hb.cell (p:=⟨b,off+k,none⟩) l1).trans r1
   have h2:=(hb.cell (p:=⟨b2,off2+k,none⟩) l2).trans r2
   obtain⟨x,hx⟩:∃x,xs[k]=x:=⟨_,rfl⟩
   rw[hx] at h1 h2
   clear r1 r2 hx k1
   go_wp2_with fail
   go_quiet (fail)
   go_wp2_with fail
   go_roundg (n - (k+1))
   case measure=>omega
   case rel=>exact⟨k+1,by omega,rfl,by go_num,below_drewN hb _⟩
  ·have hki:¬(k:Int)<(n:Int):=by omega
   go_wp2_with fail
   go_ret
   exact⟨rfl,hb⟩
end Go.Proofs.YtglcdcekkglmiaaGreatDoor.Msg
