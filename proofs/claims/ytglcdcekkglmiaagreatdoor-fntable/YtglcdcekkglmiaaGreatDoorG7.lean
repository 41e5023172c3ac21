import Derived.Test.YtglcdcekkglmiaaGreatDoorG6
import Derived.RangeFuncNested
import Derived.RangeFuncBound
import Derived.RangeFuncCalls
import Derived.RangeFuncLeaves
import Derived.RangeFuncBox
import Derived.Shelf.Abstract
import Derived.Shelf.RegionOpen
import Derived.OwnWalkIn
import Derived.TacticsInMore
import Derived.LoopNIn
import Derived.LoopIn
import Derived.Maps.OwnIn
namespace Go.Proofs.YtglcdcekkglmiaaGreatDoor.Msg
open Go.ChangeShapes Go.WideShapes Go.ChangeAt Go.RowKit Go.Shelf
set_option linter.unusedVariables false
set_option linter.unusedSimpArgs false
attribute [local go_sem] Oper.semAt_some
set_option maxHeartbeats 1000000 in
theorem recordSize_any (n:Nat) (w:World) (hn:n≤16777216) :
  Calls Tryz.prog 77 #[.int .i64 (n:Int)] w fun e w'=>e=.returned (.int .i64 ((32 * sectN n:Nat):Int))∧w'=w:=by
 have h1:(3+(n:Int)+31 - 1).tdiv 31=((sectN n:Nat):Int):=by rw[Int.tdiv_eq_ediv_of_nonneg (by omega)];unfold sectN;omega
 have h2:sectN n≤600000:=by unfold sectN;omega
 go_enter Tryz.func77,Tryz.ntmps77
 go_wp2_with fail
 go_ret
 exact⟨ret_int (by omega),rfl⟩
set_option maxHeartbeats 1000000 in
theorem withSize_any (s:ByteArray) (w:World) (hs:s.size≤60000) :
  Calls Tryz.prog 79 #[.string s] w fun e w'=>∃u,e=.returned u∧Buf w.heap.size w' u (bodyL s.data.toList)∧Below w.heap.size w w':=by
 obtain⟨i0,hi,hz0,hz1,hz2⟩:=u8_facts
 have HB1:=hide (Buf.size_lit w s.size hs)
 have hsl:s.data.toList.length=s.size:=by simp
 have HBL:Hid (szL s.size++s.data.toList=bodyL s.data.toList):=by unfold bodyL;rw[hsl];exact rfl
 clear hsl
 go_enter Tryz.func79,Tryz.ntmps79
 go_wp2_with (first
  | (at_builtin;refine wpList_str _ rfl _ _ 22 9 rfl w.heap.size 5 i0 Tryz.underlying22 Tryz.underlying9 hi hz0 hz1 hz2 _ 3 _ rfl HB1.out s rfl (by unfold maxLen;omega) (by omega) (by simp) ?_)
  | fail)
 intro v2 w2 hown2 hgrow2 hat2
 have R:=Buf.text s (Grew.refl _ _) (bs:=szL s.size) rfl hown2 hgrow2 (by rw[Deep.nblk_alloc];exact hat2)
 rw[HBL.out] at R
 have HR:Hid (Buf w.heap.size w2 v2 (bodyL s.data.toList)∧Below w.heap.size w w2):=⟨R.1,((Below.refl w.heap.size w).alloc (leR _) _).trans (R.2.below (by simp[Value.ownBlock]) (by simp))⟩
 clear hown2 hgrow2 hat2 R
 go_wp2_with fail
 go_ret
 exact⟨_,rfl,HR.out⟩
set_option maxHeartbeats 1000000 in
theorem chunk_in (a:Option Addr) (len cap:Nat) (n:Nat) (w:World) :
  CallsIn Fence.wide n Tryz.prog 78 #[.slice a len cap,.int .i64 31] w fun e w' =>
   e=.returned (.func (.func 95) #[] #[.pointer (some ⟨w.heap.size,0,none⟩),.pointer (some ⟨w.heap.size+1,0,none⟩)])∧w'=(w.alloc (.cells #[.slice a len cap] 22)).alloc (.cells #[.int .i64 31] 3):=by
 refine callsIn_of_wp Tryz.func78 rfl trivial ?_ rfl
 simp only[Tryz.ntmps78,List.size_toArray,List.length_cons,List.length_nil,Nat.reduceAdd,Nat.reduceSub,Array.replicate_succ,Array.replicate_zero,List.push_toArray,List.append_toArray,List.nil_append,List.cons_append]
 gi_wp2
 go_ret
 exact⟨rfl,rfl⟩
def ChunkKp (Bs Bn:Nat) (W W':World):Prop:=W'.heap[Bs]?=W.heap[Bs]?∧W'.heap[Bn]?=W.heap[Bn]?
theorem grownBy_drew (W:World) (k:Nat):W.grownBy (W.drewN k) none:=⟨rfl,rfl,rfl,leR _,fun _ _ _=>rfl⟩
def chunkV (b n j:Nat):Value:=.slice (some ⟨b,31 * j,none⟩) (min 31 (n - 31 * j)) (min 31 (n - 31 * j))
set_option maxRecDepth 100000 in
set_option maxHeartbeats 2000000 in
theorem chunk1_in (n l Bs Bn b len cap:Nat) (hn:1≤n) (hlen:len≤100000) (hcap:len≤cap) (hcap2:cap≤9223372036854775807) (J Jx:List Nat→World→Prop) (W:World)
  (hJ:AbidesFrom W.heap.size J)
  (hY:∀pre x W1,J pre W1→pre.length<(len+30) / 31→YieldAt Fence.wide (n - 1) Tryz.prog l #[chunkV b len x] W1 fun e W' =>
   (e=.returned (.bool true)∧J (pre++[x]) W'∧ChunkKp Bs Bn W1 W')∨(e=.returned (.bool false)∧Jx (pre++[x]) W'))
  (hBs:W.heap[Bs]?=some (.cells #[.slice (some ⟨b,0,none⟩) len cap] 22 (0,0))) (hBn:W.heap[Bn]?=some (.cells #[.int .i64 31] 3 (0,0))) (h0:J [] W) :
  CallsIn Fence.wide n Tryz.prog 95 #[.func (.yield l) #[] #[],.pointer (some ⟨Bs,0,none⟩),.pointer (some ⟨Bn,0,none⟩)] W fun e W'=>(∃v,e=.returned v) ∧
   ((∃ys,ys=List.range ((len+30) / 31)∧J ys W')∨(∃pre,(∃k,k≤(len+30) / 31∧pre=List.range k)∧Jx pre W')):=by
 have HY:=hide hY
 have HJ:=hide hJ
 clear hY hJ
 refine callsIn_of_wp Tryz.func95 rfl trivial ?_ rfl
 simp only[Tryz.ntmps95,List.size_toArray,List.length_cons,List.length_nil,Nat.reduceAdd,Nat.reduceSub,Array.replicate_succ,Array.replicate_zero,List.push_toArray,List.append_toArray,List.nil_append,List.cons_append]
 gi_wp2
 gi_loopw [4] (fun i wr=>∃k:Nat,k≤(len+30) / 31∧i=.int .i64 ((31 * k:Nat):Int)∧J (List.range k) wr∧wr.heap[Bs]?=some (.cells #[.slice (some ⟨b,0,none⟩) len cap] 22 (0,0))∧wr.heap[Bn]?=some (.cells #[.int .i64 31] 3 (0,0)))
  (fun i _=>100100 - (intOf i).toNat)
 case atStart=>exact⟨0,zrL _,rfl,h0,hBs,hBn⟩
 case round =>
  obtain⟨k,hk,rfl,hJs,hs1,hn1⟩:=hrel
  have c1:wr.cell? ⟨Bs,0,none⟩=some (.slice (some ⟨b,0,none⟩) len cap):=by simp[World.cell?,hs1]
  have c2:wr.cell? ⟨Bn,0,none⟩=some (.int .i64 31):=by simp[World.cell?,hn1]
  by_cases hlt:31 * k<len
  ·have hki:((31 * k:Nat):Int)<(len:Int):=by omega
   have hki2:31 * (k:Int)<(len:Int):=by omega
   gi_wp2
   gi_quiet (fail)
   by_cases h31:((len - 31 * k:Nat):Int)<31
   ·obtain⟨fn,tmps,assign,body,hy,hR⟩:=HY.out (List.range k) k (wr.drewN nq) (HJ.out _ _ _ _ hJs (grownBy_drew wr nq) (fun _ e=>by cases e)) (by rw[List.length_range];omega)
    rw[show chunkV b len k=.slice (some ⟨b,31 * k,none⟩) (len - 31 * k) (len - 31 * k) by unfold chunkV;congr 1 <;> omega] at hy
    gi_wp2
    refine hR.mono ?_
    rintro e W3 (⟨rfl,hJ3,hk3⟩|⟨rfl,hJx3⟩)
    ·have hs3:W3.heap[Bs]?=_:=hk3.1.trans hs1
     have hn3:W3.heap[Bn]?=_:=hk3.2.trans hn1
     have c3:W3.cell? ⟨Bs,0,none⟩=some (.slice (some ⟨b,0,none⟩) len cap):=by simp[World.cell?,hs3]
     have c4:W3.cell? ⟨Bn,0,none⟩=some (.int .i64 31):=by simp[World.cell?,hn3]
     gi_wp2
     go_roundw
     case rel=>exact⟨k+1,by omega,by go_num,by rw[List.range_succ];exact hJ3,hs3,hn3⟩
     case measure=>simp[intOf];omega
    ·gi_wp2
     refine bodyPost_ret (results_none rfl _ _ _) rfl ?_
     exact⟨⟨_,rfl⟩,.inr ⟨_,⟨k+1,by omega,List.range_succ.symm⟩,hJx3⟩⟩
   ·obtain⟨fn,tmps,assign,body,hy,hR⟩:=HY.out (List.range k) k (wr.drewN nq) (HJ.out _ _ _ _ hJs (grownBy_drew wr nq) (fun _ e=>by cases e)) (by rw[List.length_range];omega)
    rw[show chunkV b len k=.slice (some ⟨b,31 * k,none⟩) 31 31 by unfold chunkV;congr 1 <;> omega] at hy
    gi_wp2
    refine hR.mono ?_
    rintro e W3 (⟨rfl,hJ3,hk3⟩|⟨rfl,hJx3⟩)
    ·have hs3:W3.heap[Bs]?=_:=hk3.1.trans hs1
     have hn3:W3.heap[Bn]?=_:=hk3.2.trans hn1
     have c3:W3.cell? ⟨Bs,0,none⟩=some (.slice (some ⟨b,0,none⟩) len cap):=by simp[World.cell?,hs3]
     have c4:W3.cell? ⟨Bn,0,none⟩=some (.int .i64 31):=by simp[World.cell?,hn3]
     gi_wp2
     go_roundw
     case rel=>exact⟨k+1,by omega,by go_num,by rw[List.range_succ];exact hJ3,hs3,hn3⟩
     case measure=>simp[intOf];omega
    ·gi_wp2
     refine bodyPost_ret (results_none rfl _ _ _) rfl ?_
     exact⟨⟨_,rfl⟩,.inr ⟨_,⟨k+1,by omega,List.range_succ.symm⟩,hJx3⟩⟩
  ·have hki:¬((31 * k:Nat):Int)<(len:Int):=by omega
   have hkk:k=(len+30) / 31:=by omega
   gi_wp2
   go_end0
   exact⟨⟨_,rfl⟩,.inl (by rw[←hkk];exact hJs)⟩
attribute [local go_sem] Oper.semAt_some
structure RecV (w W0:World) (g0 Br Bm:Nat) (mk:Int) (acc:List UInt8) (W:World) (v:Value):Prop where
 box:Boxed W Br 22 v
 buf:Buf w.heap.size W v acc
 lies:v.ownBlock=some g0∨∃g,W0.heap.size≤g∧v.ownBlock=some g
 mark:Boxed W Bm 5 (.int .u8 mk)
 old:∀k,k<W0.heap.size→k≠g0→k≠Br→k≠Bm→W.heap[k]?=W0.heap[k]?
 size:W0.heap.size≤W.heap.size
 below:Below w.heap.size w W
structure RPlaces (w W0:World) (g0 Br Bm:Nat):Prop where
 a:w.heap.size≤g0
 b:g0<Br
 c:Br<Bm
 d:Bm<W0.heap.size
theorem RecV.own_ne {w W0:World} {g0 Br Bm:Nat} {mk:Int} {acc:List UInt8} {W:World} {v:Value} (h:RecV w W0 g0 Br Bm mk acc W v) (p:RPlaces w W0 g0 Br Bm) {k:Nat} (hk:k<W0.heap.size) (hg:k≠g0):some k≠v.ownBlock:=by
 rcases h.lies with e|⟨g,hl,e⟩ <;> rw[e] <;> intro e' <;> injection e' with e' <;> omega
theorem RecV.own_base {w W0:World} {g0 Br Bm:Nat} {mk:Int} {acc:List UInt8} {W:World} {v:Value} (h:RecV w W0 g0 Br Bm mk acc W v) (p:RPlaces w W0 g0 Br Bm) {k:Nat} (e:v.ownBlock=some k):w.heap.size≤k:=by
 rcases h.lies with e'|⟨g,hl,e'⟩ <;> rw[e] at e' <;> injection e' with e' <;> have:=p.a <;> have:=p.b <;> have:=p.c <;> have:=p.d <;> omega
theorem RecV.alloc {w W0:World} {g0 Br Bm:Nat} {mk:Int} {acc:List UInt8} {W:World} {v:Value} (h:RecV w W0 g0 Br Bm mk acc W v) (o:Obj):RecV w W0 g0 Br Bm mk acc (W.alloc o) v :=
 ⟨h.box.alloc o,h.buf.alloc o,h.lies,h.mark.alloc o,fun k hk h1 h2 h3=>(Below.heap_alloc W o k (Nat.lt_of_lt_of_le hk h.size)).trans (h.old k hk h1 h2 h3),by rw[Deep.nblk_alloc];have:=h.size;omega,h.below.alloc h.below.size o⟩
theorem RecV.append {w W0:World} {g0 Br Bm:Nat} {mk:Int} {acc acc':List UInt8} {W w1:World} {v v':Value} (h:RecV w W0 g0 Br Bm mk acc W v) (p:RPlaces w W0 g0 Br Bm)
  (hb:Buf w.heap.size w1 v' acc') (hg:W.grownBy w1 v.ownBlock) (hat:v'.ownBlock=v.ownBlock∨v'.ownBlock=some W.heap.size) :
  Boxed w1 Br 22 v∧RecV w W0 g0 Br Bm mk acc' (w1.setCell ⟨Br,0,none⟩ v') v'∧KeepsOthers W (w1.setCell ⟨Br,0,none⟩ v'):=by
 have hpa:=p.a;have hpb:=p.b;have hpc:=p.c;have hpd:=p.d
 have hbr:=h.own_ne p (k:=Br) (by omega) (by omega)
 have hbm:=h.own_ne p (k:=Bm) (by omega) (by omega)
 have hbox:Boxed w1 Br 22 v:=h.box.kept hg hbr
 have hsz:=h.size
 have hlies:v'.ownBlock=some g0∨∃g,W0.heap.size≤g∧v'.ownBlock=some g:=by
  rcases hat with e|e
  ·rw[e];exact h.lies
  ·exact .inr ⟨_,hsz,e⟩
 have hne':v'.ownBlock≠some Br:=by rcases hlies with e|⟨g,hl,e⟩ <;> rw[e] <;> intro e' <;> injection e' with e' <;> omega
 have hset:w1.grownBy (w1.setCell ⟨Br,0,none⟩ v') (some Br):=grownBy_setCell' w1 Br v'
 refine⟨hbox,⟨hbox.set v',?_,hlies,(h.mark.kept hg hbm).kept hset (by intro e;injection e with e;omega),?_,?_,?_⟩,?_⟩
 ·exact World.ownsRow.kept hb hset (.inr hne')
 ·intro k hk h1 h2 h3
  rw[hset.block k (by have:=hg.size;omega) (by intro e;injection e with e;exact h2 e),hg.block k (by omega) (h.own_ne p hk h1)]
  exact h.old k hk h1 h2 h3
 ·have:=hg.size;have:=hset.size;omega
 ·have hgb:Below w.heap.size W w1:=⟨hg.os,hg.tape,hg.output,hg.size,fun k hk=>hg.block k (by have:=h.below.size;omega) (by intro e;have:=h.own_base p e.symm;omega)⟩
  exact(h.below.trans hgb).setCell (p:=⟨Br,0,none⟩) (by dsimp only;omega) v'
 ·refine(KeepsOthers.of_grownBy hg fun j o ej hj=>?_).trans (KeepsOthers.setCell _ _ _)
  have:=h.buf
  obtain⟨_,⟨rfl,_⟩|⟨g,cap,cur,rfl,_,hgb,_⟩⟩:=this
  ·simp[Value.ownBlock] at ej
  ·obtain rfl:g=j:=by simpa [Value.ownBlock] using ej
   rw[hgb] at hj;cases hj;rfl
theorem RecV.marked {w W0:World} {g0 Br Bm:Nat} {mk:Int} {acc:List UInt8} {W:World} {v:Value} (h:RecV w W0 g0 Br Bm mk acc W v) (p:RPlaces w W0 g0 Br Bm) (mk':Int) :
  RecV w W0 g0 Br Bm mk' acc (W.setCell ⟨Bm,0,none⟩ (.int .u8 mk')) v:=by
 have hpa:=p.a;have hpb:=p.b;have hpc:=p.c;have hpd:=p.d
 have hset:W.grownBy (W.setCell ⟨Bm,0,none⟩ (.int .u8 mk')) (some Bm):=grownBy_setCell' W Bm _
 refine⟨h.box.kept hset (by intro e;injection e with e;omega),World.ownsRow.kept h.buf hset (.inr fun e=>h.own_ne p (k:=Bm) (by omega) (by omega) e.symm),h.lies,h.mark.set _,?_,by have:=hset.size;have:=h.size;omega,h.below.setCell (p:=⟨Bm,0,none⟩) (by dsimp only;omega) _⟩
 intro k hk h1 h2 h3
 rw[hset.block k (by have:=h.size;omega) (by intro e;injection e with e;exact h3 e)]
 exact h.old k hk h1 h2 h3
theorem RecV.turned {w W0:World} {g0 Br Bm:Nat} {mk:Int} {acc:List UInt8} {W W':World} {v:Value} {row:Option Nat} (h:RecV w W0 g0 Br Bm mk acc W v) (p:RPlaces w W0 g0 Br Bm)
  (hg:W.grownBy W' row) (hr:∀r,row=some r→W0.heap.size≤r∧∃o:Obj,W.heap[r]?=some o∧o.isCells=false):RecV w W0 g0 Br Bm mk acc W' v:=by
 have hpa:=p.a;have hpb:=p.b;have hpc:=p.c;have hpd:=p.d
 have hlow:∀k,k<W0.heap.size→some k≠row:=fun k hk e=>by have:=(hr k e.symm).1;omega
 refine⟨h.box.kept hg (hlow _ (by omega)),World.ownsRow.kept h.buf hg ?_,h.lies,h.mark.kept hg (hlow _ (by omega)),?_,by have:=hg.size;have:=h.size;omega,?_⟩
 ·obtain⟨_,⟨rfl,_⟩|⟨g,cap,cur,rfl,_,hgb,_⟩⟩:=h.buf
  ·exact .inl rfl
  ·refine .inr fun e=>?_
   obtain⟨_,o,ho,hc⟩:=hr g (by simpa [Value.ownBlock] using e.symm)
   rw[hgb] at ho;cases ho;cases hc
 ·intro k hk h1 h2 h3
  rw[hg.block k (by have:=h.size;omega) (hlow k hk)]
  exact h.old k hk h1 h2 h3
 ·exact h.below.trans ⟨hg.os,hg.tape,hg.output,hg.size,fun k hk=>hg.block k (by have:=h.below.size;omega) (hlow k (by omega))⟩
theorem wpListIn_apd {F:Fence} {n:Nat} {P:Program} {w:World} {ops:Array Oper} {rest:List Oper} {o:Oper} {a:Act} {Q:Exit→Act→World→Prop} (hgd:o.guard=none) (s x:Operand) (t u:TypeId)
  (ho:o.op=.call { callee:=.builtin .append,args:=#[s,x],argTypes:=#[t,u] }) {vs vx v':Value} {w':World} (hs:a.eval s=vs) (hx:a.eval x=vx)
  (hr:(Builtin.append_ #[t,u] o.type #[vs,vx]).run P w=.ok v' w') (h:wpListIn F n P ops Q rest (a.put o.dst v') w'):wpListIn F n P ops Q (o :: rest) a w:=by
 refine wpListIn_plain hgd fun K hK=>?_
 unfold Oper.wpIn
 refine⟨by simp[Oper.about,ho,resolve,Target.leads,Sem.run_pure],?_⟩
 rw[Oper.semAt_plain F _ _ (by rw[ho];intro c hc';cases hc')]
 simp[execOp,ho,resolve,invoke,builtin,hs,hx,hr,Result.andThen]
 exact hK _ _ h
theorem Buf.run_bytes {w:World} {base:Nat} {v:Value} {bs cs:List UInt8} (ty:TypeId) (h:Buf base w v bs) (hbase:base≤w.heap.size) (b off c:Nat) (hc:∀j,j<cs.length→w.cell? ⟨b,off+j,none⟩=some (.int .u8 ((cs.getD j 0).toNat:Int))) (hl:bs.length+cs.length≤70368744177664) :
  ∃v' w',(Builtin.append_ #[22,22] ty #[v,.slice (some ⟨b,off,none⟩) cs.length c]).run Tryz.prog w=.ok v' w'∧Buf base w' v' (bs++cs)∧w.grownBy w' v.ownBlock∧(v'.ownBlock=v.ownBlock∨v'.ownBlock=some w.heap.size):=by
 obtain⟨i0,hi,hz0,hz1,hz2⟩:=u8_facts
 obtain⟨v',w',hr,h2,h3,_,h5⟩:=run_append_own_at (P:=Tryz.prog) (w:=w) base 22 ty 5 i0 (.int .u8 0) 1 1 Tryz.underlying22 hi hz0 hz1 hz2 rfl (by decide) v bs.length (u8s bs) h ⟨b,off,none⟩ cs.length c (u8s cs) (by simp[u8s])
  (fun j u hj=>by
   have hjl:j<cs.length:=by
    have:=List.getElem?_eq_some_iff.1 hj
    obtain⟨h,_⟩:=this
    simpa [u8s] using h
   rw[add_none',hc j hjl]
   rw[←hj]
   simp[u8s,hjl,List.getD_eq_getElem?_getD])
  (fun u hu=>by
   simp only[u8s,List.mem_map] at hu
   obtain⟨c,_,rfl⟩:=hu
   rfl)
  (by unfold maxLen;omega) (by omega) hbase
 refine⟨v',w',hr,?_,h3,h5⟩
 unfold Buf
 have e1:(bs++cs).length=bs.length+cs.length:=by simp
 have e2:u8s (bs++cs)=u8s bs++u8s cs:=by simp[u8s]
 rw[e1,e2]
 exact h2
theorem Buf.run_zeros {w:World} {base:Nat} {v:Value} {bs:List UInt8} (ty:TypeId) (h:Buf base w v bs) (hbase:base≤w.heap.size) (n:Nat) (hl:bs.length+n≤70368744177664) :
  ∃v' w',(Builtin.append_ #[22,3] ty #[v,.int .i64 (n:Int)]).run Tryz.prog w=.ok v' w'∧Buf base w' v' (bs++List.replicate n 0)∧w.grownBy w' v.ownBlock∧(v'.ownBlock=v.ownBlock∨v'.ownBlock=some w.heap.size):=by
 obtain⟨i0,hi,hz0,hz1,hz2⟩:=u8_facts
 obtain⟨a,c,rfl,_,_⟩:=h.form
 obtain⟨v',w',hr,h2,h3,h5⟩:=append_str (P:=Tryz.prog) w base 22 9 ty 5 i0 Tryz.underlying22 Tryz.underlying9 hi hz0 hz1 hz2 _ bs.length (u8s bs) h (zeroB n) (by rw[zeroB_size];unfold maxLen;omega) (by rw[zeroB_size];omega) hbase
 rw[←append_zeros (P:=Tryz.prog) w 22 3 9 ty 5 i0 Tryz.underlying22 Tryz.underlying3 Tryz.underlying9 hi hz0 hz1 hz2 a bs.length c n (by omega)] at hr
 have R:=Buf.text (zeroB n) (Grew.refl w (.slice a bs.length c)) rfl h2 h3 h5
 rw[zeroB_data] at R
 exact⟨v',w',hr,R.1,h3,h5⟩
end Go.Proofs.YtglcdcekkglmiaaGreatDoor.Msg
