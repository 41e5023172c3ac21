import Derived.Test.YtglcdcekkglmiaaGreatDoorG15
import Derived.Deep.RegionHeld3
import Derived.Deep.LoopGhost
import Derived.Deep.DeepCutAuto
import Derived.Lib.Split
import Derived.Lib.SplitLaws
import Derived.Lib.CountLaws
import Derived.Lib.IndexBytes
namespace Go.Proofs.YtglcdcekkglmiaaGreatDoor.Msg
open Go
set_option linter.unusedVariables false
set_option linter.unusedSimpArgs false
section
variable {P:Program} {ops:Array Oper} {Q:Exit→Act→World→Prop} {md:Region.Mode} {S:World→Prop} {n1:Nat}
def wpTwo (P:Program) (md:Region.Mode) (ops:Array Oper) (Q:Exit→Act→World→Prop) (S:World→Prop) (n1:Nat):Nat→Array Bool→Act→World→Prop
 | 0,done,a,w=>Region.ready md ops done=[]∧Q .normal a w
 | f+1,done,a,w=>(Region.ready md ops done=[]→Q .normal a w)∧∀j∈Region.ready md ops done,wpOp P ops Q j (fun b v=>(j<n1→S v)∧wpTwo P md ops Q S n1 f (done.setIfInBounds j true) b v) a w
theorem wpTwo_any:∀(f:Nat) (done:Array Bool) (a:Act) (w:World),wpTwo P md ops Q S n1 f done a w→wpAny P md ops Q f done a w
 | 0,_,_,_,h=>h
 | f+1,done,a,w,h=>⟨h.1,fun j hj=>wpOp_mono (fun b v hv=>wpTwo_any f (done.setIfInBounds j true) b v hv.2) (h.2 j hj)⟩
def lateWait (md:Region.Mode) (ops:Array Oper) (n1 i:Nat):Bool:=(ops.toList.drop n1).all fun o=>o.after.any fun e=>Region.binds md e && e.on == i
theorem lateWait_of {i j:Nat} {o:Oper} (h:lateWait md ops n1 i=true) (hj:ops[j]?=some o) (hn:¬∃e∈o.after,Region.binds md e=true∧e.on=i):j<n1:=by
 refine Nat.lt_of_not_le fun hle=>hn ?_
 have hm:o∈ops.toList.drop n1:=by
  rw[List.mem_iff_getElem?]
  exact⟨j - n1,by rw[List.getElem?_drop,show n1+(j - n1)=j by omega,Array.getElem?_toList];exact hj⟩
 have h1:=List.all_eq_true.1 h o hm
 rw[Array.any_eq_true'] at h1
 obtain⟨e,he,hb⟩:=h1
 simp only[Bool.and_eq_true,beq_iff_eq] at hb
 exact⟨e,he,hb.1,hb.2⟩
theorem wpTwo_first {i:Nat} {oi:Oper} {v:Value} (hi:ops[i]?=some oi) (hlate:lateWait md ops n1 i=true) (hsel:∀(j:Nat) (o:Oper) cs b,ops[j]?=some o→o.op≠.select cs b) (hQ:∀c a w,Q (.panic c) (a.put oi.dst v) w→Q (.panic c) a w) :
  ∀(f:Nat) (done:Array Bool) (a:Act) (w:World),
   (∀j oj,ops[j]?=some oj→j≠i→done.getD j true=false→(∀e∈oj.after,Region.binds md e=true→e.on≠i)→oi.apart ops oj=true) →
   i∈Region.ready md ops done→YieldsIf P ops S oi v a→S w →
   wpTwo P md ops Q S n1 f (done.setIfInBounds i true) (a.put oi.dst v) w→wpTwo P md ops Q S n1 (f+1) done a w
 | 0,done,a,w,_,hr,hy,hS,H=>by
  refine⟨fun h=>(by rw[h] at hr;cases hr),fun j hj=>?_⟩
  by_cases hji:j=i
  ·subst hji
   exact hy.wpOp hi hS ⟨fun _=>hS,H⟩
  ·have h1:=ready_mono hj hji
   rw[H.1] at h1
   cases h1
 | f+1,done,a,w,hfree,hr,hy,hS,H=>by
  refine⟨fun h=>(by rw[h] at hr;cases hr),fun j hj=>?_⟩
  by_cases hji:j=i
  ·subst hji
   exact hy.wpOp hi hS ⟨fun _=>hS,H⟩
  ·have h1:=H.2 j (ready_mono hj hji)
   obtain⟨hun,oj,hoj,hall⟩:=mem_ready.1 hj
   have hnot:∀e∈oj.after,Region.binds md e=true→e.on≠i:=fun e he hb heq=>by
    have hd:=hall e he hb
    have h0:=(mem_ready.1 hr).1
    rw[heq] at hd
    rcases Nat.lt_or_ge i done.size with h'|h'
    ·simp[h'] at h0 hd;rw[h0] at hd;cases hd
    ·simp[Array.getElem?_eq_none h'] at hd
   have hjn:j<n1:=lateWait_of hlate hoj fun⟨e,he,hb,hei⟩=>hnot e he hb hei
   have h2:=wpOp_putIf hoj (hfree j oj hoj hji hun hnot) (fun cs b=>hsel i oi cs b hi) (fun cs b=>hsel j oj cs b hoj) hQ hy h1
   refine wpOp_mono (fun b u h3=>?_) h2
   obtain⟨hyb,hSu,hK⟩:=h3
   refine⟨hSu,wpTwo_first hi hlate hsel hQ f (done.setIfInBounds j true) b u (fun k ok hk hki hku hno=>hfree k ok hk hki ?_ hno) (ready_mono hr (Ne.symm hji)) hyb (hSu hjn) ?_⟩
   ·by_cases hjk:j=k
    ·subst hjk;exact hun
    ·rw[getD_set_ne true hjk] at hku;exact hku
   ·rw[Array.setIfInBounds_comm _ _ hji]
    exact hK
theorem wpTwo_take {i:Nat} (d:Option Tmp) {oi:Oper} {v:Value} {f:Nat} {done:Array Bool} {a:Act} {w:World} (hi:ops[i]?=some oi) (hd:oi.dst=d) (hl:lateWait md ops n1 i=true) (hs:Region.noSelect ops=true) (hf:Region.free md ops done i=true) (hr:(Region.ready md ops done).contains i=true)
  (hQ:∀c a w,Q (.panic c) (a.put d v) w→Q (.panic c) a w) (hS:S w) (hy:YieldsIf P ops S oi v a)
  (h:wpTwo P md ops Q S n1 f (done.setIfInBounds i true) (a.put d v) w):wpTwo P md ops Q S n1 (f+1) done a w:=by
 subst hd
 exact wpTwo_first hi hl (Region.noSelect_spec hs) hQ f done a w (Region.free_spec hi hf) (by simpa using hr) hy hS h
theorem wpTwo_one {j:Nat} {o:Oper} {f:Nat} {done:Array Bool} {a:Act} {w:World} (hr:Region.ready md ops done=[j]) (ho:ops[j]?=some o)
  (h:∀K:Act→World→Prop,Shut (∀b v,(j<n1→S v)→wpTwo P md ops Q S n1 f (done.setIfInBounds j true) b v→K b v)→if Region.wanted o (yielded ops a.tmps)=true then Oper.wp P o a w K Q else K (a.put o.dst undef) w) :
  wpTwo P md ops Q S n1 (f+1) done a w :=
 ⟨fun h0=>(by rw[hr] at h0;cases h0),fun k hk=>by
  rw[hr] at hk
  simp at hk
  subst hk
  exact wpOp_step ho fun K hK=>h K fun b v h1 h2=>hK b v ⟨h1,h2⟩⟩
theorem wpTwo_done {done:Array Bool} {a:Act} {w:World} (hr:Region.ready md ops done=[]) (h:Q .normal a w):∀f,wpTwo P md ops Q S n1 f done a w
 | 0=>⟨hr,h⟩
 | _+1=>⟨fun _=>h,by rw[hr];simp⟩
theorem wp_region_two {id:Nat} {a:Act} {w:World} (S:World→Prop) (n1:Nat) (hm:P.follows .mixedOrders=true) (h:wpTwo P .any ops Q S n1 ops.size (Array.replicate ops.size false) a w.drew):(Code.region id ops true).wp P Q a w :=
 wp_region_any hm (wpTwo_any _ _ _ _ h)
end
end Go.Proofs.YtglcdcekkglmiaaGreatDoor.Msg
namespace Go.Proofs.YtglcdcekkglmiaaGreatDoor.Msg
open Go.ChangeShapes Go.WideShapes Go.ChangeAt Go.RowKit
set_option linter.unusedVariables false
set_option linter.unusedSimpArgs false
def tC (s:ByteArray):List Value:=[.string s]
theorem tinfo:(Tryz.prog.info? 9).map (fun i=>(i.zero,i.size,i.bytes))=some (some (.string ByteArray.empty),1,16):=by kernel_rfl
theorem tC_strs {base:Nat} {w:World} {v:Value} {xs:List ByteArray} (h:FB tC 1 9 base w v xs) (hl:xs.length≤9223372036854775807) (hz:∀s∈xs,s.size≤9223372036854775807):StrsAt base w v xs:=by
 obtain⟨h0,hA⟩:=FB.at (C:=tC) (c:=1) (Z:=fun s=>s.size≤9223372036854775807) (fun _=>rfl) h hl (fun i hi=>hz _ (List.getElem_mem hi))
 refine⟨h0,?_⟩
 rcases hA with⟨a,cap,e,e2⟩|⟨b,off,cap,e,hb,hA⟩
 ·exact .inl ⟨a,cap,e,e2⟩
 ·refine .inr ⟨b,off,cap,e,hb,fun i hi=>?_⟩
  obtain⟨h1,h2⟩:=hA i hi
  exact⟨by simpa [tC] using h1 0 (by simp[tC]),h2⟩
theorem seven_below {B:Nat} {w X:World} {b:Nat} (h:Below B w X) (hb:B≤b) (x0 x1 x2 x3 x4 x5 x6:Value) :
  Below B w (((((((X.setCell ⟨b,0,none⟩ x0).setCell ⟨b,1,none⟩ x1).setCell ⟨b,2,none⟩ x2).setCell ⟨b,3,none⟩ x3).setCell ⟨b,4,none⟩ x4).setCell ⟨b,5,none⟩ x5).setCell ⟨b,6,none⟩ x6) :=
 ((((((h.setCell (p:=⟨b,0,none⟩) hb _).setCell (p:=⟨b,1,none⟩) hb _).setCell (p:=⟨b,2,none⟩) hb _).setCell (p:=⟨b,3,none⟩) hb _).setCell (p:=⟨b,4,none⟩) hb _).setCell (p:=⟨b,5,none⟩) hb _).setCell (p:=⟨b,6,none⟩) hb _
theorem FB.set1 {α:Type} {C:α→List Value} {c:Nat} {e:TypeId} {base:Nat} {w:World} {v:Value} {xs:List α} (h:FB C c e base w v xs) {b o:Nat} (ha:b<base) (u:Value):FB C c e base (w.setCell ⟨b,o,none⟩ u) v xs :=
 h.keep fun d hd=>Deep.blk_setCell_other _ ⟨b,o,none⟩ _ _ (by have:=(h.own d hd).1;dsimp only;omega)
set_option maxRecDepth 100000 in
set_option maxHeartbeats 8000000 in
theorem copySess_any (x:Sess) (v:Value) (w:World) {lo:Nat} (hn:x.rows.length≤100000) (hv:StrsAt lo w v x.rows) :
  Calls Tryz.prog 55 #[sessV x v] w fun e w'=>∃u,e=.returned (sessV x u)∧FB tC 1 9 (w.heap.size+2) w' u x.rows∧Below w.heap.size w w':=by
 obtain⟨client,tag,query,page,state,rows,cursor⟩:=x
 unfold sessV
 dsimp only at hn hv ⊢
 obtain⟨a,cap,rfl,hel⟩:=At.form hv
 obtain⟨n,hnn⟩:∃n,rows.length=n:=⟨_,rfl⟩
 have HN:=hide hnn
 have HEL:=hide hel
 rw[hnn] at hn ⊢
 obtain⟨x1,hx1⟩:∃x,w.alloc (Obj.cells #[.int .i64 client,.string tag,.string query,.int .i64 page,.int .i64 state,.slice a n cap,.int .i64 cursor] 41)=x:=⟨_,rfl⟩
 obtain⟨x2,hx2⟩:∃x,x1.alloc (Obj.cells #[.int .i64 0,.string ⟨#[]⟩,.string ⟨#[]⟩,.int .i64 0,.int .i64 0,.slice none 0 0,.int .i64 0] 41)=x:=⟨_,rfl⟩
 obtain⟨x3,hx3⟩:∃x,x2.alloc (Obj.cells #[] 9)=x:=⟨_,rfl⟩
 have s1:x1.heap.size=w.heap.size+1:=by rw[←hx1];simp
 have s2:x2.heap.size=w.heap.size+2:=by rw[←hx2];simp[s1]
 have b1:Below w.heap.size w x1:=by rw[←hx1];exact alcB _ _
 have b2:Below x1.heap.size x1 x2:=by rw[←hx2];exact alcB _ _
 have HB2:=hide (bjoin b2 b1)
 have HO1:Hid (Box x2 w.heap.size 41 #[.int .i64 client,.string tag,.string query,.int .i64 page,.int .i64 state,.slice a n cap,.int .i64 cursor]):=by rw[←hx2,←hx1];exact(Box.new _ _ _).alloc _
 have HO2:Hid (Box x2 (w.heap.size+1) 41 #[.int .i64 0,.string ⟨#[]⟩,.string ⟨#[]⟩,.int .i64 0,.int .i64 0,.slice none 0 0,.int .i64 0]):=by rw[←s1,←hx2];exact Box.new _ _ _
 have HF3:Hid (FB tC 1 9 (w.heap.size+2) x3 (.slice (some ⟨w.heap.size+2,0,none⟩) 0 0) []∧Below x2.heap.size x2 x3):=by
  rw[←hx3,←s2]
  exact⟨FB.lit _ _ _ _,alcB _ _⟩
 have HX3:Hid (((w.alloc (Obj.cells #[.int .i64 client,.string tag,.string query,.int .i64 page,.int .i64 state,.slice a n cap,.int .i64 cursor] 41)).alloc (Obj.cells #[.int .i64 0,.string ⟨#[]⟩,.string ⟨#[]⟩,.int .i64 0,.int .i64 0,.slice none 0 0,.int .i64 0] 41)).alloc (Obj.cells #[] 9)=x3):=by rw[hx1,hx2];exact hx3
 have HS2:=hide s2
 clear hv hel hnn hx1 hx2 hx3 s1 s2 b1 b2
 go_enter Tryz.func55,Tryz.ntmps55
 go_wp2_with fail
 (try rw[HX3.out])
 go_loopg [3,4] n (fun q s i wr=>∃(k:Nat) (ar:Option Addr) (cr:Nat),k≤n∧q=n - k∧s=.slice ar k cr∧i=.int .i64 (k:Int)∧FB tC 1 9 (w.heap.size+2) wr (.slice ar k cr) (rows.take k)∧Below x2.heap.size x2 wr)
 case atStart=>exact⟨0,_,_,zrL _,rfl,rfl,rfl,HF3.out.1,HF3.out.2⟩
 case round =>
  obtain⟨k,ar,cr,hk,rfl,rfl,rfl,hF,hB⟩:=hrel
  obtain⟨Y,rfl⟩:∃x,x=wr:=⟨_,rfl⟩
  have HF:=hide hF
  have HB:=hide hB
  have HOY:=hide (HO1.out.below hB)
  have HWY:=hide (bjoin hB HB2.out)
  clear hF hB
  have c5:Y.cell? ⟨w.heap.size,5,none⟩=some (.slice a n cap):=HOY.out.cell 5 (by simp)
  by_cases hlt:k<n
  ·have hki:(k:Int)<(n:Int):=by omega
   have hkl:k<rows.length:=by rw[HN.out];exact hlt
   obtain⟨b,off,rfl,_,hbl,hcell,hz⟩:=HEL.out k hkl
   obtain⟨t,ht⟩:∃t,rows[k]=t:=⟨_,rfl⟩
   rw[ht] at hcell hz
   have d0:Y.cell? ⟨b,off+k,none⟩=some (.string t):=by rw[HWY.out.cell (p:=⟨b,off+k,none⟩) hbl];simpa using hcell
   have HTK:Hid (rows.take (k+1)=rows.take k++[t]):=by show _=_;rw[List.take_succ_eq_append_getElem hkl,ht]
   have hlen:(rows.take k).length=k:=by rw[List.length_take];omega
   obtain⟨a',c',w',hr1,hF',hO',_⟩:=row_more (C:=tC) (c:=1) (bytes:=16) (e:=9) Tryz.underlying26 tinfo rfl (by decide) HF.out t rfl (fun z hz'=>by rw[List.mem_singleton.1 hz'];rfl) (by have:=HB.out.size;have:=HS2.out;omega) hlen (by omega) (by decide)
   have HF':=hide hF'
   have HBZ:Hid (Below x2.heap.size x2 w'):=HB.out.trans (hO'.below (by have:=HB.out.size;omega) fun d hd=>by have:=(HF.out.own d hd).1;have:=HS2.out;omega)
   have hr1':(Builtin.append_ #[26,26] 26 #[.slice ar k cr,.slice (some ⟨Y.heap.size,0,none⟩) 1 1]).run Tryz.prog (Y.alloc (.cells #[.string t] 9))=.ok (.slice a' (k+1) c') w':=hr1
   clear hcell ht hF' hO' hr1 hlen
   go_wp2_with (first|(at_builtin;refine wpList_app rfl _ _ 26 rfl hr1' (by first|rfl|simp[Act.eval,Act.put]) (by first|rfl|simp[Act.eval,Act.put]) ?_))
   go_roundg (n - (k+1))
   case measure=>omega
   case rel=>exact⟨k+1,_,_,by omega,rfl,rfl,by go_num,by rw[HTK.out];exact HF'.out,HBZ.out⟩
  ·have hki:¬(k:Int)<(n:Int):=by omega
   obtain rfl:k=n:=by omega
   have HFE:Hid (FB tC 1 9 (w.heap.size+2) Y (.slice ar k cr) rows):=by have:=HF.out;rw[←HN.out,List.take_length] at this;rw[←HN.out];exact this
   have f5:=HOY.out.frozen 5
   have l1:=HOY.out.lt
   obtain⟨Y1,hY1⟩:∃x,Y.setCell ⟨w.heap.size,5,none⟩ (.slice ar k cr)=x:=⟨_,rfl⟩
   have o1:Box Y1 w.heap.size 41 #[.int .i64 client,.string tag,.string query,.int .i64 page,.int .i64 state,.slice ar k cr,.int .i64 cursor]:=by rw[←hY1];have:=HOY.out.set 5 (.slice ar k cr);simpa using this
   have o2:Box Y1 (w.heap.size+1) 41 #[.int .i64 0,.string ⟨#[]⟩,.string ⟨#[]⟩,.int .i64 0,.int .i64 0,.slice none 0 0,.int .i64 0]:=by rw[←hY1];exact(HO2.out.below HB.out).other (by simp) _
   have HFY1:Hid (FB tC 1 9 (w.heap.size+2) Y1 (.slice ar k cr) rows):=by rw[←hY1];exact HFE.out.set1 (by omega) _
   have HBY1:Hid (Below w.heap.size w Y1):=by rw[←hY1];exact HWY.out.setCell (p:=⟨w.heap.size,5,none⟩) (leR _) _
   go_upto_region 7 with fail
   (try rw[hY1])
   clear hY1 c5 f5 l1
   have c0:Y1.cell? ⟨w.heap.size,0,none⟩=some (.int .i64 client):=o1.cell 0 (by simp)
   have c1:Y1.cell? ⟨w.heap.size,1,none⟩=some (.string tag):=o1.cell 1 (by simp)
   have c2:Y1.cell? ⟨w.heap.size,2,none⟩=some (.string query):=o1.cell 2 (by simp)
   have c3:Y1.cell? ⟨w.heap.size,3,none⟩=some (.int .i64 page):=o1.cell 3 (by simp)
   have c4:Y1.cell? ⟨w.heap.size,4,none⟩=some (.int .i64 state):=o1.cell 4 (by simp)
   have c5:Y1.cell? ⟨w.heap.size,5,none⟩=some (.slice ar k cr):=o1.cell 5 (by simp)
   have c6:Y1.cell? ⟨w.heap.size,6,none⟩=some (.int .i64 cursor):=o1.cell 6 (by simp)
   have z0:Y1.cell? ⟨w.heap.size+1,0,none⟩=some (.int .i64 0):=o2.cell 0 (by simp)
   have z1:Y1.cell? ⟨w.heap.size+1,1,none⟩=some (.string ⟨#[]⟩):=o2.cell 1 (by simp)
   have z2:Y1.cell? ⟨w.heap.size+1,2,none⟩=some (.string ⟨#[]⟩):=o2.cell 2 (by simp)
   have z3:Y1.cell? ⟨w.heap.size+1,3,none⟩=some (.int .i64 0):=o2.cell 3 (by simp)
   have z4:Y1.cell? ⟨w.heap.size+1,4,none⟩=some (.int .i64 0):=o2.cell 4 (by simp)
   have z5:Y1.cell? ⟨w.heap.size+1,5,none⟩=some (.slice none 0 0):=o2.cell 5 (by simp)
   have z6:Y1.cell? ⟨w.heap.size+1,6,none⟩=some (.int .i64 0):=o2.cell 6 (by simp)
   have f0:=o2.frozen 0
   have f1:=o2.frozen 1
   have f2:=o2.frozen 2
   have f3:=o2.frozen 3
   have f4:=o2.frozen 4
   have f5:=o2.frozen 5
   have f6:=o2.frozen 6
   have zl:=o2.lt
   clear o1 o2
   go_wp2_with fail
   exact bodyPost_ret (v:=.agg #[.int .i64 client,.string tag,.string query,.int .i64 page,.int .i64 state,.slice ar k cr,.int .i64 cursor]) (by simp[results,Tryz.results55,go_sem,z0,z1,z2,z3,z4,z5,z6,zl]) rfl
    ⟨_,rfl,((((((HFY1.out.set1 (by omega) _).set1 (by omega) _).set1 (by omega) _).set1 (by omega) _).set1 (by omega) _).set1 (by omega) _).set1 (by omega) _,seven_below HBY1.out (Nat.le_succ _) _ _ _ _ _ _ _⟩
def tsC (p:Sess × Value):List Value:=[.int .i64 p.1.client,.string p.1.tag,.string p.1.query,.int .i64 p.1.page,.int .i64 p.1.state,p.2,.int .i64 p.1.cursor]
theorem tsC_len (p:Sess × Value):(tsC p).length=7:=rfl
def SmS (s:Sess):Prop:=s.tag.size≤9223372036854775807∧s.query.size≤9223372036854775807∧s.rows.length≤100000∧∀r∈s.rows,r.size≤9223372036854775807
def rowA (L:Nat) (W:World) (u:Value) (s:Sess):Prop:=FB tC 1 9 L W u s.rows
def SessP (p:Sess × Value) (s:Sess):Prop:=p.1=s∧SmS s
abbrev SessInds:=Inds (α:=Sess) (β:=Sess × Value) rowA (fun p=>p.2) SessP
structure TB (base:Nat) (X:World) (v:Value) (ps:List (Sess × Value)) (xs:List Sess):Prop where
 row:FB tsC 7 41 base X v ps
 els:SessInds base X v ps xs
 nd:((ps.map (·.2)).filterMap Value.ownBlock).Nodup
theorem TB.nil (base:Nat) (X:World):TB base X (.slice none 0 0) [] []:=⟨FB.nil _ _ _ _ _,Inds.nil _ _ _ _ _ _,by simp⟩
theorem TB.below {base:Nat} {X X':World} {v:Value} {ps:List (Sess × Value)} {xs:List Sess} (h:TB base X v ps xs) (hb:Below X.heap.size X X'):TB base X' v ps xs:=⟨h.row.below hb,h.els.below hb,h.nd⟩
theorem TB.len {base:Nat} {X:World} {v:Value} {ps:List (Sess × Value)} {xs:List Sess} (h:TB base X v ps xs):ps.length=xs.length:=h.els.1
theorem Ind.same {α:Type} {A:Nat→World→Value→α→Prop} {lo:Nat} {w w':World} {v u:Value} {x:α} (h:Ind A lo w v u x) (hs:w.heap.size≤w'.heap.size) (hb:∀b,lo≤b→v.ownBlock≠some b→b<w.heap.size→w'.heap[b]?=w.heap[b]?):Ind A lo w' v u x:=by
 obtain⟨L,W,h1,h2,h3,h4⟩:=h
 exact⟨L,W,h1,h2,Nat.le_trans h3 hs,fun b g1 g2=>⟨(hb b (by omega) (h4 b g1 g2).2 (by omega)).trans (h4 b g1 g2).1,(h4 b g1 g2).2⟩⟩
theorem FB.low {α:Type} {C:α→List Value} {c:Nat} {e:TypeId} {base base':Nat} {w:World} {v:Value} {xs:List α} (h:FB C c e base w v xs) (hb:base'≤base):FB C c e base' w v xs:=by
 obtain⟨hl,⟨e1,h0⟩|⟨g,cap,cur,e1,hg,rest⟩⟩:=h
 ·exact⟨hl,.inl ⟨e1,h0⟩⟩
 ·exact⟨hl,.inr ⟨g,cap,cur,e1,by omega,rest⟩⟩
theorem Ind.rows {lo:Nat} {w:World} {v u:Value} {x:Sess} (h:Ind rowA lo w v u x):FB tC 1 9 lo w u x.rows∧∀b,u.ownBlock=some b→v.ownBlock≠some b:=by
 obtain⟨L,W,h1,h2,h3,h4⟩:=h
 have h2':FB tC 1 9 L W u x.rows:=h2
 refine⟨?_,fun b hb=>?_⟩
 ·have:=h2'.keep (w':=w) fun b hb=>(h4 b (h2'.own b hb).1 (h2'.own b hb).2).1
  exact this.low h1
 ·have:=h2'.own b (by rw[hb];simp)
  exact(h4 b this.1 this.2).2
theorem TB.own {base:Nat} {X:World} {v:Value} {ps:List (Sess × Value)} {xs:List Sess} (h:TB base X v ps xs):∀p∈ps,∀b,p.2.ownBlock=some b→base≤b∧b<X.heap.size:=fun p hp b hb=>by
 obtain⟨i,hi,rfl⟩:=List.mem_iff_getElem.1 hp
 exact(h.els.2.2 i hi (by rw[←h.len];exact hi)).2.rows.1.own b (by rw[hb];simp)
theorem TB.setB {base:Nat} {X:World} {v:Value} {ps:List (Sess × Value)} {xs:List Sess} (h:TB base X v ps xs) {b o:Nat} (hb:b<base) (x:Value):TB base (X.setCell ⟨b,o,none⟩ x) v ps xs :=
 ⟨h.row.set1 hb x,⟨h.els.1,h.els.2.1,fun i h1 h2=>⟨(h.els.2.2 i h1 h2).1,(h.els.2.2 i h1 h2).2.same (by rw[Deep.nblk_setCell];exact leR _) fun d hd _ _=>Deep.blk_setCell_other _ ⟨b,o,none⟩ _ d (by dsimp only;omega)⟩⟩,h.nd⟩
theorem nd_snoc {ps:List (Sess × Value)} {p:Sess × Value} (h:((ps.map (·.2)).filterMap Value.ownBlock).Nodup) (hn:∀b,p.2.ownBlock=some b→∀q∈ps,q.2.ownBlock≠some b):(((ps++[p]).map (·.2)).filterMap Value.ownBlock).Nodup:=by
 rw[List.map_append,List.filterMap_append]
 refine List.nodup_append.2 ⟨h,?_,?_⟩
 ·cases hp:p.2.ownBlock <;> simp[hp]
 ·intro a ha b hb e
  subst e
  obtain⟨x,hx,ea⟩:=List.mem_filterMap.1 ha
  obtain⟨q,hq,rfl⟩:=List.mem_map.1 hx
  obtain⟨y,hy,eb⟩:=List.mem_filterMap.1 hb
  simp at hy
  subst hy
  exact hn a eb q hq ea
theorem TB.more {base n:Nat} {X:World} {v:Value} {ps:List (Sess × Value)} {xs:List Sess} (h:TB base X v ps xs) (s:Sess) (u:Value) (hs:SmS s) (hu:Ind rowA base X v u s) (h1:OneV u) (hd:∀b,u.ownBlock=some b→∀q∈ps,q.2.ownBlock≠some b) (hb:base≤X.heap.size) (hn:xs.length=n) (hl:n≤100000) :
  ∃a' c' w',(Builtin.append_ #[23,23] 23 #[v,.slice (some ⟨X.heap.size,0,none⟩) 1 1]).run Tryz.prog (X.alloc (.cells #[.int .i64 s.client,.string s.tag,.string s.query,.int .i64 s.page,.int .i64 s.state,u,.int .i64 s.cursor] 41))=.ok (.slice a' (n+1) c') w' ∧
   TB base w' (.slice a' (n+1) c') (ps++[(s,u)]) (xs++[s])∧Only v.ownBlock.toList X w'∧(∀b,(Value.slice a' (n+1) c').ownBlock=some b→v.ownBlock=some b∨X.heap.size≤b):=by
 obtain⟨a',c',w',hr,hF,ho,hv⟩:=row_more (C:=tsC) (c:=7) (bytes:=88) (e:=41) Tryz.underlying23 info_Sess rfl (by decide) h.row (s,u) rfl (fun z hz=>by
  obtain⟨a,m,c,e⟩:=h1
  have hz':z=.int .i64 s.client∨z=.string s.tag∨z=.string s.query∨z=.int .i64 s.page∨z=.int .i64 s.state∨z=u∨z=.int .i64 s.cursor:=by simpa [tsC] using hz
  rcases hz' with rfl|rfl|rfl|rfl|rfl|rfl|rfl
  all_goals first|rfl|(rw[e];rfl)) hb (by rw[h.len];exact hn) hl (by decide)
 exact⟨a',c',w',hr,⟨hF,(h.els.snoc (y:=(s,u)) h1 ⟨rfl,hs⟩ hu).app ho hv,nd_snoc h.nd hd⟩,ho,hv⟩
def keyB (c:Int) (t:ByteArray) (x:Sess):Bool:=decide (x.client=c) && (x.tag.toList == t.toList)
def liveB (s:Int):Bool:=decide (s=1) || decide (s=2)
def placeOf (xs:List Sess) (c:Int) (t:ByteArray):Int:=match xs.findIdx? (keyB c t) with
 | some i=>(i:Int)
 | none=>-1
theorem place_hit {xs:List Sess} {c:Int} {t:ByteArray} {k:Nat} (h:k<xs.length) (h1:∀i (hi:i<k),keyB c t (xs[i]'(by omega))=false) (h2:keyB c t xs[k]=true):placeOf xs c t=(k:Int):=by
 unfold placeOf
 have:xs.findIdx? (keyB c t)=some k:=by
  rw[List.findIdx?_eq_some_iff_getElem]
  exact⟨h,h2,fun j hj=>by have:=h1 j hj;simp[this]⟩
 rw[this]
theorem place_none {xs:List Sess} {c:Int} {t:ByteArray} (h1:∀i (hi:i<xs.length),keyB c t xs[i]=false):placeOf xs c t = -1:=by
 unfold placeOf
 have:xs.findIdx? (keyB c t)=none:=by
  rw[List.findIdx?_eq_none_iff]
  intro x hx
  obtain⟨i,hi,rfl⟩:=List.getElem_of_mem hx
  exact h1 i hi
 rw[this]
set_option maxHeartbeats 400000 in
theorem l5Live_any (s:Int) (w:World) :
  Calls Tryz.prog 27 #[.int .i64 s] w fun e w'=>e=.returned (.bool (liveB s))∧w'=w:=by
 by_cases h1:s=1
 ·subst h1
  go_enter Tryz.func27,Tryz.ntmps27
  go_wp2_with fail
  go_ret
  exact⟨rfl,rfl⟩
 ·have h1b:(s == 1)=false:=by simpa using h1
  have HX:Hid (liveB s=decide (s=2)):=by show _=_;unfold liveB;rw[decide_eq_false h1];rfl
  by_cases h2:s=2
  ·subst h2
   go_enter Tryz.func27,Tryz.ntmps27
   go_wp2_with fail
   go_ret
   exact⟨rfl,rfl⟩
  ·have h2b:(s == 2)=false:=by simpa using h2
   have HX2:Hid (liveB s=false):=by show _=_;rw[HX.out,decide_eq_false h2]
   go_enter Tryz.func27,Tryz.ntmps27
   go_wp2_with fail
   go_ret
   exact⟨ret_bool HX2.out.symm,rfl⟩
set_option maxHeartbeats 1000000 in
theorem l5At_any (xs:List Sess) (v:Value) (c:Int) (t:ByteArray) (w:World) {lo:Nat} (hv:SesssAt lo w v xs) :
  Calls Tryz.prog 26 #[.agg #[v],.int .i64 c,.string t] w fun e w'=>e=.returned (.int .i64 (placeOf xs c t))∧Below w.heap.size w w':=by
 have hl:=hv.1
 have hb:=(Below.refl w.heap.size w).alloc (leR _) (Obj.cells #[v] 25)
 obtain⟨a,cap,hf,hc⟩:=(At.kept kept_sess hv hb).form
 subst hf
 obtain⟨W,hW⟩:∃W,w.alloc (Obj.cells #[.slice a xs.length cap] 25)=W:=⟨_,rfl⟩
 have d0:W.cell? ⟨w.heap.size,0,none⟩=some (.slice a xs.length cap):=by rw[←hW];simp
 rw[hW] at hb hc
 have HC:=hide hc
 have HB:=hide hb
 have HW:=hide hW
 clear hc hb hv hW
 go_enter Tryz.func26,Tryz.ntmps26
 go_wp2_with fail
 rw[HW.out]
 go_loopg [7] xs.length (fun q i wr=>∃k:Nat,k≤xs.length∧q=xs.length - k∧i=.int .i64 (k:Int)∧(∀j (hj:j<xs.length),j<k→keyB c t xs[j]=false)∧wr=W)
 case atStart=>exact⟨0,zrL _,rfl,rfl,fun j _ h=>absurd h (by omega),rfl⟩
 case round =>
  obtain⟨k,hk,rfl,rfl,hno,rfl⟩:=hrel
  have HNO:=hide hno
  clear hno
  by_cases hlt:k<xs.length
  ·have hki:(k:Int)<(xs.length:Int):=by omega
   obtain⟨b,off,rfl,_,hbl,c0,c1,_⟩:=HC.out k hlt
   have HH:=hide (fun h2=>place_hit (c:=c) (t:=t) hlt (fun i hi=>HNO.out i (by omega) hi) h2)
   have HN:Hid (keyB c t xs[k]=false→∀j (hj:j<xs.length),j<k+1→keyB c t xs[j]=false):=fun h j hj hjk=>by
    by_cases e:j=k
    ·subst e;exact h
    ·exact HNO.out j hj (by omega)
   have HK:Hid (keyB c t xs[k]=(decide (xs[k].client=c) && (xs[k].tag.toList == t.toList))):=rfl
   obtain⟨x,hx⟩:∃x,xs[k]=x:=⟨_,rfl⟩
   rw[hx] at c0 c1 HH HN HK
   clear hx
   obtain⟨p,hp⟩:∃p,off+k * 7=p:=⟨_,rfl⟩
   rw[hp] at c0 c1
   by_cases e1:x.client=c
   ·have e1b:(x.client == c)=true:=by simpa using e1
    cases e2:(x.tag.toList == t.toList)
    ·have HF:=hide (HN.out (by rw[HK.out,e2,Bool.and_false]))
     go_wp2_with fail
     go_roundg (xs.length - (k+1))
     case measure=>omega
     case rel=>exact⟨k+1,by omega,rfl,by go_num,HF.out,rfl⟩
    ·have HF:=hide (HH.out (by rw[HK.out,e2,decide_eq_true e1];rfl))
     go_wp2_with fail
     go_ret
     exact⟨ret_int HF.out.symm,HB.out⟩
   ·have e1b:(x.client == c)=false:=by simpa using e1
    have HF:=hide (HN.out (by rw[HK.out,decide_eq_false e1,Bool.false_and]))
    go_wp2_with fail
    go_roundg (xs.length - (k+1))
    case measure=>omega
    case rel=>exact⟨k+1,by omega,rfl,by go_num,HF.out,rfl⟩
  ·obtain rfl:k=xs.length:=by omega
   have hki:¬(xs.length:Int)<(xs.length:Int):=by omega
   have HF:=hide (place_none (c:=c) (t:=t) (fun i hi=>HNO.out i hi hi))
   go_wp2_with fail
   go_ret
   exact⟨ret_int HF.out.symm,HB.out⟩
end Go.Proofs.YtglcdcekkglmiaaGreatDoor.Msg
namespace Go.Proofs.YtglcdcekkglmiaaGreatDoor.Msg
set_option linter.unusedVariables false
set_option linter.unusedSimpArgs false
theorem indexByte_parts (c:UInt8):∀l:List UInt8,(Lib.indexByte l c = -1∧∀x∈l,x≠c)∨∃i:Nat,Lib.indexByte l c=i∧i<l.length∧l=l.take i++c :: l.drop (i+1)∧∀x∈l.take i,x≠c
 | []=>.inl ⟨rfl,fun _ h=>by cases h⟩
 | b :: l=>by
  by_cases hb:b=c
  ·subst hb
   refine .inr ⟨0,?_,by simp,by simp,fun x h=>by simp at h⟩
   unfold Lib.indexByte
   rw[if_pos (by simp)]
   rfl
  ·have hb':(b == c)=false:=by rw[beq_eq_false_iff_ne];exact hb
   rcases indexByte_parts c l with⟨h1,h2⟩|⟨i,h1,h2,h3,h4⟩
   ·refine .inl ⟨?_,fun x hx=>?_⟩
    ·unfold Lib.indexByte
     rw[hb',h1];rfl
    ·rw[List.mem_cons] at hx
     rcases hx with rfl|hx
     ·exact hb
     ·exact h2 x hx
   ·refine .inr ⟨i+1,?_,by simp;omega,?_,fun x hx=>?_⟩
    ·unfold Lib.indexByte
     rw[hb',h1]
     have:((i:Int) == -1)=false:=by rw[beq_eq_false_iff_ne];omega
     rw[this]
     simp only[Bool.false_eq_true,if_false]
     omega
    ·rw[List.take_succ_cons,List.drop_succ_cons,List.cons_append,←h3]
    ·rw[List.take_succ_cons,List.mem_cons] at hx
     rcases hx with rfl|hx
     ·exact hb
     ·exact h4 x hx
theorem cutGo_hit (c:UInt8) (a b cur:List UInt8) (h:∀x∈a,x≠c):cutGo c cur (a++c :: b)=(cur++a) :: cutGo c [] b:=by
 rw[cutGo_skip c a (c :: b) cur h]
 conv=>lhs;unfold cutGo
 rw[if_pos rfl]
theorem cutL_none (c:UInt8) (l:List UInt8) (h:∀x∈l,x≠c):cutL c l=[l]:=by
 unfold cutL
 have:=cutGo_skip c l [] [] h
 rw[List.append_nil] at this
 rw[this]
 simp[cutGo]
theorem splitK_cut (c:UInt8):∀(n:Nat) (l:List UInt8),l.length≤n→Lib.splitK [c] 0 (Lib.count l [c]) l=cutL c l
 | n,l,hn=>by
  rcases indexByte_parts c l with⟨h1,h2⟩|⟨i,h1,h2,h3,h4⟩
  ·rw[Lib.count_miss (by rw[Lib.index_one];exact h1),cutL_none c l h2]
   rfl
  ·match n with
   | 0=>omega
   | n+1 =>
    have hi:Lib.index l [c]=i:=by rw[Lib.index_one];exact h1
    have ih:=splitK_cut c n (l.drop (i+1)) (by simp;omega)
    rw[Lib.count_hit (by simp) hi,Nat.add_comm 1]
    unfold Lib.splitK
    rw[hi]
    have hm:((i:Int) == -1)=false:=by rw[beq_eq_false_iff_ne];omega
    rw[hm]
    simp only[Bool.false_eq_true,if_false,Int.toNat_natCast,Nat.add_zero,List.length_cons,List.length_nil,Nat.zero_add]
    rw[ih]
    conv=>rhs;rw[h3]
    unfold cutL
    rw[cutGo_hit c _ _ [] h4]
    rfl
theorem splitB_cut (c:UInt8) (s:ByteArray):Lib.splitB ⟨#[c]⟩ 0 (Lib.countB s ⟨#[c]⟩) s=(cutL c s.data.toList).map txt:=by
 have h1:=Lib.splitB_data ⟨#[c]⟩ 0 (Lib.countB s ⟨#[c]⟩) s
 have h2:Lib.countB s ⟨#[c]⟩=Lib.count s.data.toList [c]:=rfl
 rw[h2] at h1 ⊢
 have h3:Lib.splitK (⟨#[c]⟩:ByteArray).data.toList 0 (Lib.count s.data.toList [c]) s.data.toList=cutL c s.data.toList:=splitK_cut c _ _ (leR _)
 rw[h3] at h1
 rw[←h1,List.map_map]
 conv=>lhs;rw[←List.map_id (Lib.splitB _ _ _ _)]
 apply List.map_congr_left
 intro x _
 exact(txt_of x).symm
theorem countB_cut (c:UInt8) (s:ByteArray):Lib.countB s ⟨#[c]⟩+1=(cutL c s.data.toList).length:=by
 have h:=Lib.splitB_all ⟨#[c]⟩ (Nat.le_refl 1) 0 _ s rfl
 rw[splitB_cut,List.length_map] at h
 exact h.symm
end Go.Proofs.YtglcdcekkglmiaaGreatDoor.Msg
namespace Go.Proofs.YtglcdcekkglmiaaGreatDoor.Msg
open Go.ChangeShapes Go.WideShapes Go.ChangeAt Go.RowKit
set_option linter.unusedVariables false
set_option linter.unusedSimpArgs false
def atL (ps:List (List UInt8)) (k:Nat):List UInt8:=ps.getD k []
def looseI (ps:List (List UInt8)):Chg :=
 { kind:=numI (atL ps 0),client:=numI (atL ps 1),tag:=txt (atL ps 2)
   query:=if numI (atL ps 0)=1 then txt (atL ps 3) else ⟨#[]⟩
   page:=if numI (atL ps 0)=1 then numI (atL ps 4) else 0
   rows:=if numI (atL ps 0)=2 then (ps.drop 3).map txt else []
   n:=if numI (atL ps 0)=4 then numI (atL ps 3) else 0 }
def looseS (ps:List (List UInt8)):Chg :=
 { kind:=numS (atL ps 0),client:=numS (atL ps 1),tag:=txt (atL ps 2)
   query:=if numS (atL ps 0)=1∧ps.length=5 then txt (atL ps 3) else ⟨#[]⟩
   page:=if numS (atL ps 0)=1∧ps.length=5 then numS (atL ps 4) else 0
   rows:=if numS (atL ps 0)=2 then (ps.drop 3).map txt else []
   n:=if numS (atL ps 0)=4∧ps.length=4 then numS (atL ps 3) else 0 }
def decI (s:ByteArray):Option Chg :=
 if s.size=0∨60000<s.size then none else if encB (looseI (cutL 10 s.data.toList))=s then some (looseI (cutL 10 s.data.toList)) else none
def decS (s:ByteArray):Option Chg :=
 if (cutL 10 s.data.toList).length<3 then none else if encB (looseS (cutL 10 s.data.toList))=s then some (looseS (cutL 10 s.data.toList)) else none
theorem cut_join:∀(ps:List (List UInt8)) (p:List UInt8),(∀q∈p :: ps,∀x∈q,x≠10)→cutL 10 (Lib.join (p :: ps) [10])=p :: ps
 | [],p,h=>by
  rw[Lib.join_one]
  exact cutL_none 10 p (h p (by simp))
 | q :: r,p,h=>by
  have ih:=cut_join r q fun a ha=>h a (List.mem_cons_of_mem _ ha)
  rw[Lib.join_cons] at ih ⊢
  have e:Lib.joinTail [10] (q :: r)=10 :: (q++Lib.joinTail [10] r):=by simp[Lib.joinTail]
  rw[e]
  unfold cutL at ih ⊢
  rw[cutGo_hit 10 p _ [] (h p (by simp)),ih]
  rfl
theorem plain_no10 {s:ByteArray} (h:plainB s=true):∀x∈s.data.toList,x≠10:=by
 intro x hx e
 unfold plainB at h
 have:=List.all_eq_true.1 h x hx
 rw[e] at this
 exact absurd this (by decide)
theorem dec_no10 (u:Nat):∀x∈Lib.decDigits u,x≠10:=by
 intro x hx e
 have:=List.all_eq_true.1 (dec_spells u).2.1 x hx
 rw[e] at this
 exact absurd this (by decide)
theorem bound_plain {lo hi:Nat} {s:ByteArray} (h:boundB lo hi s=true):plainB s=true:=by
 unfold boundB at h
 simp only[Bool.and_eq_true] at h
 exact h.2.2
theorem parts_no10 {c:Chg} (h:chgB c=true):∀q∈chgParts c,∀x∈q,x≠10:=by
 intro q hq
 have ht:=bound_plain (chgB_tag h)
 unfold chgParts at hq
 simp only[List.mem_cons] at hq
 rcases hq with rfl|rfl|rfl|hq
 ·exact dec_no10 _
 ·exact dec_no10 _
 ·exact plain_no10 ht
 ·unfold chgB at h
  rw[Bool.and_eq_true] at h
  have h:=h.2
  unfold kindB at h
  unfold chgMore at hq
  split at hq
  ·rw[if_pos (by assumption)] at h
   simp only[Bool.and_eq_true] at h
   simp only[List.mem_cons,List.not_mem_nil,or_false] at hq
   rcases hq with rfl|rfl
   ·exact plain_no10 (bound_plain h.1.1)
   ·exact dec_no10 _
  rename_i n1
  split at hq
  ·rw[if_neg n1,if_pos (by assumption)] at h
   simp only[Bool.and_eq_true,rowsB] at h
   obtain⟨r,hr,rfl⟩:=List.mem_map.1 hq
   exact plain_no10 (bound_plain (List.all_eq_true.1 h.1.2 r hr))
  rename_i n2
  split at hq
  ·simp only[List.mem_cons,List.not_mem_nil,or_false] at hq
   subst hq
   exact dec_no10 _
  ·cases hq
theorem cut_enc {c:Chg} (h:chgB c=true):cutL 10 (encL c)=chgParts c:=cut_join _ _ (parts_no10 h)
theorem toNat_cast {a:Int} (h:0≤a):((a.toNat:Nat):Int)=a:=Int.toNat_of_nonneg h
theorem nil_of_size {s:ByteArray} (h:s.size=0):s=⟨#[]⟩:=by
 apply ByteArray.ext
 exact Array.eq_empty_of_size_eq_zero h
theorem map_txt (l:List ByteArray):(l.map (·.data.toList)).map txt=l:=by
 rw[List.map_map]
 conv=>rhs;rw[←List.map_id l]
 exact List.map_congr_left fun x _=>txt_of x
theorem looseI_parts {c:Chg} (h:chgB c=true):looseI (chgParts c)=c:=by
 have hk:=chgB_kind h
 have hcl:=chgB_client h
 have h0:numI (atL (chgParts c) 0)=c.kind:=(numI_dec c.kind.toNat (by omega)).trans (toNat_cast (by omega))
 have h1:numI (atL (chgParts c) 1)=c.client:=(numI_dec c.client.toNat (by omega)).trans (toNat_cast (by omega))
 have h2:txt (atL (chgParts c) 2)=c.tag:=txt_of _
 unfold looseI
 rw[h0,h1,h2]
 obtain⟨kind,client,tag,query,page,rows,n⟩:=c
 simp only at hk hcl ⊢
 rcases chgB_cases h with⟨a1,a2,a3,a4,a5,a6⟩|⟨a1,a2,a3,a4,a5,a6⟩|⟨a1,a2,a3,a4,a5,a6⟩|⟨a1,a2,a3,a4,a5⟩
 ·simp only at a1 a2 a3 a4 a5 a6
  subst a1 a5 a6
  have e3:txt (atL (chgParts ⟨1,client,tag,query,page,[],0⟩) 3)=query:=txt_of _
  have e4:numI (atL (chgParts ⟨1,client,tag,query,page,[],0⟩) 4)=page:=(numI_dec page.toNat (by omega)).trans (toNat_cast (by omega))
  simp[e3,e4]
 ·simp only at a1 a2 a3 a4 a5 a6
  obtain rfl:=nil_of_size a2
  subst a1 a3 a6
  have e3:((chgParts ⟨2,client,tag,⟨#[]⟩,0,rows,0⟩).drop 3).map txt=rows:=map_txt rows
  simp[e3]
 ·simp only at a1 a2 a3 a4 a5 a6
  obtain rfl:=nil_of_size a2
  subst a1 a3 a4
  have e3:numI (atL (chgParts ⟨4,client,tag,⟨#[]⟩,0,[],n⟩) 3)=n:=(numI_dec n.toNat (by omega)).trans (toNat_cast (by omega))
  simp[e3]
 ·simp only at a1 a2 a3 a4 a5
  obtain rfl:=nil_of_size a2
  subst a3 a4 a5
  have n1:¬kind=1:=by omega
  have n2:¬kind=2:=by omega
  have n4:¬kind=4:=by omega
  simp[n1,n2,n4]
theorem looseS_parts {c:Chg} (h:chgB c=true):looseS (chgParts c)=c:=by
 have hk:=chgB_kind h
 have hcl:=chgB_client h
 have h0:numS (atL (chgParts c) 0)=c.kind:=(numS_dec c.kind.toNat (by omega)).trans (toNat_cast (by omega))
 have h1:numS (atL (chgParts c) 1)=c.client:=(numS_dec c.client.toNat (by omega)).trans (toNat_cast (by omega))
 have h2:txt (atL (chgParts c) 2)=c.tag:=txt_of _
 unfold looseS
 rw[h0,h1,h2]
 obtain⟨kind,client,tag,query,page,rows,n⟩:=c
 simp only at hk hcl ⊢
 rcases chgB_cases h with⟨a1,a2,a3,a4,a5,a6⟩|⟨a1,a2,a3,a4,a5,a6⟩|⟨a1,a2,a3,a4,a5,a6⟩|⟨a1,a2,a3,a4,a5⟩
 ·simp only at a1 a2 a3 a4 a5 a6
  subst a1 a5 a6
  have e3:txt (atL (chgParts ⟨1,client,tag,query,page,[],0⟩) 3)=query:=txt_of _
  have e4:numS (atL (chgParts ⟨1,client,tag,query,page,[],0⟩) 4)=page:=(numS_dec page.toNat (by omega)).trans (toNat_cast (by omega))
  have e5:(chgParts ⟨1,client,tag,query,page,[],0⟩).length=5:=rfl
  simp[e3,e4,e5]
 ·simp only at a1 a2 a3 a4 a5 a6
  obtain rfl:=nil_of_size a2
  subst a1 a3 a6
  have e3:((chgParts ⟨2,client,tag,⟨#[]⟩,0,rows,0⟩).drop 3).map txt=rows:=map_txt rows
  simp[e3]
 ·simp only at a1 a2 a3 a4 a5 a6
  obtain rfl:=nil_of_size a2
  subst a1 a3 a4
  have e3:numS (atL (chgParts ⟨4,client,tag,⟨#[]⟩,0,[],n⟩) 3)=n:=(numS_dec n.toNat (by omega)).trans (toNat_cast (by omega))
  have e5:(chgParts ⟨4,client,tag,⟨#[]⟩,0,[],n⟩).length=4:=rfl
  simp[e3,e5]
 ·simp only at a1 a2 a3 a4 a5
  obtain rfl:=nil_of_size a2
  subst a3 a4 a5
  have n1:¬kind=1:=by omega
  have n2:¬kind=2:=by omega
  have n4:¬kind=4:=by omega
  simp[n1,n2,n4]
theorem encB_ok {c:Chg} {s:ByteArray} (h:encB c=s) (hs:¬s.size=0):chgB c=true∧s=⟨(encL c).toArray⟩:=by
 unfold encB at h
 split at h
 ·exact⟨by assumption,h.symm⟩
 ·rw[←h] at hs
  exact absurd rfl hs
theorem lens_le (b:Nat):∀(l:List (List UInt8)),(∀q∈l,q.length≤b)→Lib.lens l≤l.length * b
 | [],_=>by simp[Lib.lens]
 | q :: r,h=>by
  have h1:=lens_le b r fun a ha=>h a (List.mem_cons_of_mem _ ha)
  have h2:=h q (by simp)
  simp only[Lib.lens,List.map_cons,List.sum_cons,List.length_cons,Nat.add_mul,Nat.one_mul] at *
  omega
theorem dec_short (u:Nat) (h:u<1000):(Lib.decDigits u).length≤200:=by have:=dec_len 2 u (by omega);omega
theorem parts_short {c:Chg} (h:chgB c=true):(chgParts c).length≤203∧∀q∈chgParts c,q.length≤200:=by
 have hk:=chgB_kind h
 have hcl:=chgB_client h
 have ht:=tagB_size (chgB_tag h)
 have hl:∀s:ByteArray,s.data.toList.length=s.size:=fun s=>by simp
 have hm:(chgMore c).length≤200∧∀q∈chgMore c,q.length≤200:=by
  rcases chgB_cases h with⟨a1,a2,a3,a4,a5,a6⟩|⟨a1,a2,a3,a4,a5,a6⟩|⟨a1,a2,a3,a4,a5,a6⟩|⟨a1,a2,a3,a4,a5⟩
  ·unfold chgMore
   rw[if_pos a1]
   refine⟨by simp,fun q hq=>?_⟩
   simp only[List.mem_cons,List.not_mem_nil,or_false] at hq
   rcases hq with rfl|rfl
   ·rw[hl];exact a2
   ·exact dec_short _ (by omega)
  ·unfold chgMore
   rw[if_neg (by omega),if_pos a1]
   refine⟨by simpa using a4,fun q hq=>?_⟩
   obtain⟨r,hr,rfl⟩:=List.mem_map.1 hq
   show r.data.toList.length≤200
   rw[hl];exact a5 r hr
  ·unfold chgMore
   rw[if_neg (by omega),if_neg (by omega),if_pos a1]
   refine⟨by simp,fun q hq=>?_⟩
   simp only[List.mem_cons,List.not_mem_nil,or_false] at hq
   subst hq
   exact dec_short _ (by omega)
  ·unfold chgMore
   rw[if_neg (by omega),if_neg (by omega),if_neg (by omega)]
   exact⟨by simp,fun q hq=>by cases hq⟩
 refine⟨by unfold chgParts;simp only[List.length_cons];have:=hm.1;omega,fun q hq=>?_⟩
 unfold chgParts at hq
 simp only[List.mem_cons] at hq
 rcases hq with rfl|rfl|rfl|hq
 ·exact dec_short _ (by omega)
 ·exact dec_short _ (by omega)
 ·rw[hl];omega
 ·exact hm.2 q hq
theorem encL_short {c:Chg} (h:chgB c=true):(encL c).length≤60000:=by
 obtain⟨h1,h2⟩:=parts_short h
 have hl:=lens_le 200 _ h2
 unfold encL
 unfold chgParts at *
 rw[Lib.join_length]
 simp only[List.length_cons,List.length_nil] at *
 omega
theorem dec_same (s:ByteArray):decI s=decS s:=by
 unfold decI decS
 by_cases h0:s.size=0
 ·rw[if_pos (.inl h0)]
  have e:s.data.toList=[]:=List.length_eq_zero_iff.1 (by simpa using h0)
  rw[e,if_pos (by decide)]
 ·by_cases hI:encB (looseI (cutL 10 s.data.toList))=s
  ·obtain⟨k1,k2⟩:=encB_ok hI h0
   obtain⟨C,hC⟩:∃C,looseI (cutL 10 s.data.toList)=C:=⟨_,rfl⟩
   rw[hC] at k1 k2 hI ⊢
   have e:s.data.toList=encL C:=by rw[k2]
   have hz:s.size≤60000:=by have:=encL_short k1;rw[←e] at this;simpa using this
   rw[if_neg (by omega),if_pos hI,e,cut_enc k1,if_neg (by unfold chgParts;simp),looseS_parts k1,if_pos hI]
  ·rw[if_neg hI]
   by_cases hS:encB (looseS (cutL 10 s.data.toList))=s
   ·exfalso
    obtain⟨k1,k2⟩:=encB_ok hS h0
    obtain⟨C,hC⟩:∃C,looseS (cutL 10 s.data.toList)=C:=⟨_,rfl⟩
    rw[hC] at k1 k2 hS
    have e:s.data.toList=encL C:=by rw[k2]
    rw[e,cut_enc k1,looseI_parts k1] at hI
    exact hI hS
   ·rw[if_neg hS]
    split <;> split <;> rfl
end Go.Proofs.YtglcdcekkglmiaaGreatDoor.Msg
