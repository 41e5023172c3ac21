import Derived.Test.YtglcdcekkglmiaaGreatDoorRows
import Derived.WalkKit
import Derived.ProofKit
import Derived.OpenShut
import Derived.Below
import Derived.OwnWalk
import Derived.Maps.AppendAt
import Derived.Laws.BytesArg
import Derived.Deep.Heap
import Derived.Lib.AppendStr
import Derived.Laws.OwnMore
namespace Go.Proofs.YtglcdcekkglmiaaGreatDoor.Msg
open Go.ChangeShapes Go.WideShapes Go.ChangeAt Go.RowKit
theorem alcB (w:World) (o:Obj):Below w.heap.size w (w.alloc o):=(Below.refl _ _).alloc (Nat.le_refl _) _
theorem leR (n:Nat):n≤n:=Nat.le_refl n
theorem zrL (n:Nat):0≤n:=Nat.zero_le n
theorem hide {p:Prop} (h:p):Hid p:=h
theorem ret_int {k:IntKind} {a b:Int} (h:a=b):Ending.returned (.int k a)=.returned (.int k b):=by rw[h]
theorem ret_bool {a b:Bool} (h:a=b):Ending.returned (.bool a)=.returned (.bool b):=by rw[h]
theorem ret_string {a b:ByteArray} (h:a=b):Ending.returned (.string a)=.returned (.string b):=by rw[h]
abbrev Rep:=List ByteArray
abbrev Field:=List Rep
structure Seg where
 name:ByteArray
 fields:List Field
def At {α:Type} (n:Nat) (R:Nat→World→Nat→Nat→α→Prop) (lo:Nat) (w:World) (v:Value) (xs:List α):Prop :=
 xs.length≤9223372036854775807∧((∃a cap,v=.slice a 0 cap∧xs=[]) ∨
  ∃b off cap,v=.slice (some ⟨b,off,none⟩) xs.length cap∧(lo≤b∧b<w.heap.size)∧∀i (h:i<xs.length),R lo w b (off+i * n) xs[i])
def StrR (_:Nat) (w:World) (b off:Nat) (x:ByteArray):Prop:=w.cell? ⟨b,off,none⟩=some (.string x)∧x.size≤9223372036854775807
def StrsAt:Nat→World→Value→List ByteArray→Prop:=At 1 StrR
def Same (lo:Nat) (w w':World):Prop:=w.heap.size≤w'.heap.size∧∀b,lo≤b→b<w.heap.size→w'.heap[b]?=w.heap[b]?
theorem Same.cell {lo:Nat} {w w':World} (h:Same lo w w') {b o:Nat} (h1:lo≤b) (h2:b<w.heap.size):w'.cell? ⟨b,o,none⟩=w.cell? ⟨b,o,none⟩:=by
 have e:=h.2 b h1 h2
 simp only[World.cell?,e]
theorem Same.of_below {lo:Nat} {w w':World} (h:Below w.heap.size w w'):Same lo w w':=⟨h.size,fun b _ h2=>h.block b h2⟩
def Kept {α:Type} (R:Nat→World→Nat→Nat→α→Prop):Prop:=∀lo w w' b off x,R lo w b off x→lo≤b→b<w.heap.size→Same lo w w'→R lo w' b off x
def Mono {α:Type} (R:Nat→World→Nat→Nat→α→Prop):Prop:=∀lo lo' w b off x,R lo w b off x→lo'≤lo→R lo' w b off x
theorem At.same {α:Type} {n:Nat} {R:Nat→World→Nat→Nat→α→Prop} (K:Kept R) {lo:Nat} {w w':World} {v:Value} {xs:List α} (h:At n R lo w v xs) (hb:Same lo w w'):At n R lo w' v xs:=by
 obtain⟨hl,h⟩:=h
 refine⟨hl,?_⟩
 rcases h with h|⟨b,off,cap,rfl,hlt,h⟩
 ·exact .inl h
 ·exact .inr ⟨b,off,cap,rfl,⟨hlt.1,Nat.lt_of_lt_of_le hlt.2 hb.1⟩,fun i hi=>K _ _ _ _ _ _ (h i hi) hlt.1 hlt.2 hb⟩
theorem At.kept {α:Type} {n:Nat} {R:Nat→World→Nat→Nat→α→Prop} (K:Kept R) {lo:Nat} {w w':World} {v:Value} {xs:List α} (h:At n R lo w v xs) (hb:Below w.heap.size w w'):At n R lo w' v xs :=
 At.same K h (Same.of_below hb)
theorem At.mono {α:Type} {n:Nat} {R:Nat→World→Nat→Nat→α→Prop} (K:Mono R) {lo lo':Nat} {w:World} {v:Value} {xs:List α} (h:At n R lo w v xs) (hl:lo'≤lo):At n R lo' w v xs:=by
 obtain⟨hs,h⟩:=h
 refine⟨hs,?_⟩
 rcases h with h|⟨b,off,cap,rfl,hlt,h⟩
 ·exact .inl h
 ·exact .inr ⟨b,off,cap,rfl,⟨Nat.le_trans hl hlt.1,hlt.2⟩,fun i hi=>K _ _ _ _ _ _ (h i hi) hl⟩
theorem kept_str:Kept StrR:=fun lo w w' b off x h h1 h2 hb=>⟨by rw[hb.cell h1 h2];exact h.1,h.2⟩
theorem mono_str:Mono StrR:=fun _ _ _ _ _ _ h _=>h
def rest (left:Int) (n:Nat):Int:=if (n:Int)≤left then left - n else -1
end Go.Proofs.YtglcdcekkglmiaaGreatDoor.Msg
namespace Go.Proofs.YtglcdcekkglmiaaGreatDoor.Msg
open Go.ChangeShapes Go.WideShapes Go.ChangeAt Go.RowKit
set_option linter.unusedVariables false
set_option linter.unusedSimpArgs false
def u8s (bs:List UInt8):List Value:=bs.map fun c=>.int .u8 c.toNat
def Buf (base:Nat) (w:World) (v:Value) (bs:List UInt8):Prop:=w.ownsRow base 5 1 v bs.length (u8s bs)
theorem info_u8:(Tryz.prog.info? 5).map (fun i=>(i.zero,i.size,i.bytes))=some (some (.int .u8 0),1,1):=by kernel_rfl
theorem u8_facts:∃i,Tryz.prog.info? 5=some i∧i.zero=some (.int .u8 0)∧i.size=1∧i.bytes=1:=by
 have h:=info_u8
 cases hi:Tryz.prog.info? 5 with
 | none=>rw[hi] at h;cases h
 | some i =>
  rw[hi] at h
  simp only[Option.map_some,Option.some.injEq,Prod.mk.injEq] at h
  exact⟨i,rfl,h.1,h.2.1,h.2.2⟩
theorem Buf.alloc {base:Nat} {w:World} {v:Value} {bs:List UInt8} (h:Buf base w v bs) (o:Obj):Buf base (w.alloc o) v bs:=World.ownsRow.alloc h o
def Grew (w:World) (v:Value) (w':World) (u:Value):Prop:=w.grownBy w' v.ownBlock∧(u.ownBlock=v.ownBlock∨∃g,u.ownBlock=some g∧w.heap.size≤g)
theorem Grew.refl (w:World) (v:Value):Grew w v w v:=⟨⟨rfl,rfl,rfl,leR _,fun _ _ _=>rfl⟩,.inl rfl⟩
theorem Grew.trans {w w1 w2:World} {v v1 v2:Value} (h:Grew w v w1 v1) (k:Grew w1 v1 w2 v2):Grew w v w2 v2:=by
 obtain⟨a,b⟩:=h
 obtain⟨c,d⟩:=k
 refine⟨⟨c.os.trans a.os,c.tape.trans a.tape,c.output.trans a.output,Nat.le_trans a.size c.size,fun x hx hn=>?_⟩,?_⟩
 ·refine(c.block x (Nat.lt_of_lt_of_le hx a.size) ?_).trans (a.block x hx hn)
  rcases b with b|⟨g,b,hg⟩
  ·rw[b];exact hn
  ·rw[b];intro e;injection e with e;omega
 ·rcases d with d|⟨g,d,hg⟩
  ·rw[d];rcases b with b|⟨g,b,hg⟩
   ·exact .inl b
   ·exact .inr ⟨g,b,hg⟩
  ·exact .inr ⟨g,d,Nat.le_trans a.size hg⟩
theorem Grew.alloc {w w1:World} {v v1:Value} (h:Grew w v w1 v1) (o:Obj):Grew w v (w1.alloc o) v1:=by
 obtain⟨a,b⟩:=h
 exact⟨⟨a.os,a.tape,a.output,by rw[Deep.nblk_alloc];exact Nat.le_succ_of_le a.size,fun x hx hn=>by rw[Deep.blk_alloc_lt _ _ _ (Nat.lt_of_lt_of_le hx a.size)];exact a.block x hx hn⟩,b⟩
theorem Grew.below {w w1:World} {v v1:Value} {base:Nat} (h:Grew w v w1 v1) (hb:base≤v.ownBlock.getD base) (hs:base≤w.heap.size):Below base w w1 :=
 ⟨h.1.os,h.1.tape,h.1.output,h.1.size,fun k hk=>h.1.block k (by omega) (by intro e;rw[←e] at hb;simp at hb;omega)⟩
theorem Grew.block {w w1:World} {v v1:Value} (h:Grew w v w1 v1) {b:Nat} (hb:b<w.heap.size) (hn:v.ownBlock≠some b):w1.heap[b]?=w.heap[b]?:=h.1.block b hb (fun e=>hn e.symm)
theorem Buf.snoc {base:Nat} {w wr w':World} {v0 v v':Value} {bs:List UInt8} (c:UInt8) (o:Obj) (hb:Grew w v0 wr v)
  {n:Nat} (hl:n=bs.length) (h:w'.ownsRow base 5 1 v' (n+1) (u8s bs++[.int .u8 c.toNat])) (hg:(wr.alloc o).grownBy w' v.ownBlock) (hat:v'.ownBlock=v.ownBlock∨v'.ownBlock=some (wr.heap.size+1)) :
  Buf base w' v' (bs++[c])∧Grew w v0 w' v':=by
 subst hl
 refine⟨by unfold Buf;simpa [u8s] using h,(hb.alloc o).trans ⟨hg,?_⟩⟩
 rcases hat with hat|hat
 ·exact .inl hat
 ·exact .inr ⟨_,hat,by rw[Deep.nblk_alloc];exact leR _⟩
theorem Buf.own {base:Nat} {w:World} {v:Value} {bs:List UInt8} (h:Buf base w v bs):base≤v.ownBlock.getD base:=by
 obtain⟨_,⟨rfl,_⟩|⟨g,cap,cur,rfl,hg,_⟩⟩:=h
 ·simp[Value.ownBlock]
 ·simpa [Value.ownBlock] using hg
theorem new_cell (w:World) (x:Value) (t:TypeId):∀(j:Nat) (u:Value),[x][j]?=some u→(w.alloc (.cells #[x] t)).cell? ((⟨w.heap.size,0,none⟩:Addr).add j)=some u:=by
 intro j u hj
 cases j with
 | zero =>
  simp at hj
  subst hj
  simp[Addr.add]
 | succ j=>simp at hj
theorem one_u8 (n:Int):∀u∈[Value.int .u8 n],u.oneCell'=true:=by
 intro u hu
 simp at hu
 subst hu
 rfl
theorem take_snoc (s:ByteArray) (k:Nat) (h:k<s.size):s.data.toList.take (k+1)=s.data.toList.take k++[s[k]]:=by
 rw[List.take_succ_eq_append_getElem (by simpa using h)];rfl
set_option maxRecDepth 100000 in
set_option maxHeartbeats 400000 in
theorem put_any (base:Nat) (bs:List UInt8) (s:ByteArray) (v:Value) (w:World) (hown:Buf base w v bs) (hbase:base≤w.heap.size) (hl:bs.length+s.size≤70368744177664) :
  Calls Tryz.prog 32 #[v,.string s] w fun e w'=>∃u,e=.returned u∧Buf base w' u (bs++s.data.toList)∧Grew w v w' u:=by
 obtain⟨i0,hi,hz0,hz1,hz2⟩:=u8_facts
 go_enter Tryz.func32,Tryz.ntmps32
 go_wp2
 go_loopw [0,5] (fun v1 i wr=>∃k:Nat,k≤s.size∧i=.int .i64 k∧Buf base wr v1 (bs++s.data.toList.take k)∧Grew w v wr v1) (fun _ i _=>s.size - (intOf i).toNat)
 case atStart=>exact⟨0,zrL _,rfl,by simpa using hown,Grew.refl _ _⟩
 case round =>
  obtain⟨k,hk,rfl,hbuf,hb⟩:=hrel
  by_cases hlt:k<s.size
  ·have HT:=hide (take_snoc s k hlt)
   have hlen:(bs++s.data.toList.take k).length≤bs.length+k:=by simp;omega
   have hz:base≤wr.heap.size:=Nat.le_trans hbase hb.1.size
   go_wp2_with (first
    | (at_builtin;refine wpList_append_own_at _ rfl _ _ 22 rfl base 5 i0 (.int .u8 0) 1 1 Tryz.underlying22 hi hz0 hz1 hz2 rfl (by decide) _ _ _ rfl (World.ownsRow.alloc hbuf _) ⟨wr.heap.size,0,none⟩ 1 1 [.int .u8 s[k].toNat] rfl rfl ?c1 ?c2 ?c3 ?c4 ?c5 ?_)
    | go_in)
   case c1=>exact new_cell _ _ _
   case c2=>exact one_u8 _
   case c3=>unfold maxLen;omega
   case c4=>omega
   case c5=>simp;omega
   ·intro v' w' hown' hgrow hnil hat
    have R:=Buf.snoc (bs:=bs++s.data.toList.take k) s[k] _ hb (by simp;omega) hown' hgrow hat
    clear hown' hgrow hnil hat hbuf hb
    go_wp2
    go_roundw
    case rel=>exact⟨k+1,by omega,by go_num,by rw[HT.out,←List.append_assoc];exact R.1,R.2⟩
    case measure=>simp[intOf];omega
  ·go_wp2
   go_ret
   exact⟨_,rfl,by rw[List.take_of_length_le (by simp;omega)] at hbuf;exact hbuf,hb⟩
theorem bytes_ext {a b:ByteArray} (h:a.data.toList=b.data.toList):a=b:=by
 cases a;cases b
 simp only[ByteArray.mk.injEq]
 exact Array.toList_inj.1 h
def OAt {α:Type} (n:Nat) (R:World→Nat→Nat→α→List Nat→Prop) (w:World) (v:Value) (xs:List α) (bs:List Nat):Prop :=
 xs.length≤9223372036854775807∧((∃a cap,v=.slice a 0 cap∧xs=[]∧bs=[]) ∨
  ∃(b off cap:Nat) (bss:List (List Nat)),v=.slice (some ⟨b,off,none⟩) xs.length cap∧b<w.heap.size∧bs=b :: bss.flatten∧bss.length=xs.length ∧
   ∀i (h:i<xs.length) (h2:i<bss.length),R w b (off+i * n) xs[i] bss[i])
def StrO (w:World) (b off:Nat) (x:ByteArray) (bs:List Nat):Prop:=w.cell? ⟨b,off,none⟩=some (.string x)∧w.frozen? ⟨b,off,none⟩=false∧x.size≤9223372036854775807∧bs=[]
def OStrs:World→Value→List ByteArray→List Nat→Prop:=OAt 1 StrO
structure Only (bs:List Nat) (w w':World):Prop where
 os:w'.os=w.os
 tape:w'.tape=w.tape
 output:w'.output=w.output
 size:w.heap.size≤w'.heap.size
 block:∀b,b<w.heap.size→b ∉ bs→w'.heap[b]?=w.heap[b]?
theorem Only.refl (bs:List Nat) (w:World):Only bs w w:=⟨rfl,rfl,rfl,leR _,fun _ _ _=>rfl⟩
theorem Only.trans {bs:List Nat} {a b c:World} (h:Only bs a b) (k:Only bs b c):Only bs a c :=
 ⟨k.os.trans h.os,k.tape.trans h.tape,k.output.trans h.output,Nat.le_trans h.size k.size,fun x h1 h2=>(k.block x (Nat.lt_of_lt_of_le h1 h.size) h2).trans (h.block x h1 h2)⟩
theorem Only.of_below {bs:List Nat} {w w':World} (h:Below w.heap.size w w'):Only bs w w':=⟨h.os,h.tape,h.output,h.size,fun b h1 _=>h.block b h1⟩
theorem Only.below {bs:List Nat} {w w':World} {B:Nat} (h:Only bs w w') (hB:B≤w.heap.size) (hb:∀b∈bs,B≤b):Below B w w' :=
 ⟨h.os,h.tape,h.output,h.size,fun k hk=>h.block k (by omega) fun hm=>by have:=hb k hm;omega⟩
def KeptO {α:Type} (R:World→Nat→Nat→α→List Nat→Prop):Prop:=∀w w' b off x bs,R w b off x bs→w'.heap[b]?=w.heap[b]?→w.heap.size≤w'.heap.size→(∀c∈bs,w'.heap[c]?=w.heap[c]?)→R w' b off x bs
def LtO {α:Type} (R:World→Nat→Nat→α→List Nat→Prop):Prop:=∀w b off x bs,R w b off x bs→∀c∈bs,c<w.heap.size
theorem OAt.kept {α:Type} {n:Nat} {R:World→Nat→Nat→α→List Nat→Prop} (K:KeptO R) {w w':World} {v:Value} {xs:List α} {bs:List Nat} (h:OAt n R w v xs bs) (hs:w.heap.size≤w'.heap.size) (hb:∀c∈bs,w'.heap[c]?=w.heap[c]?):OAt n R w' v xs bs:=by
 obtain⟨hl,h⟩:=h
 refine⟨hl,?_⟩
 rcases h with h|⟨b,off,cap,bss,rfl,hlt,rfl,hlen,h⟩
 ·exact .inl h
 ·exact .inr ⟨b,off,cap,bss,rfl,Nat.lt_of_lt_of_le hlt hs,rfl,hlen,fun i hi h2=>K _ _ _ _ _ _ (h i hi h2) (hb b (by simp)) hs fun c hc=>hb c (by
   simp only[List.mem_cons,List.mem_flatten]
   exact .inr ⟨bss[i],List.getElem_mem h2,hc⟩)⟩
theorem OAt.lt {α:Type} {n:Nat} {R:World→Nat→Nat→α→List Nat→Prop} (L:LtO R) {w:World} {v:Value} {xs:List α} {bs:List Nat} (h:OAt n R w v xs bs):∀c∈bs,c<w.heap.size:=by
 obtain⟨_,h⟩:=h
 rcases h with⟨_,_,_,_,rfl⟩|⟨b,off,cap,bss,rfl,hlt,rfl,hlen,h⟩
 ·intro c hc;simp at hc
 ·intro c hc
  simp only[List.mem_cons,List.mem_flatten] at hc
  rcases hc with rfl|⟨l,hl,hc⟩
  ·exact hlt
  ·obtain⟨i,hi,rfl⟩:=List.getElem_of_mem hl
   exact L _ _ _ _ _ (h i (by omega) hi) c hc
theorem cellSame {w w':World} {b o:Nat} (h:w'.heap[b]?=w.heap[b]?):w'.cell? ⟨b,o,none⟩=w.cell? ⟨b,o,none⟩:=World.cell?_of_block h
theorem frozenSame {w w':World} {b o:Nat} (h:w'.heap[b]?=w.heap[b]?):w'.frozen? ⟨b,o,none⟩=w.frozen? ⟨b,o,none⟩:=World.frozen?_of_block h
theorem keptO_str:KeptO StrO:=fun w w' b off x bs h hb hs _=>⟨by rw[cellSame hb];exact h.1,by rw[frozenSame hb];exact h.2.1,h.2.2⟩
theorem ltO_str:LtO StrO:=fun w b off x bs h c hc=>by rw[h.2.2.2] at hc;simp at hc
def ToAt {α:Type} (R:World→Nat→Nat→α→List Nat→Prop) (S:Nat→World→Nat→Nat→α→Prop):Prop:=∀lo w b off x bs,R w b off x bs→(∀c∈bs,lo≤c)→S lo w b off x
theorem OAt.toAt {α:Type} {n:Nat} {R:World→Nat→Nat→α→List Nat→Prop} {S:Nat→World→Nat→Nat→α→Prop} (T:ToAt R S) {w:World} {v:Value} {xs:List α} {bs:List Nat} (h:OAt n R w v xs bs) {lo:Nat} (hlo:∀c∈bs,lo≤c):At n S lo w v xs:=by
 obtain⟨hl,h⟩:=h
 refine⟨hl,?_⟩
 rcases h with⟨a,cap,rfl,rfl,rfl⟩|⟨b,off,cap,bss,rfl,hlt,rfl,hlen,h⟩
 ·exact .inl ⟨a,cap,rfl,rfl⟩
 ·exact .inr ⟨b,off,cap,rfl,⟨hlo b (by simp),hlt⟩,fun i hi=>T _ _ _ _ _ _ (h i hi (by omega)) fun c hc=>hlo c (by
   simp only[List.mem_cons,List.mem_flatten]
   exact .inr ⟨bss[i],List.getElem_mem (by omega),hc⟩)⟩
theorem toAt_str:ToAt StrO StrR:=fun lo w b off x bs h _=>⟨h.1,h.2.2.1⟩
theorem append_str {P:Program} (w:World) (base:Nat) (t u ty e:TypeId) (i:TypeInfo) (ht:P.underlying t=some (.slice e)) (hu:P.underlying u=some .string) (hi:P.info? e=some i) (hz:i.zero=some (.int .u8 0))
  (hsize:i.size=1) (hby:i.bytes=1) (v:Value) (n:Nat) (xs:List Value) (hown:w.ownsRow base e 1 v n xs) (s:ByteArray)
  (h63:n+s.size≤maxLen) (hbytes:n+s.size≤140737488355328) (hbase:base≤w.heap.size) :
  ∃v' w',(Builtin.append_ #[t,u] ty #[v,.string s]).run P w=.ok v' w'∧w'.ownsRow base e 1 v' (n+s.size) (xs++Lib.strCells s)∧w.grownBy w' v.ownBlock ∧
   (v'.ownBlock=v.ownBlock∨v'.ownBlock=some w.heap.size):=by
 obtain⟨v',w',hr,h2,h3,h4⟩:=Lib.run_append_own_string (P:=P) w base t u ty e i ht hu hi hz hsize hby v n xs hown s h63 hbytes hbase
 refine⟨v',w',hr,h2,h3,?_⟩
 have hsmall:n+s.size≤9223372036854775807:=by simp only[maxLen] at h63;omega
 have hxl:xs.length=n:=by simpa using hown.1
 rcases hown.2 with⟨rfl,rfl⟩|⟨g,cap,cur,rfl,hbg,hg,hnc,hcm,hcs,htake⟩
 ·by_cases hm:s.size=0
  ·rw[h4.2 ⟨rfl,hm⟩];exact .inl rfl
  ·have hr2:=run_append_nil_string (P:=P) w t u ty e i (.int .u8 0) ht hu hi hz s (by omega) (by omega) (by rw[hby];omega)
   rw[hr2] at hr
   injection hr with hv hw
   rw[←hv];exact .inr rfl
 ·by_cases hroom:n+s.size≤cap
  ·have hcs':cur.size=cap:=by simpa using hcs
   have hr2:=Lib.run_append_room_string (P:=P) w t u ty e i ht hu hi hsize g n cap cur hg s hroom (by omega)
   rw[hr2] at hr
   injection hr with hv hw
   rw[←hv];exact .inl rfl
  ·have holds:∀j u,xs[j]?=some u→w.cell? ((⟨g,0,none⟩:Addr).add j)=some u:=hown.cells (g:=g) rfl
   have hr2:=Lib.run_append_grow_string (P:=P) w t u ty e i (.int .u8 0) ht hu hi hz ⟨g,0,none⟩ n cap xs (by rw[hsize];simpa using hxl) holds s (by omega) (by omega) (by rw[hby];exact growslice_fits (by omega) (by omega))
   rw[hr2] at hr
   injection hr with hv hw
   rw[←hv];exact .inr rfl
theorem wpList_str {P:Program} (w:World) {ops:Array Oper} {rest:List Oper} {o:Oper} {a:Act} {Q:Exit→Act→World→Prop} (hgd:o.guard=none) (sl x:Operand) (t u:TypeId)
  (ho:o.op=.call { callee:=.builtin .append,args:=#[sl,x],argTypes:=#[t,u] })
  (base:Nat) (e:TypeId) (i:TypeInfo) (ht:P.underlying t=some (.slice e)) (hu:P.underlying u=some .string) (hi:P.info? e=some i) (hz:i.zero=some (.int .u8 0))
  (hsize:i.size=1) (hby:i.bytes=1)
  (v:Value) (n:Nat) (xs:List Value) (hs:a.eval sl=v) (hown:w.ownsRow base e 1 v n xs) (s:ByteArray) (hx:a.eval x=.string s)
  (h63:n+s.size≤maxLen) (hbytes:n+s.size≤140737488355328) (hbase:base≤w.heap.size)
  (h:∀v' w',w'.ownsRow base e 1 v' (n+s.size) (xs++Lib.strCells s)→w.grownBy w' v.ownBlock→(v'.ownBlock=v.ownBlock∨v'.ownBlock=some w.heap.size)→wpList P ops Q rest (a.put o.dst v') w') :
  wpList P ops Q (o :: rest) a w:=by
 refine wpList_plain hgd fun K hK=>?_
 obtain⟨v',w',hr,h2,h3,h5⟩:=append_str (P:=P) w base t u o.type e i ht hu hi hz hsize hby v n xs hown s h63 hbytes hbase
 unfold Oper.wp execOp
 simp only[ho,resolve,invoke,builtin,Sem.run_bind,Sem.run_pure,Result.andThen_ok,List.map_toArray,List.map_cons,List.map_nil,hs,hx,hr]
 exact hK _ _ (h v' w' h2 h3 h5)
theorem Buf.text {base:Nat} {w wr w':World} {v0 v v':Value} {bs:List UInt8} (s:ByteArray) (hb:Grew w v0 wr v)
  {n:Nat} (hl:n=bs.length) (h:w'.ownsRow base 5 1 v' (n+s.size) (u8s bs++Lib.strCells s)) (hg:wr.grownBy w' v.ownBlock) (hat:v'.ownBlock=v.ownBlock∨v'.ownBlock=some wr.heap.size) :
  Buf base w' v' (bs++s.data.toList)∧Grew w v0 w' v':=by
 subst hl
 refine⟨?_,hb.trans ⟨hg,?_⟩⟩
 ·unfold Buf
  have h1:(bs++s.data.toList).length=bs.length+s.size:=by simp
  have h2:u8s (bs++s.data.toList)=u8s bs++Lib.strCells s:=by simp[u8s,Lib.strCells]
  rw[h1,h2]
  exact h
 ·rcases hat with hat|hat
  ·exact .inl hat
  ·exact .inr ⟨_,hat,leR _⟩
theorem Buf.form {base:Nat} {w:World} {v:Value} {bs:List UInt8} (h:Buf base w v bs):∃a c,v=.slice a bs.length c∧bs.length≤c∧c≤9223372036854775807:=by
 obtain⟨_,⟨rfl,h0⟩|⟨g,cap,cur,rfl,hg,_,hc,hm,_⟩⟩:=h
 ·exact⟨none,0,by rw[h0],by omega,by omega⟩
 ·exact⟨_,_,rfl,hc,by unfold maxLen at hm;omega⟩
theorem Buf.cells {base:Nat} {w:World} {v:Value} {bs:List UInt8} (h:Buf base w v bs) (h0:0<bs.length) :
  ∃g c,v=.slice (some ⟨g,0,none⟩) bs.length c∧bs.length≤c∧c≤9223372036854775807∧base≤g∧g<w.heap.size∧∀j,j<bs.length→w.cell? ⟨g,j,none⟩=some (.int .u8 ((bs.getD j 0).toNat:Int)):=by
 have h':=h
 obtain⟨_,⟨rfl,h1⟩|⟨g,cap,cur,rfl,hg,hh,hc,hm,_⟩⟩:=h
 ·omega
 ·refine⟨g,cap,rfl,hc,by unfold maxLen at hm;omega,hg,by rw[Array.getElem?_eq_some_iff] at hh;exact hh.1,fun j hj=>?_⟩
  have:=World.ownsRow.cellAt h' j (by omega)
  rw[this]
  simp[u8s,hj,List.getD_eq_getElem?_getD]
theorem Buf.keep {base:Nat} {w w':World} {v:Value} {bs:List UInt8} (h:Buf base w v bs) (hb:Below w.heap.size w w'):Buf base w' v bs:=by
 unfold Buf at *
 obtain⟨h0,⟨rfl,h1⟩|⟨g,cap,cur,rfl,hg,hh,rest⟩⟩:=h
 ·exact⟨h0,.inl ⟨rfl,h1⟩⟩
 ·exact⟨h0,.inr ⟨g,cap,cur,rfl,hg,by rw[hb.block g (by rw[Array.getElem?_eq_some_iff] at hh;exact hh.1)];exact hh,rest⟩⟩
theorem Buf.empty_lit (w:World):Buf w.heap.size (w.alloc (Obj.cells #[] 5)) (.slice (some ⟨w.heap.size,0,none⟩) 0 0) [] :=
 World.ownsRow_lit w #[] 0 (leR _) (by unfold maxLen;omega) rfl
theorem Buf.more {base:Nat} {w w':World} {v v':Value} {bs:List UInt8} {c:UInt8} {o:Obj} (hv:Buf base w v bs) (hbase:base≤w.heap.size) {n:Nat} (hl:n=bs.length) (h:w'.ownsRow base 5 1 v' (n+1) (u8s bs++[.int .u8 c.toNat])) (hg:(w.alloc o).grownBy w' v.ownBlock) :
  Buf base w' v' (bs++[c])∧Below base w w':=by
 subst hl
 refine⟨by unfold Buf;simpa [u8s] using h,((Below.refl base w).alloc hbase o).trans ⟨hg.os,hg.tape,hg.output,hg.size,fun k hk=>hg.block k (by rw[Deep.nblk_alloc];omega) ?_⟩⟩
 have:=hv.own
 intro e
 rw[←e] at this
 simp at this
 omega
theorem Buf.string {base:Nat} {w:World} {v:Value} {bs:List UInt8} (h:Buf base w v bs):Sem.run Tryz.prog (convert 22 9 v) w=.ok (.string ⟨bs.toArray⟩) w:=by
 by_cases h0:0<bs.length
 ·obtain⟨g,c,rfl,_,_,_,_,hc⟩:=h.cells h0
  rw[run_convert_bytes_arg w 22 5 Tryz.underlying22 Tryz.underlying5 g 0 bs.length c (bs.map fun c=>(c.toNat:Int)) (by simp) ?_ 9 Tryz.underlying9]
  ·congr 2
   unfold strOfNums
   congr 2
   rw[List.map_map]
   conv=>rhs;rw[←List.map_id bs]
   apply List.map_congr_left
   intro c _
   simp
  ·intro i hi
   have hi':i<bs.length:=by simpa using hi
   rw[Nat.zero_add,hc i hi']
   simp[hi',List.getD_eq_getElem?_getD]
 ·obtain rfl:bs=[]:=List.length_eq_zero_iff.1 (by omega)
  obtain⟨_,⟨rfl,h1⟩|⟨g,cap,cur,rfl,hg,hh,hc,hm,_⟩⟩:=h
  ·rw[run_convert_bytes_nil w 22 5 Tryz.underlying22 Tryz.underlying5 0 0 9 Tryz.underlying9]
   rfl
  ·rw[run_convert_bytes_arg w 22 5 Tryz.underlying22 Tryz.underlying5 g 0 ([]:List UInt8).length cap [] rfl (fun i hi=>absurd hi (by simp)) 9 Tryz.underlying9]
   rfl
end Go.Proofs.YtglcdcekkglmiaaGreatDoor.Msg
