import Derived.Test.YtfdihjnlgdiioaaGreatDoorRows
import Derived.WalkKit
import Derived.ProofKit
import Derived.OpenShut
import Derived.Below
import Derived.Laws.BytesArg
import Derived.Laws.AppendOwn
import Derived.Deep.QuietTactic
import Derived.BigQuiet
import Derived.Deep.RegionHeld3
import Derived.Deep.OwnRows
import Derived.Deep.Heap
import Derived.ShutString
import Derived.Lib.Strings
import Derived.Lib.Walk
import Derived.Lib.Bytealg
import Derived.OwnWalk
import Derived.Maps.AppendAt
namespace Go.Proofs.YtfdihjnlgdiioaaGreatDoor.dB
open Go.ChangeShapes Go.WideShapes Go.ChangeAt Go.RowKit
theorem aO (w:World) (o:Obj):Below w.heap.size w (w.alloc o):=(Below.refl _ _).alloc (Nat.le_refl _) _
theorem aS (n:Nat):n≤n:=Nat.le_refl n
theorem eH (n:Nat):0≤n:=Nat.zero_le n
theorem hide {p:Prop} (h:p):Hid p:=h
theorem jh {k:IntKind} {a b:Int} (h:a=b):Ending.returned (.int k a)=.returned (.int k b):=by rw[h]
theorem aA {a b:Bool} (h:a=b):Ending.returned (.bool a)=.returned (.bool b):=by rw[h]
theorem bF {a b:ByteArray} (h:a=b):Ending.returned (.string a)=.returned (.string b):=by rw[h]
abbrev lW:=List ByteArray
abbrev Field:=List lW
structure Seg where
 name:ByteArray
 fields:List Field
def At {α:Type} (n:Nat) (R:Nat→World→Nat→Nat→α→Prop) (lo:Nat) (w:World) (v:Value) (xs:List α):Prop :=
 xs.length≤9223372036854775807∧((∃a cap,v=.slice a 0 cap∧xs=[]) ∨
  ∃b off cap,v=.slice (some ⟨b,off,none⟩) xs.length cap∧(lo≤b∧b<w.heap.size)∧∀i (h:i<xs.length),R lo w b (off+i * n) xs[i])
def UF (_:Nat) (w:World) (b off:Nat) (x:ByteArray):Prop:=w.cell? ⟨b,off,none⟩=some (.string x)∧x.size≤9223372036854775807
def bq:Nat→World→Value→List ByteArray→Prop:=At 1 UF
def UG (lo:Nat) (w:World) (b off:Nat) (x:lW):Prop:=∃v,w.cell? ⟨b,off,none⟩=some v∧bq lo w v x
def gL:Nat→World→Value→List lW→Prop:=At 1 UG
def FH (lo:Nat) (w:World) (b off:Nat) (x:Field):Prop:=∃v,w.cell? ⟨b,off,none⟩=some v∧gL lo w v x
def aG:Nat→World→Value→List Field→Prop:=At 1 FH
def Qd (lo:Nat) (w:World) (b off:Nat) (x:Seg):Prop :=
 w.cell? ⟨b,off,none⟩=some (.string x.name)∧x.name.size≤9223372036854775807∧∃v,w.cell? ⟨b,off+1,none⟩=some v∧aG lo w v x.fields
def aX:Nat→World→Value→List Seg→Prop:=At 2 Qd
def Same (lo:Nat) (w w':World):Prop:=w.heap.size≤w'.heap.size∧∀b,lo≤b→b<w.heap.size→w'.heap[b]?=w.heap[b]?
theorem Same.cell {lo:Nat} {w w':World} (h:Same lo w w') {b o:Nat} (h1:lo≤b) (h2:b<w.heap.size):w'.cell? ⟨b,o,none⟩=w.cell? ⟨b,o,none⟩:=by
 have e:=h.2 b h1 h2
 simp only[World.cell?,e]
theorem Same.of_below {lo:Nat} {w w':World} (h:Below w.heap.size w w'):Same lo w w':=⟨h.size,fun b _ h2=>h.block b h2⟩
def Kept {α:Type} (R:Nat→World→Nat→Nat→α→Prop):Prop:=∀lo w w' b off x,R lo w b off x→lo≤b→b<w.heap.size→Same lo w w'→R lo w' b off x
def Qe {α:Type} (R:Nat→World→Nat→Nat→α→Prop):Prop:=∀lo lo' w b off x,R lo w b off x→lo'≤lo→R lo' w b off x
theorem At.same {α:Type} {n:Nat} {R:Nat→World→Nat→Nat→α→Prop} (K:Kept R) {lo:Nat} {w w':World} {v:Value} {xs:List α} (h:At n R lo w v xs) (hb:Same lo w w'):At n R lo w' v xs:=by
 obtain⟨hl,h⟩:=h
 refine⟨hl,?_⟩
 rcases h with h|⟨b,off,cap,rfl,hlt,h⟩
 ·exact .inl h
 ·exact .inr ⟨b,off,cap,rfl,⟨hlt.1,Nat.lt_of_lt_of_le hlt.2 hb.1⟩,fun i hi=>K _ _ _ _ _ _ (h i hi) hlt.1 hlt.2 hb⟩
theorem At.kept {α:Type} {n:Nat} {R:Nat→World→Nat→Nat→α→Prop} (K:Kept R) {lo:Nat} {w w':World} {v:Value} {xs:List α} (h:At n R lo w v xs) (hb:Below w.heap.size w w'):At n R lo w' v xs :=
 At.same K h (Same.of_below hb)
theorem At.mono {α:Type} {n:Nat} {R:Nat→World→Nat→Nat→α→Prop} (K:Qe R) {lo lo':Nat} {w:World} {v:Value} {xs:List α} (h:At n R lo w v xs) (hl:lo'≤lo):At n R lo' w v xs:=by
 obtain⟨hs,h⟩:=h
 refine⟨hs,?_⟩
 rcases h with h|⟨b,off,cap,rfl,hlt,h⟩
 ·exact .inl h
 ·exact .inr ⟨b,off,cap,rfl,⟨Nat.le_trans hl hlt.1,hlt.2⟩,fun i hi=>K _ _ _ _ _ _ (h i hi) hl⟩
theorem bE:Kept UF:=fun lo w w' b off x h h1 h2 hb=>⟨by rw[hb.cell h1 h2];exact h.1,h.2⟩
theorem iQ:Kept UG:=fun lo w w' b off x h h1 h2 hb=>by
 obtain⟨v,g1,g2⟩:=h
 exact⟨v,by rw[hb.cell h1 h2];exact g1,At.same bE g2 hb⟩
theorem aP:Kept FH:=fun lo w w' b off x h h1 h2 hb=>by
 obtain⟨v,g1,g2⟩:=h
 exact⟨v,by rw[hb.cell h1 h2];exact g1,At.same iQ g2 hb⟩
theorem bA:Kept Qd:=fun lo w w' b off x h h1 h2 hb=>by
 obtain⟨g0,hs,v,g1,g2⟩:=h
 exact⟨by rw[hb.cell h1 h2];exact g0,hs,v,by rw[hb.cell h1 h2];exact g1,At.same aP g2 hb⟩
theorem xq:Qe UF:=fun _ _ _ _ _ _ h _=>h
theorem Ho:Qe UG:=fun _ _ _ _ _ _ h hl=>let ⟨v,g1,g2⟩:=h;⟨v,g1,At.mono xq g2 hl⟩
theorem wB:Qe FH:=fun _ _ _ _ _ _ h hl=>let ⟨v,g1,g2⟩:=h;⟨v,g1,At.mono Ho g2 hl⟩
theorem qy:Qe Qd:=fun _ _ _ _ _ _ h hl=>let ⟨g0,hs,v,g1,g2⟩:=h;⟨g0,hs,v,g1,At.mono wB g2 hl⟩
def sumOf {α:Type} (f:α→Nat) (xs:List α):Nat:=(xs.map f).sum
def aH {α:Type} (f:α→Nat) (xs:List α):Nat:=xs.length+sumOf f xs
def pU (x:ByteArray):Nat:=x.size
def iw (x:lW):Nat:=aH pU x
def aF (x:Field):Nat:=aH iw x
def bB (x:Seg):Nat:=x.name.size+aH aF x.fields
def aT (x:List Seg):Nat:=aH bB x
def rest (left:Int) (n:Nat):Int:=if (n:Int)≤left then left - n else -1
theorem Hq {α:Type} (f:α→Nat) (xs:List α) (k:Nat) (h:k<xs.length):sumOf f (xs.take (k+1))=sumOf f (xs.take k)+f xs[k]:=by
 unfold sumOf
 rw[List.take_succ_eq_append_getElem h,List.map_append,List.sum_append]
 simp
theorem FI {α:Type} (f:α→Nat) (xs:List α) (k:Nat):sumOf f (xs.take k)≤sumOf f xs:=by
 unfold sumOf
 conv=>rhs;rw[←List.take_append_drop k xs]
 rw[List.map_append,List.sum_append]
 omega
end Go.Proofs.YtfdihjnlgdiioaaGreatDoor.dB
namespace Go.Proofs.YtfdihjnlgdiioaaGreatDoor.dB
open Go.ChangeShapes Go.WideShapes Go.ChangeAt Go.RowKit
set_option linter.unusedVariables false
set_option linter.unusedSimpArgs false
def bS {α:Type} (n:Nat) (R:World→Nat→Nat→α→List Nat→Prop) (w:World) (v:Value) (xs:List α) (bs:List Nat):Prop :=
 xs.length≤9223372036854775807∧((∃a cap,v=.slice a 0 cap∧xs=[]∧bs=[]) ∨
  ∃(b off cap:Nat) (bss:List (List Nat)),v=.slice (some ⟨b,off,none⟩) xs.length cap∧b<w.heap.size∧bs=b :: bss.flatten∧bss.length=xs.length ∧
   ∀i (h:i<xs.length) (h2:i<bss.length),R w b (off+i * n) xs[i] bss[i])
def UH (w:World) (b off:Nat) (x:ByteArray) (bs:List Nat):Prop:=w.cell? ⟨b,off,none⟩=some (.string x)∧w.frozen? ⟨b,off,none⟩=false∧x.size≤9223372036854775807∧bs=[]
def fV:World→Value→List ByteArray→List Nat→Prop:=bS 1 UH
def Km (w:World) (b off:Nat) (x:lW) (bs:List Nat):Prop:=∃v,w.cell? ⟨b,off,none⟩=some v∧fV w v x bs
def bP:World→Value→List lW→List Nat→Prop:=bS 1 Km
def qZ (w:World) (b off:Nat) (x:Field) (bs:List Nat):Prop:=∃v,w.cell? ⟨b,off,none⟩=some v∧bP w v x bs
def aN:World→Value→List Field→List Nat→Prop:=bS 1 qZ
def UJ (w:World) (b off:Nat) (x:Seg) (bs:List Nat):Prop :=
 w.cell? ⟨b,off,none⟩=some (.string x.name)∧w.frozen? ⟨b,off,none⟩=false∧x.name.size≤9223372036854775807∧∃v,w.cell? ⟨b,off+1,none⟩=some v∧aN w v x.fields bs
def pV:World→Value→List Seg→List Nat→Prop:=bS 2 UJ
structure Only (bs:List Nat) (w w':World):Prop where
 os:w'.os=w.os
 tape:w'.tape=w.tape
 output:w'.output=w.output
 size:w.heap.size≤w'.heap.size
 block:∀b,b<w.heap.size→b ∉ bs→w'.heap[b]?=w.heap[b]?
theorem Only.refl (bs:List Nat) (w:World):Only bs w w:=⟨rfl,rfl,rfl,aS _,fun _ _ _=>rfl⟩
theorem Only.trans {bs:List Nat} {a b c:World} (h:Only bs a b) (k:Only bs b c):Only bs a c :=
 ⟨k.os.trans h.os,k.tape.trans h.tape,k.output.trans h.output,Nat.le_trans h.size k.size,fun x h1 h2=>(k.block x (Nat.lt_of_lt_of_le h1 h.size) h2).trans (h.block x h1 h2)⟩
theorem Only.mono {bs cs:List Nat} {w w':World} (h:Only bs w w') (hs:∀b∈bs,b∈cs):Only cs w w':=⟨h.os,h.tape,h.output,h.size,fun b h1 h2=>h.block b h1 fun hb=>h2 (hs b hb)⟩
theorem Only.of_below {bs:List Nat} {w w':World} (h:Below w.heap.size w w'):Only bs w w':=⟨h.os,h.tape,h.output,h.size,fun b h1 _=>h.block b h1⟩
theorem Only.below {bs:List Nat} {w w':World} {B:Nat} (h:Only bs w w') (hB:B≤w.heap.size) (hb:∀b∈bs,B≤b):Below B w w' :=
 ⟨h.os,h.tape,h.output,h.size,fun k hk=>h.block k (by omega) fun hm=>by have:=hb k hm;omega⟩
def Es {α:Type} (R:World→Nat→Nat→α→List Nat→Prop):Prop:=∀w w' b off x bs,R w b off x bs→w'.heap[b]?=w.heap[b]?→w.heap.size≤w'.heap.size→(∀c∈bs,w'.heap[c]?=w.heap[c]?)→R w' b off x bs
def LtO {α:Type} (R:World→Nat→Nat→α→List Nat→Prop):Prop:=∀w b off x bs,R w b off x bs→∀c∈bs,c<w.heap.size
theorem bS.kept {α:Type} {n:Nat} {R:World→Nat→Nat→α→List Nat→Prop} (K:Es R) {w w':World} {v:Value} {xs:List α} {bs:List Nat} (h:bS n R w v xs bs) (hs:w.heap.size≤w'.heap.size) (hb:∀c∈bs,w'.heap[c]?=w.heap[c]?):bS n R w' v xs bs:=by
 obtain⟨hl,h⟩:=h
 refine⟨hl,?_⟩
 rcases h with h|⟨b,off,cap,bss,rfl,hlt,rfl,hlen,h⟩
 ·exact .inl h
 ·exact .inr ⟨b,off,cap,bss,rfl,Nat.lt_of_lt_of_le hlt hs,rfl,hlen,fun i hi h2=>K _ _ _ _ _ _ (h i hi h2) (hb b (by simp)) hs fun c hc=>hb c (by
   simp only[List.mem_cons,List.mem_flatten]
   exact .inr ⟨bss[i],List.getElem_mem h2,hc⟩)⟩
theorem bS.lt {α:Type} {n:Nat} {R:World→Nat→Nat→α→List Nat→Prop} (L:LtO R) {w:World} {v:Value} {xs:List α} {bs:List Nat} (h:bS n R w v xs bs):∀c∈bs,c<w.heap.size:=by
 obtain⟨_,h⟩:=h
 rcases h with⟨_,_,_,_,rfl⟩|⟨b,off,cap,bss,rfl,hlt,rfl,hlen,h⟩
 ·intro c hc;simp at hc
 ·intro c hc
  simp only[List.mem_cons,List.mem_flatten] at hc
  rcases hc with rfl|⟨l,hl,hc⟩
  ·exact hlt
  ·obtain⟨i,hi,rfl⟩:=List.getElem_of_mem hl
   exact L _ _ _ _ _ (h i (by omega) hi) c hc
theorem fZ {w w':World} {b o:Nat} (h:w'.heap[b]?=w.heap[b]?):w'.cell? ⟨b,o,none⟩=w.cell? ⟨b,o,none⟩:=World.cell?_of_block h
theorem kK {w w':World} {b o:Nat} (h:w'.heap[b]?=w.heap[b]?):w'.frozen? ⟨b,o,none⟩=w.frozen? ⟨b,o,none⟩:=World.frozen?_of_block h
theorem d9:Es UH:=fun w w' b off x bs h hb hs _=>⟨by rw[fZ hb];exact h.1,by rw[kK hb];exact h.2.1,h.2.2⟩
theorem jy:LtO UH:=fun w b off x bs h c hc=>by rw[h.2.2.2] at hc;simp at hc
theorem fD:Es Km:=fun w w' b off x bs h hb hs hc=>let ⟨v,h1,h2⟩:=h;⟨v,by rw[fZ hb];exact h1,bS.kept d9 h2 hs hc⟩
theorem dJ:LtO Km:=fun w b off x bs h=>let ⟨v,h1,h2⟩:=h;bS.lt jy h2
theorem bQ:Es qZ:=fun w w' b off x bs h hb hs hc=>let ⟨v,h1,h2⟩:=h;⟨v,by rw[fZ hb];exact h1,bS.kept fD h2 hs hc⟩
theorem dD:LtO qZ:=fun w b off x bs h=>let ⟨v,h1,h2⟩:=h;bS.lt dJ h2
theorem iR:Es UJ:=fun w w' b off x bs h hb hs hc=>let ⟨h0,hf,hz,v,h1,h2⟩:=h;⟨by rw[fZ hb];exact h0,by rw[kK hb];exact hf,hz,v,by rw[fZ hb];exact h1,bS.kept bQ h2 hs hc⟩
theorem MF:LtO UJ:=fun w b off x bs h=>let ⟨h0,hf,hz,v,h1,h2⟩:=h;bS.lt dD h2
def Qf {α:Type} (R:World→Nat→Nat→α→List Nat→Prop) (S:Nat→World→Nat→Nat→α→Prop):Prop:=∀lo w b off x bs,R w b off x bs→(∀c∈bs,lo≤c)→S lo w b off x
theorem bS.pO {α:Type} {n:Nat} {R:World→Nat→Nat→α→List Nat→Prop} {S:Nat→World→Nat→Nat→α→Prop} (T:Qf R S) {w:World} {v:Value} {xs:List α} {bs:List Nat} (h:bS n R w v xs bs) {lo:Nat} (hlo:∀c∈bs,lo≤c):At n S lo w v xs:=by
 obtain⟨hl,h⟩:=h
 refine⟨hl,?_⟩
 rcases h with⟨a,cap,rfl,rfl,rfl⟩|⟨b,off,cap,bss,rfl,hlt,rfl,hlen,h⟩
 ·exact .inl ⟨a,cap,rfl,rfl⟩
 ·exact .inr ⟨b,off,cap,rfl,⟨hlo b (by simp),hlt⟩,fun i hi=>T _ _ _ _ _ _ (h i hi (by omega)) fun c hc=>hlo c (by
   simp only[List.mem_cons,List.mem_flatten]
   exact .inr ⟨bss[i],List.getElem_mem (by omega),hc⟩)⟩
theorem xu:Qf UH UF:=fun lo w b off x bs h _=>⟨h.1,h.2.2.1⟩
theorem oC:Qf Km UG:=fun lo w b off x bs h hlo=>let ⟨v,h1,h2⟩:=h;⟨v,h1,bS.pO xu h2 hlo⟩
theorem mG:Qf qZ FH:=fun lo w b off x bs h hlo=>let ⟨v,h1,h2⟩:=h;⟨v,h1,bS.pO oC h2 hlo⟩
theorem sW:Qf UJ Qd:=fun lo w b off x bs h hlo=>let ⟨h0,hf,hz,v,h1,h2⟩:=h;⟨h0,hz,v,h1,bS.pO mG h2 hlo⟩
def flat {α:Type} (C:α→List Value) (xs:List α):List Value:=(xs.map C).flatten
theorem Et {α:Type} (C:α→List Value) (xs:List α) (x:α):flat C (xs++[x])=flat C xs++C x:=by simp[flat]
theorem flat_get {α:Type} {C:α→List Value} {c:Nat} (hC:∀x,(C x).length=c):∀(xs:List α) (i j:Nat) (hi:i<xs.length) (hj:j<c),(flat C xs)[i * c+j]?=some ((C xs[i])[j]'(by rw[hC];exact hj))
 | x :: xs,0,j,_,hj=>by
  simp only[flat,List.map_cons,List.flatten_cons,Nat.zero_mul,Nat.zero_add,List.getElem_cons_zero]
  rw[List.getElem?_append_left (by rw[hC];exact hj),List.getElem?_eq_getElem (by rw[hC];exact hj)]
 | x :: xs,i+1,j,hi,hj=>by
  have:=flat_get hC xs i j (by simpa using hi) hj
  simp only[flat,List.map_cons,List.flatten_cons,List.getElem_cons_succ] at this ⊢
  rw[List.getElem?_append_right (by rw[hC,Nat.add_mul];omega),hC,show (i+1) * c+j - c=i * c+j by rw[Nat.add_mul];omega]
  exact this
def FR {α:Type} (C:α→List Value) (Z:α→Prop) (_:Nat) (w:World) (b off:Nat) (x:α):Prop :=
 (∀j (h:j<(C x).length),w.cell? ⟨b,off+j,none⟩=some (C x)[j])∧Z x
def ad8 (w:World) (v:Value) (n c:Nat) (f:Nat→Value) (bs:List Nat):Prop :=
 n≤9223372036854775807∧((∃a cap,v=.slice a 0 cap∧n=0∧bs=[]) ∨
  ∃b off cap,v=.slice (some ⟨b,off,none⟩) n cap∧b<w.heap.size∧bs=[b]∧∀i,i<n * c→w.cell? ⟨b,off+i,none⟩=some (f i)∧w.frozen? ⟨b,off+i,none⟩=false)
def FO {α:Type} (C:α→List Value) (c:Nat) (w:World) (v:Value) (xs:List α) (bs:List Nat):Prop:=ad8 w v xs.length c (fun i=>(flat C xs).getD i (.int .i64 0)) bs
theorem FO.at {α:Type} {C:α→List Value} {c:Nat} {Z:α→Prop} (hC:∀x,(C x).length=c) {w:World} {v:Value} {xs:List α} {bs:List Nat} (h:FO C c w v xs bs) (hZ:∀i (h:i<xs.length),Z xs[i]) {lo:Nat} (hlo:∀b∈bs,lo≤b) :
  At c (FR C Z) lo w v xs:=by
 obtain⟨h0,h⟩:=h
 refine⟨h0,?_⟩
 rcases h with⟨a,cap,rfl,hn,_⟩|⟨b,off,cap,rfl,hlt,rfl,h⟩
 ·exact .inl ⟨a,cap,rfl,List.length_eq_zero_iff.1 hn⟩
 ·refine .inr ⟨b,off,cap,rfl,⟨hlo b (by simp),hlt⟩,fun i hi=>⟨fun j hj=>?_,hZ i hi⟩⟩
  rw[hC] at hj
  have hij:i * c+j<xs.length * c:=by
   have:(i+1) * c≤xs.length * c:=Nat.mul_le_mul_right c hi
   rw[Nat.add_mul] at this
   omega
  have:=(h (i * c+j) hij).1
  simp only[List.getD_eq_getElem?_getD] at this
  rw[flat_get hC xs i j hi hj] at this
  rw[show off+i * c+j=off+(i * c+j) from Nat.add_assoc _ _ _]
  exact this
theorem FO.Yi {α:Type} {C:α→List Value} {c:Nat} (hC:∀x,(C x).length=c) {base:Nat} {e:TypeId} {w:World} {v:Value} {xs:List α} (h:w.ownsRow base e c v xs.length (flat C xs)) (hl:xs.length≤9223372036854775807) :
  ∃bs,FO C c w v xs bs∧(∀b∈bs,base≤b∧v.ownBlock=some b)∧bs.Nodup:=by
 obtain⟨hlen,⟨rfl,h0⟩|⟨g,cap,cur,rfl,hg,hs,hcap,hm,hsz,htk⟩⟩:=h
 ·exact⟨[],⟨hl,.inl ⟨_,_,rfl,h0,rfl⟩⟩,by simp,by simp⟩
 ·have Qg:g<w.heap.size:=by rw[Array.getElem?_eq_some_iff] at hs;exact hs.1
  refine⟨[g],⟨hl,.inr ⟨g,0,cap,rfl,Qg,rfl,fun i hi=>⟨?_,?_⟩⟩⟩,by simp[Value.ownBlock,hg],by simp⟩
  ·have hu:(flat C xs)[i]?=some ((flat C xs).getD i (.int .i64 0)):=by rw[List.getD_eq_getElem?_getD,List.getElem?_eq_getElem (by omega)];rfl
   rw[←htk,List.getElem?_take,if_pos hi,htk] at hu
   simp only[World.cell?,hs,Nat.zero_add]
   rw[←Array.getElem?_toList]
   exact hu
  ·simp[World.frozen?,hs]
structure Wn where
 client:Int
 tag:ByteArray
 query:ByteArray
 pointer:ByteArray
structure Cn where
 busy:Bool
 control:ByteArray
 want:Wn
 due:Int
structure St where
 conn:Int
 control:ByteArray
 want:Wn
structure Pl where
 epoch:Int
 next:Int
 afS:List Cn
 queue:List Wn
end Go.Proofs.YtfdihjnlgdiioaaGreatDoor.dB
namespace Go.Proofs.YtfdihjnlgdiioaaGreatDoor.dB
open Go.ChangeShapes Go.WideShapes Go.ChangeAt Go.RowKit
theorem below_drewN {B:Nat} {a w:World} (h:Below B a w) (n:Nat):Below B a (w.drewN n):=by
 induction n with
 | zero=>exact h
 | succ n ih=>exact ih.drew
theorem aj {w W c:World} (h2:Below W.heap.size W c) (h1:Below w.heap.size w W):Below w.heap.size w c:=h1.trans (h2.mono h1.size)
end Go.Proofs.YtfdihjnlgdiioaaGreatDoor.dB
namespace Go.Proofs.YtfdihjnlgdiioaaGreatDoor.dB
open Go.ChangeShapes Go.WideShapes Go.ChangeAt Go.RowKit
set_option linter.unusedVariables false
set_option linter.unusedSimpArgs false
theorem At.form {α:Type} {n:Nat} {R:Nat→World→Nat→Nat→α→Prop} {lo:Nat} {w:World} {v:Value} {xs:List α} (h:At n R lo w v xs) :
  ∃a cap,v=.slice a xs.length cap∧∀k (h:k<xs.length),∃b off,a=some ⟨b,off,none⟩∧lo≤b∧b<w.heap.size∧R lo w b (off+k * n) xs[k]:=by
 obtain⟨_,h⟩:=h
 rcases h with⟨a,cap,rfl,rfl⟩|⟨b,off,cap,rfl,hb,h⟩
 ·exact⟨a,cap,rfl,fun k hk=>absurd hk (by simp)⟩
 ·exact⟨_,cap,rfl,fun k hk=>⟨b,off,rfl,hb.1,hb.2,h k hk⟩⟩
theorem lq:(Tryz.prog.info? 9).map (fun i=>(i.zero,i.size,i.bytes))=some (some (.string ByteArray.empty),1,16):=by kernel_rfl
theorem Only.setCell {bs:List Nat} {w w1:World} (h:Only bs w w1) {b o:Nat} (hb:b∈bs) (v:Value):Only bs w (w1.setCell ⟨b,o,none⟩ v) :=
 ⟨h.os,h.tape,h.output,by rw[Deep.nblk_setCell];exact h.size,fun k h1 h2=>by rw[Deep.blk_setCell_other _ _ _ _ (fun e=>h2 (by rw[e];exact hb))];exact h.block k h1 h2⟩
end Go.Proofs.YtfdihjnlgdiioaaGreatDoor.dB
namespace Go.Proofs.YtfdihjnlgdiioaaGreatDoor.Frame
open Go.ChangeShapes Go.WideShapes Go.ChangeAt Go.RowKit
theorem hide {p:Prop} (h:p):Hid p:=h
def hasB (l:List UInt8) (b:Int):Bool:=l.any fun c=>(c.toNat:Int) == b
theorem uO (s:ByteArray) (k:Nat) (h:k<s.size):s.data.toList.take (k+1)=s.data.toList.take k++[s[k]]:=by
 rw[List.take_succ_eq_append_getElem (by simpa using h)];rfl
theorem aA {a b:Bool} (h:a=b):Ending.returned (.bool a)=.returned (.bool b):=by rw[h]
set_option maxHeartbeats 1000000 in
set_option maxRecDepth 100000 in
theorem Nu (s:ByteArray) (c:Int) (w:World) :
  Calls Tryz.prog 111 #[.string s,.int .u8 c] w fun e w'=>e=.returned (.int .i64 (Lib.indexByte s.data.toList c.toNat.toUInt8))∧w'=w:=by
 go_enter Tryz.func111,Tryz.ntmps111
 go_wp2
 rw[run_callFunc_extern Tryz.func129 (by kernel_rfl) (by kernel_rfl) (by kernel_rfl) (e:=Extern.BytealgIndexByte.indexByte) (by kernel_rfl),Lib.run_indexByteString]
 simp only[Result.andThen]
 rw[Oper.upon_value]
 go_wp2
 go_ret
 exact⟨rfl,rfl⟩
set_option maxHeartbeats 1000000 in
theorem D6 (s:ByteArray) (c:Int) (w:World) :
  Calls Tryz.prog 81 #[.string s,.int .u8 c] w fun e w'=>e=.returned (.int .i64 (Lib.indexByte s.data.toList c.toNat.toUInt8))∧w'=w:=by
 go_enter Tryz.func81,Tryz.ntmps81
 go_wp2_with (go_at_call 111;refine(Nu _ _ _).mono ?_;rintro e w' ⟨rfl,rfl⟩)
 go_ret
 exact⟨rfl,rfl⟩
end Go.Proofs.YtfdihjnlgdiioaaGreatDoor.Frame
namespace Go.Proofs.YtfdihjnlgdiioaaGreatDoor.dB
open Go.ChangeShapes Go.WideShapes Go.ChangeAt Go.RowKit
set_option linter.unusedVariables false
set_option linter.unusedSimpArgs false
def Qh (bs:List UInt8):List Value:=bs.map fun c=>.int .u8 c.toNat
def Buf (base:Nat) (w:World) (v:Value) (bs:List UInt8):Prop:=w.ownsRow base 5 1 v bs.length (Qh bs)
theorem UK:(Tryz.prog.info? 5).map (fun i=>(i.zero,i.size,i.bytes))=some (some (.int .u8 0),1,1):=by kernel_rfl
theorem oD:∃i,Tryz.prog.info? 5=some i∧i.zero=some (.int .u8 0)∧i.size=1∧i.bytes=1:=by
 have h:=UK
 cases hi:Tryz.prog.info? 5 with
 | none=>rw[hi] at h;cases h
 | some i =>
  rw[hi] at h
  simp only[Option.map_some,Option.some.injEq,Prod.mk.injEq] at h
  exact⟨i,rfl,h.1,h.2.1,h.2.2⟩
theorem Buf.alloc {base:Nat} {w:World} {v:Value} {bs:List UInt8} (h:Buf base w v bs) (o:Obj):Buf base (w.alloc o) v bs:=World.ownsRow.alloc h o
def fQ (w:World) (v:Value) (w':World) (u:Value):Prop:=w.grownBy w' v.ownBlock∧(u.ownBlock=v.ownBlock∨∃g,u.ownBlock=some g∧w.heap.size≤g)
theorem fQ.refl (w:World) (v:Value):fQ w v w v:=⟨⟨rfl,rfl,rfl,aS _,fun _ _ _=>rfl⟩,.inl rfl⟩
theorem fQ.trans {w w1 w2:World} {v v1 v2:Value} (h:fQ w v w1 v1) (k:fQ w1 v1 w2 v2):fQ w v w2 v2:=by
 obtain⟨a,b⟩:=h
 obtain⟨c,d⟩:=k
 refine⟨⟨c.os.trans a.os,c.tape.trans a.tape,c.output.trans a.output,Nat.le_trans a.size c.size,fun x hx hn=>?_⟩,?_⟩
 ·refine(c.block x (Nat.lt_of_lt_of_le hx a.size) ?_).trans (a.block x hx hn)
  rcases b with b|⟨g,b,hg⟩
  ·rw[b];exact hn
  ·rw[b];intro e;injection e with e;omega
 ·rcases d with d|⟨g,d,hg⟩
  ·rw[d];rcases b with b|⟨g,b,hg⟩
   ·exact .inl b
   ·exact .inr ⟨g,b,hg⟩
  ·exact .inr ⟨g,d,Nat.le_trans a.size hg⟩
theorem fQ.alloc {w w1:World} {v v1:Value} (h:fQ w v w1 v1) (o:Obj):fQ w v (w1.alloc o) v1:=by
 obtain⟨a,b⟩:=h
 exact⟨⟨a.os,a.tape,a.output,by rw[Deep.nblk_alloc];exact Nat.le_succ_of_le a.size,fun x hx hn=>by rw[Deep.blk_alloc_lt _ _ _ (Nat.lt_of_lt_of_le hx a.size)];exact a.block x hx hn⟩,b⟩
theorem fQ.below {w w1:World} {v v1:Value} {base:Nat} (h:fQ w v w1 v1) (hb:base≤v.ownBlock.getD base) (hs:base≤w.heap.size):Below base w w1 :=
 ⟨h.1.os,h.1.tape,h.1.output,h.1.size,fun k hk=>h.1.block k (by omega) (by intro e;rw[←e] at hb;simp at hb;omega)⟩
theorem fQ.block {w w1:World} {v v1:Value} (h:fQ w v w1 v1) {b:Nat} (hb:b<w.heap.size) (hn:v.ownBlock≠some b):w1.heap[b]?=w.heap[b]?:=h.1.block b hb (fun e=>hn e.symm)
theorem Buf.snoc {base:Nat} {w wr w':World} {v0 v v':Value} {bs:List UInt8} (c:UInt8) (o:Obj) (hb:fQ w v0 wr v)
  {n:Nat} (hl:n=bs.length) (h:w'.ownsRow base 5 1 v' (n+1) (Qh bs++[.int .u8 c.toNat])) (hg:(wr.alloc o).grownBy w' v.ownBlock) (hat:v'.ownBlock=v.ownBlock∨v'.ownBlock=some (wr.heap.size+1)) :
  Buf base w' v' (bs++[c])∧fQ w v0 w' v':=by
 subst hl
 refine⟨by unfold Buf;simpa [Qh] using h,(hb.alloc o).trans ⟨hg,?_⟩⟩
 rcases hat with hat|hat
 ·exact .inl hat
 ·exact .inr ⟨_,hat,by rw[Deep.nblk_alloc];exact aS _⟩
theorem Buf.own {base:Nat} {w:World} {v:Value} {bs:List UInt8} (h:Buf base w v bs):base≤v.ownBlock.getD base:=by
 obtain⟨_,⟨rfl,_⟩|⟨g,cap,cur,rfl,hg,_⟩⟩:=h
 ·simp[Value.ownBlock]
 ·simpa [Value.ownBlock] using hg
theorem gH (w:World) (x:Value) (t:TypeId):∀(j:Nat) (u:Value),[x][j]?=some u→(w.alloc (.cells #[x] t)).cell? ((⟨w.heap.size,0,none⟩:Addr).add j)=some u:=by
 intro j u hj
 cases j with
 | zero =>
  simp at hj
  subst hj
  simp[Addr.add]
 | succ j=>simp at hj
theorem oF (n:Int):∀u∈[Value.int .u8 n],u.oneCell'=true:=by
 intro u hu
 simp at hu
 subst hu
 rfl
theorem uO (s:ByteArray) (k:Nat) (h:k<s.size):s.data.toList.take (k+1)=s.data.toList.take k++[s[k]]:=by
 rw[List.take_succ_eq_append_getElem (by simpa using h)];rfl
set_option maxRecDepth 100000 in
set_option maxHeartbeats 400000 in
theorem q8 (base:Nat) (bs:List UInt8) (s:ByteArray) (v:Value) (w:World) (hown:Buf base w v bs) (hbase:base≤w.heap.size) (hl:bs.length+s.size≤70368744177664) :
  Calls Tryz.prog 97 #[v,.string s] w fun e w'=>∃u,e=.returned u∧Buf base w' u (bs++s.data.toList)∧fQ w v w' u:=by
 obtain⟨i0,hi,hz0,hz1,hz2⟩:=oD
 go_enter Tryz.func97,Tryz.ntmps97
 go_wp2
 go_loopw [0,5] (fun v1 i wr=>∃k:Nat,k≤s.size∧i=.int .i64 k∧Buf base wr v1 (bs++s.data.toList.take k)∧fQ w v wr v1) (fun _ i _=>s.size - (intOf i).toNat)
 case atStart=>exact⟨0,eH _,rfl,by simpa using hown,fQ.refl _ _⟩
 case round =>
  obtain⟨k,hk,rfl,hbuf,hb⟩:=hrel
  by_cases hlt:k<s.size
  ·have HT:=hide (uO s k hlt)
   have hlen:(bs++s.data.toList.take k).length≤bs.length+k:=by simp;omega
   have hz:base≤wr.heap.size:=Nat.le_trans hbase hb.1.size
   go_wp2_with (first
    | (at_builtin;refine wpList_append_own_at _ rfl _ _ 22 rfl base 5 i0 (.int .u8 0) 1 1 Tryz.underlying22 hi hz0 hz1 hz2 rfl (by decide) _ _ _ rfl (World.ownsRow.alloc hbuf _) ⟨wr.heap.size,0,none⟩ 1 1 [.int .u8 s[k].toNat] rfl rfl ?c1 ?c2 ?c3 ?c4 ?c5 ?_)
    | go_in)
   case c1=>exact gH _ _ _
   case c2=>exact oF _
   case c3=>unfold maxLen;omega
   case c4=>omega
   case c5=>simp;omega
   ·intro v' w' hown' hgrow hnil hat
    have R:=Buf.snoc (bs:=bs++s.data.toList.take k) s[k] _ hb (by simp;omega) hown' hgrow hat
    clear hown' hgrow hnil hat hbuf hb
    go_wp2
    go_roundw
    case rel=>exact⟨k+1,by omega,by go_num,by rw[HT.out,←List.append_assoc];exact R.1,R.2⟩
    case measure=>simp[intOf];omega
  ·go_wp2
   go_ret
   exact⟨_,rfl,by rw[List.take_of_length_le (by simp;omega)] at hbuf;exact hbuf,hb⟩
def txt (l:List UInt8):ByteArray:=⟨l.toArray⟩
theorem eU (l:List UInt8):(txt l).data.toList=l:=by simp[txt]
theorem dn (l:List UInt8):(txt l).size=l.length:=by simp[txt,ByteArray.size]
theorem qj (s:ByteArray):txt s.data.toList=s:=by cases s;simp[txt]
theorem jc (s:ByteArray) (a b:Nat):s.extract a b=txt ((s.data.toList.take b).drop a):=by
 have:(s.extract a b).data.toList=(s.data.toList.take b).drop a:=by
  rw[ByteArray.data_extract,Array.toList_extract]
  simp[List.extract,List.drop_take]
 rw[←this,qj]
def bU (c:UInt8) (cur:List UInt8):List UInt8→List (List UInt8)
 | []=>[cur]
 | x :: xs=>if x=c then cur :: bU c [] xs else bU c (cur++[x]) xs
def bI (c:UInt8) (l:List UInt8):List (List UInt8):=bU c [] l
def oG (base:Nat) (w:World) (v:Value) (xs:List ByteArray):Prop:=w.ownsRow base 9 1 v xs.length (xs.map Value.string)
theorem Nv:∃i,Tryz.prog.info? 9=some i∧i.zero=some (.string ByteArray.empty)∧i.size=1∧i.bytes=16:=by
 have h:=lq
 cases hi:Tryz.prog.info? 9 with
 | none=>rw[hi] at h;cases h
 | some i =>
  rw[hi] at h
  simp only[Option.map_some,Option.some.injEq,Prod.mk.injEq] at h
  exact⟨i,rfl,h.1,h.2.1,h.2.2⟩
theorem gu {base:Nat} {e:TypeId} {w:World} {v:Value} {cs:List Value} (h:w.ownsRow base e 1 v cs.length cs) :
  (cs=[]∧v=.slice none 0 0)∨∃g cap,v=.slice (some ⟨g,0,none⟩) cs.length cap∧base≤g∧g<w.heap.size∧(∀i (hi:i<cs.length),w.cell? ⟨g,i,none⟩=some cs[i]∧w.frozen? ⟨g,i,none⟩=false):=by
 obtain⟨hlen,⟨rfl,h0⟩|⟨g,cap,cur,rfl,hg,hs,hcap,hm,hsz,htk⟩⟩:=h
 ·exact .inl ⟨List.length_eq_zero_iff.1 h0,rfl⟩
 ·refine .inr ⟨g,cap,rfl,hg,?_,fun i hi=>⟨?_,?_⟩⟩
  ·rw[Array.getElem?_eq_some_iff] at hs;exact hs.1
  ·have h3:(cur.toList.take (cs.length * 1))[i]?=some cs[i]:=by rw[htk];simp[hi]
   rw[List.getElem?_take,if_pos (by omega)] at h3
   simp only[World.cell?,hs]
   rw[←Array.getElem?_toList,h3]
   rfl
  ·simp[World.frozen?,hs]
theorem sZ:(Tryz.prog.info? 60).map (fun i=>(i.zero,i.size,i.bytes))=some (some (.agg #[.slice none 0 0]),1,24):=by kernel_rfl
def aK {α:Type} (p:α→Bool):List α→Nat
 | []=>0
 | x :: xs=>match aK p xs with
  | 0=>if p x then 0 else 1
  | n+1=>n+2
def ay {α:Type} (p:α→Bool) (xs:List α):List α:=xs.take (aK p xs)
theorem kE {α:Type} (p:α→Bool):∀xs:List α,aK p xs≤xs.length
 | []=>aS _
 | x :: xs=>by
  have:=kE p xs
  simp only[aK,List.length_cons]
  split
  ·split <;> omega
  ·omega
theorem jm {α:Type} (p:α→Bool):∀(xs:List α) (n:Nat),n≤xs.length→(∀j (h:j<xs.length),n≤j→p xs[j]=true)→(∀h:n - 1<xs.length,0<n→p xs[n - 1]=false)→aK p xs=n
 | [],n,h1,_,_=>by simp at h1;simp[aK,h1]
 | x :: xs,n,h1,h2,h3=>by
  simp only[aK]
  cases n with
  | zero =>
   have e:aK p xs=0:=jm p xs 0 (eH _) (fun j hj _=>h2 (j+1) (by simp;omega) (eH _)) (fun _ h=>absurd h (by omega))
   rw[e]
   have:=h2 0 (by simp) (aS _)
   simp at this
   simp[this]
  | succ m =>
   have e:aK p xs=m:=jm p xs m (by simp at h1;omega) (fun j hj hm=>h2 (j+1) (by simp;omega) (by omega)) (fun hj hp=>by
    have:=h3 (by simp at h1 ⊢;omega) (by omega)
    obtain⟨q,rfl⟩:∃q,m=q+1:=⟨m - 1,by omega⟩
    simpa using this)
   rw[e]
   cases m with
   | zero =>
    have:=h3 (by simp) (by omega)
    simp at this
    simp[this]
   | succ q=>rfl
def dF (c1:UInt8) (l:List UInt8):List (List UInt8):=ay List.isEmpty (bI c1 l)
theorem yK (c:UInt8):∀(l cur:List UInt8),(bU c cur l).length≤l.length+1
 | [],cur=>by simp[bU]
 | x :: xs,cur=>by
  unfold bU
  split
  ·have:=yK c xs []
   simp only[List.length_cons];omega
  ·have:=yK c xs (cur++[x])
   simp only[List.length_cons];omega
theorem Bd (c:UInt8):∀(l cur:List UInt8),∀p∈bU c cur l,p.length≤cur.length+l.length
 | [],cur=>by intro p hp;simp[bU] at hp;subst hp;simp
 | x :: xs,cur=>by
  intro p hp
  unfold bU at hp
  split at hp
  ·rw[List.mem_cons] at hp
   rcases hp with rfl|hp
   ·omega
   ·have:=Bd c xs [] p hp;simp only[List.length_cons,List.length_nil] at *;omega
  ·have:=Bd c xs (cur++[x]) p hp
   simp only[List.length_append,List.length_cons,List.length_nil] at *;omega
theorem lX (c:UInt8) (l:List UInt8):(bI c l).length≤l.length+1:=yK c l []
theorem jQ (c:UInt8) (l:List UInt8):∀p∈bI c l,p.length≤l.length:=fun p hp=>by have:=Bd c l [] p hp;simpa using this
theorem aJ {w W c:World} (h2:Below W.heap.size W c) (h1:Below w.heap.size w W):Below w.heap.size w c:=h1.trans (h2.mono h1.size)
theorem Eu (c:UInt8):∀(l cur:List UInt8),0<(bU c cur l).length
 | [],cur=>by simp[bU]
 | x :: xs,cur=>by
  unfold bU
  split
  ·simp
  ·exact Eu c xs _
theorem jC (c:UInt8) (l:List UInt8):0<(bI c l).length:=Eu c l []
theorem lu {base:Nat} {w:World} {v:Value} {ps:List (List UInt8)} (h:oG base w v (ps.map txt)) (hp:0<ps.length) :
  ∃g cap,v=.slice (some ⟨g,0,none⟩) ps.length cap∧base≤g∧g<w.heap.size∧ps.length≤cap∧cap≤9223372036854775807∧∀i (hi:i<ps.length),w.cell? ⟨g,i,none⟩=some (.string (txt ps[i]))∧w.frozen? ⟨g,i,none⟩=false:=by
 have h':w.ownsRow base 9 1 v ((ps.map txt).map Value.string).length ((ps.map txt).map Value.string):=by rw[List.length_map];exact h
 have hlen:((ps.map txt).map Value.string).length=ps.length:=by simp
 rcases gu h' with⟨h0,_⟩|⟨g,cap,rfl,hg,hlt,hc⟩
 ·simp at h0;subst h0;simp at hp
 ·have hcap:ps.length≤cap∧cap≤9223372036854775807:=by
   obtain⟨_,⟨e,_⟩|⟨g',cap',cur,e,_,_,hcap,hm,_⟩⟩:=h
   ·cases e
   ·injection e with e1 e2 e3
    subst e3
    rw[List.length_map] at hcap
    unfold maxLen at hm
    exact⟨hcap,by omega⟩
  refine⟨g,cap,by rw[hlen],hg,hlt,hcap.1,hcap.2,fun i hi=>?_⟩
  have:=hc i (by rw[hlen];exact hi)
  rw[List.getElem_map,List.getElem_map] at this
  exact this
theorem UL {bss:List (List Nat)} (h:bss.flatten.Nodup) {i j:Nat} (hi:i<bss.length) (hj:j<bss.length) (hij:i≠j) {c:Nat} (hc:c∈bss[i]):c ∉ bss[j]:=by
 intro hd
 rw[List.Nodup,List.pairwise_flatten] at h
 have hp:=List.pairwise_iff_getElem.1 h.2
 rcases Nat.lt_or_gt_of_ne hij with hlt|hlt
 ·exact hp i j hi hj hlt c hc c hd rfl
 ·exact hp j i hj hi hlt c hd c hc rfl
theorem Qi {bss:List (List Nat)} {j:Nat} (hj:j<bss.length) (b:Nat):∀c∈bss[j],c∈b :: bss.flatten:=fun c hc=>by
 simp only[List.mem_cons,List.mem_flatten]
 exact .inr ⟨bss[j],List.getElem_mem hj,hc⟩
theorem Qj {bss:List (List Nat)} {b j:Nat} (h:(b :: bss.flatten).Nodup) (hj:j<bss.length):bss[j].Nodup:=by
 rw[List.nodup_cons,List.Nodup,List.pairwise_flatten] at h
 exact h.2.1 _ (List.getElem_mem hj)
def pQ {α:Type} (O:World→Value→α→List Nat→Prop) (e:TypeId) (base:Nat) (w:World) (v:Value) (xs:List α):Prop :=
 ∃(vs:List Value) (bss:List (List Nat)),vs.length=xs.length∧bss.length=xs.length∧w.ownsRow base e 1 v xs.length vs∧bss.flatten.Nodup ∧
  ∀i (h:i<xs.length) (h1:i<vs.length) (h2:i<bss.length),O w vs[i] xs[i] bss[i]∧∀b∈bss[i],base≤b∧b<w.heap.size∧v.ownBlock≠some b
theorem pQ.empty {α:Type} (O:World→Value→α→List Nat→Prop) (e:TypeId) (base:Nat) (w:World) (hb:base≤w.heap.size):pQ O e base (w.alloc (.cells #[] e)) (.slice (some ⟨w.heap.size,0,none⟩) 0 0) [] :=
 ⟨[],[],rfl,rfl,World.ownsRow_lit (base:=base) (e:=e) (size:=1) w #[] 0 hb (by unfold maxLen;omega) rfl,by simp,fun i h=>absurd h (by simp)⟩
theorem oH {base:Nat} {e:TypeId} {w:World} {v:Value} {n:Nat} {vs:List Value} (h:w.ownsRow base e 1 v n vs) {b:Nat} (hb:v.ownBlock=some b):base≤b∧b<w.heap.size:=by
 obtain⟨_,⟨rfl,_⟩|⟨g,cap,cur,rfl,hg,hs,_⟩⟩:=h
 ·simp[Value.ownBlock] at hb
 ·simp only[Value.ownBlock,Option.some.injEq] at hb
  subst hb
  rw[Array.getElem?_eq_some_iff] at hs
  exact⟨hg,hs.1⟩
theorem pQ.push {α:Type} {O:World→Value→α→List Nat→Prop} (hkeep:∀w w' v x bs,O w v x bs→w.heap.size≤w'.heap.size→(∀d∈bs,w'.heap[d]?=w.heap[d]?)→O w' v x bs)
  (Qk:∀w v x bs,O w v x bs→∀d∈bs,d<w.heap.size) {e:TypeId} {base:Nat} {w w3 w4:World} {v v' u:Value} {xs:List α} {x:α} {bs:List Nat} (h:pQ O e base w v xs) (hbase:base≤w.heap.size)
  (hb:Below w.heap.size w w3) (hu:O w3 u x bs) (hf:∀b∈bs,w.heap.size≤b) (hnd:bs.Nodup)
  {vs:List Value} (hvs:w.ownsRow base e 1 v xs.length vs) {n:Nat} (hn:n=xs.length) (ho:w4.ownsRow base e 1 v' (n+1) (vs++[u])) (hg:w3.grownBy w4 v.ownBlock) (hat:v'.ownBlock=v.ownBlock∨v'.ownBlock=some w3.heap.size) :
  pQ O e base w4 v' (xs++[x]):=by
 subst hn
 obtain⟨vs',bss,h1,h2,h3,h4,h5⟩:=h
 obtain rfl:vs=vs':=by
  obtain⟨hl,⟨e1,h0⟩|⟨g,cap,cur,e1,hg1,hs1,_,_,_,ht⟩⟩:=hvs
  ·obtain⟨hl',_⟩:=h3
   rw[h0] at hl hl'
   have a1:vs=[]:=List.length_eq_zero_iff.1 (by simpa using hl)
   have a2:vs'=[]:=List.length_eq_zero_iff.1 (by simpa using hl')
   rw[a1,a2]
  ·obtain⟨hl',⟨e2,_⟩|⟨g',cap',cur',e2,hg2,hs2,_,_,_,ht'⟩⟩:=h3
   ·rw[e1] at e2;cases e2
   ·rw[e1] at e2
    injection e2 with e3
    injection e3 with e4
    injection e4 with e5
    subst e5
    rw[hs1] at hs2
    injection hs2 with hs3
    injection hs3 with hs4
    subst hs4
    rw[←ht,←ht']
 have hown:∀b,v.ownBlock=some b→b<w.heap.size:=fun b hb'=>(oH h3 hb').2
 have hold:∀b,b<w.heap.size→v.ownBlock≠some b→w4.heap[b]?=w.heap[b]?:=fun b hb1 hb2=>(hg.block b (Nat.lt_of_lt_of_le hb1 hb.size) (fun e=>hb2 e.symm)).trans (hb.block b hb1)
 have hnew:∀b∈bs,v.ownBlock≠some b:=fun b hb1 e=>by have:=hown b e;have:=hf b hb1;omega
 have Ae:=hg.size
 refine⟨vs++[u],bss++[bs],by simp[h1],by simp[h2],by simpa using ho,?_,fun i hi g1 g2=>?_⟩
 ·rw[List.flatten_append,List.flatten_cons,List.flatten_nil,List.append_nil,List.nodup_append]
  refine⟨h4,hnd,fun a ha c hc e=>?_⟩
  subst e
  rw[List.mem_flatten] at ha
  obtain⟨l,hl,ha⟩:=ha
  obtain⟨i,hi,rfl⟩:=List.getElem_of_mem hl
  have:=((h5 i (by omega) (by omega) hi).2 a ha).2.1
  have:=hf a hc
  omega
 ·by_cases hlt:i<xs.length
  ·obtain⟨k1,k2⟩:=h5 i hlt (by omega) (by omega)
   have a1:(vs++[u])[i]=vs[i]'(by omega):=List.getElem_append_left (by omega)
   have a2:(bss++[bs])[i]=bss[i]'(by omega):=List.getElem_append_left (by omega)
   have a3:(xs++[x])[i]=xs[i]:=List.getElem_append_left hlt
   rw[a1,a2,a3]
   refine⟨hkeep _ _ _ _ _ k1 (Nat.le_trans hb.size Ae) fun d hd=>hold d (k2 d hd).2.1 (k2 d hd).2.2,fun b hb'=>⟨(k2 b hb').1,by have:=(k2 b hb').2.1;have:=hb.size;omega,?_⟩⟩
   rcases hat with hat|hat
   ·rw[hat];exact(k2 b hb').2.2
   ·rw[hat];intro e;injection e with e;have:=(k2 b hb').2.1;have:=hb.size;omega
  ·have e1:i=xs.length:=by simp at hi;omega
   subst e1
   have e2:(vs++[u])[xs.length]=u:=by rw[List.getElem_append_right (by omega)];simp[h1]
   have e3:(bss++[bs])[xs.length]=bs:=by rw[List.getElem_append_right (by omega)];simp[h2]
   have e4:(xs++[x])[xs.length]=x:=by rw[List.getElem_append_right (aS _)];simp
   rw[e2,e3,e4]
   have hlt3:=Qk _ _ _ _ hu
   refine⟨hkeep _ _ _ _ _ hu Ae fun d hd=>hg.block d (hlt3 d hd) (fun e=>hnew d hd e.symm),fun b hb'=>⟨Nat.le_trans hbase (hf b hb'),Nat.lt_of_lt_of_le (hlt3 b hb') Ae,?_⟩⟩
   rcases hat with hat|hat
   ·rw[hat];exact hnew b hb'
   ·rw[hat];intro e;injection e with e;have:=hlt3 b hb';omega
theorem pQ.take {α:Type} {O:World→Value→α→List Nat→Prop} {R:World→Nat→Nat→α→List Nat→Prop} (hR:∀w b off x bs v,w.cell? ⟨b,off,none⟩=some v→O w v x bs→R w b off x bs)
  {e:TypeId} {base:Nat} {w:World} {v:Value} {xs:List α} (h:pQ O e base w v xs) (hl:xs.length≤9223372036854775807) {n:Nat} (hn:n≤xs.length) :
  ∃a cap,v=.slice a xs.length cap∧xs.length≤cap∧cap≤9223372036854775807∧∃bs,bS 1 R w (.slice a n cap) (xs.take n) bs∧bs.Nodup∧∀b∈bs,base≤b:=by
 obtain⟨vs,bss,h1,h2,h3,h4,h5⟩:=h
 have h3':w.ownsRow base e 1 v vs.length vs:=by rw[h1];exact h3
 by_cases hn0:n=0
 ·subst hn0
  obtain⟨_,⟨rfl,h0⟩|⟨g,cap,cur,rfl,_,_,hcap,hm,_⟩⟩:=h3
  ·exact⟨none,0,by rw[h0],by omega,by omega,[],⟨by simp,.inl ⟨_,_,rfl,by simp,rfl⟩⟩,by simp,by simp⟩
  ·exact⟨_,cap,rfl,hcap,by unfold maxLen at hm;omega,[],⟨by simp,.inl ⟨_,_,rfl,by simp,rfl⟩⟩,by simp,by simp⟩
 ·rcases gu h3' with⟨h0,rfl⟩|⟨g,cap,rfl,hg,hlt,hc⟩
  ·subst h0;simp at h1;omega
  ·have hcap:xs.length≤cap∧cap≤9223372036854775807:=by
    obtain⟨_,⟨e1,_⟩|⟨g',cap',cur,e1,_,_,hcap,hm,_⟩⟩:=h3
    ·cases e1
    ·injection e1 with _ _ e3
     subst e3
     unfold maxLen at hm
     exact⟨hcap,by omega⟩
   refine⟨_,cap,by rw[h1],hcap.1,hcap.2,g :: (bss.take n).flatten,⟨by rw[List.length_take];omega,.inr ⟨g,0,cap,bss.take n,by rw[List.length_take,Nat.min_eq_left hn],hlt,rfl,by rw[List.length_take,List.length_take,h2],fun i hi hi2=>?_⟩⟩,?_,?_⟩
   ·have hix:i<xs.length:=by rw[List.length_take] at hi;omega
    have k:=h5 i hix (by omega) (by omega)
    rw[List.getElem_take,List.getElem_take]
    exact hR _ _ _ _ _ _ (by have:=(hc i (by omega)).1;simpa using this) k.1
   ·rw[List.nodup_cons]
    refine⟨fun hm=>?_,?_⟩
    ·rw[List.mem_flatten] at hm
     obtain⟨l,hl',hm⟩:=hm
     obtain⟨i,hi,rfl⟩:=List.getElem_of_mem hl'
     rw[List.length_take] at hi
     rw[List.getElem_take] at hm
     exact((h5 i (by omega) (by omega) (by omega)).2 g hm).2.2 (by simp[Value.ownBlock])
    ·have hsub:bss.flatten=(bss.take n).flatten++(bss.drop n).flatten:=by rw[←List.flatten_append,List.take_append_drop]
     rw[hsub,List.nodup_append] at h4
     exact h4.1
   ·intro b hb
    rw[List.mem_cons,List.mem_flatten] at hb
    rcases hb with rfl|⟨l,hl',hm⟩
    ·exact hg
    ·obtain⟨i,hi,rfl⟩:=List.getElem_of_mem hl'
     rw[List.length_take] at hi
     rw[List.getElem_take] at hm
     exact((h5 i (by omega) (by omega) (by omega)).2 b hm).1
theorem own_below {base:Nat} {e:TypeId} {w w':World} {v:Value} {n:Nat} {vs:List Value} (h:w.ownsRow base e 1 v n vs) (hb:Below w.heap.size w w'):w'.ownsRow base e 1 v n vs:=by
 obtain⟨hl,⟨rfl,h0⟩|⟨g,cap,cur,rfl,hg,hs,rest⟩⟩:=h
 ·exact⟨hl,.inl ⟨rfl,h0⟩⟩
 ·refine⟨hl,.inr ⟨g,cap,cur,rfl,hg,?_,rest⟩⟩
  rw[hb.block g (by rw[Array.getElem?_eq_some_iff] at hs;exact hs.1)]
  exact hs
theorem Bf {α:Type} (p:α→Bool) (xs:List α) (k:Nat) (hk:k<xs.length):aK p (xs.take (k+1))=if p xs[k]=true then aK p (xs.take k) else k+1:=by
 have hle:=kE p (xs.take k)
 rw[List.length_take] at hle
 have hlen:(xs.take (k+1)).length=k+1:=by rw[List.length_take];omega
 have key:∀(ys:List α) (j:Nat) (h:j<ys.length),aK p ys≤j→p ys[j]=true:=by
  intro ys
  induction ys with
  | nil=>intro j h;simp at h
  | cons y ys ih =>
   intro j h hj
   cases hkn:aK p ys with
   | zero =>
    cases j with
    | zero =>
     by_cases hy:p y=true
     ·simpa using hy
     ·have e:aK p (y :: ys)=1:=by simp[aK,hkn,hy]
      omega
    | succ j=>exact ih j (by simp at h;omega) (by omega)
   | succ q =>
    have e:aK p (y :: ys)=q+2:=by simp[aK,hkn]
    cases j with
    | zero=>omega
    | succ j=>exact ih j (by simp at h;omega) (by omega)
 have last:∀(ys:List α) (h:aK p ys - 1<ys.length),0<aK p ys→p ys[aK p ys - 1]=false:=by
  intro ys
  induction ys with
  | nil=>intro h h0;simp[aK] at h0
  | cons y ys ih =>
   intro h h0
   cases hkn:aK p ys with
   | zero =>
    by_cases hy:p y=true
    ·simp[aK,hkn,hy] at h0
    ·have e:aK p (y :: ys)=1:=by simp[aK,hkn,hy]
     simp only[e]
     simpa using hy
   | succ q =>
    have e:aK p (y :: ys)=q+2:=by simp[aK,hkn]
    have hq:q<ys.length:=by have:=kE p ys;omega
    have:=ih (by rw[hkn];simpa using hq) (by omega)
    simp only[hkn] at this
    simp only[e]
    simpa using this
 by_cases hp:p xs[k]=true
 ·rw[if_pos hp]
  apply jm
  ·omega
  ·intro j hj hge
   rw[hlen] at hj
   rw[List.getElem_take]
   by_cases e:j=k
   ·subst e;exact hp
   ·have:=key (xs.take k) j (by rw[List.length_take];omega) hge
    rwa [List.getElem_take] at this
  ·intro h h0
   have h':aK p (xs.take k) - 1<(xs.take k).length:=by rw[List.length_take];omega
   have:=last (xs.take k) h' h0
   rw[List.getElem_take] at this ⊢
   exact this
 ·rw[if_neg hp]
  apply jm
  ·omega
  ·intro j hj hge;omega
  ·intro h h0
   rw[List.getElem_take]
   simpa using hp
def dX (c1 c2:UInt8) (l:List UInt8):List (List (List UInt8)):=ay List.isEmpty ((bI c2 l).map (dF c1))
def jR (r:List (List UInt8)):lW:=r.map txt
theorem gV {P:Program} {e:TypeId} {z:Value} {sz bytes:Nat} (h:(P.info? e).map (fun i=>(i.zero,i.size,i.bytes))=some (some z,sz,bytes)):∃i,P.info? e=some i∧i.zero=some z∧i.size=sz∧i.bytes=bytes:=by
 cases hi:P.info? e with
 | none=>rw[hi] at h;cases h
 | some i =>
  rw[hi] at h
  simp only[Option.map_some,Option.some.injEq,Prod.mk.injEq] at h
  exact⟨i,rfl,h.1,h.2.1,h.2.2⟩
theorem qz (a:Option Addr) (n c:Nat):∀u∈[Value.slice a n c],u.oneCell'=true:=by
 intro u hu
 simp at hu
 subst hu
 rfl
theorem kL:(Tryz.prog.info? 57).map (fun i=>(i.zero,i.size,i.bytes))=some (some (.agg #[.slice none 0 0]),1,24):=by kernel_rfl
theorem jD {α:Type} {p:α→Bool} {xs:List α} {k:Nat} (h:k<xs.length) (h1:(xs.take k).all p=true) (h2:p xs[k]=true):(xs.take (k+1)).all p=true:=by
 rw[List.take_succ_eq_append_getElem h,List.all_append,h1]
 simp[h2]
theorem iy {α:Type} {p:α→Bool} {xs:List α} {k:Nat} (h:k<xs.length) (h2:p xs[k]=false):xs.all p=false:=by
 rw[List.all_eq_false]
 exact⟨xs[k],List.getElem_mem h,by simp[h2]⟩
theorem jE {α:Type} {p:α→Bool} {xs:List α} {k:Nat} (h:xs.length≤k) (h1:(xs.take k).all p=true):xs.all p=true:=by
 rwa [List.take_of_length_le h] at h1
def bZ (c:UInt8):Bool:=decide (32≤c.toNat) && decide (c.toNat≤126)
def dI (s:ByteArray):Bool:=s.data.toList.all bZ
def nN (c:UInt8):Bool:=decide (65≤c.toNat) && decide (c.toNat≤90)
def tq (c:UInt8):Bool:=decide (48≤c.toNat) && decide (c.toNat≤57)
def dY (s:ByteArray):Bool:=match s.data.toList with
 | [a,b,c]=>nN a && ((nN b || tq b) && (nN c || tq c))
 | _=>false
def iT {α:Type} (f:α→Nat) (xs:List α):Bool:=match xs.getLast? with
 | none=>true
 | some x=>decide (0<f x)
def nO (r:lW):Bool:=decide (r.length≤20) && (iT ByteArray.size r && r.all dI)
def fG (f:Field):Bool:=decide (f.length≤30) && (iT List.length f && f.all nO)
def ig (s:ByteArray):Bool:=s.toList == [77,83,72]
def jY (first:Bool) (s:Seg):Bool:=dY s.name && ((ig s.name == first) && (decide (s.fields.length≤30) && (iT List.length s.fields && s.fields.all fG)))
def jZ (m:List Seg):Bool:=decide (1≤m.length) && (decide (m.length≤250) && m.zipIdx.all fun p=>jY (p.2 == 0) p.1)
theorem pW {α:Type} (f:α→Nat) (xs:List α) (h:0<xs.length):iT f xs=decide (0<f xs[xs.length - 1]):=by
 unfold iT
 rw[List.getLast?_eq_getElem?,List.getElem?_eq_getElem (by omega)]
theorem qA {α:Type} (f:α→Nat) (xs:List α) (h:xs.length=0):iT f xs=true:=by
 rw[List.length_eq_zero_iff] at h
 subst h
 rfl
set_option maxHeartbeats 400000 in
theorem lC (c:UInt8) (w:World) :
  Calls Tryz.prog 139 #[.int .u8 (c.toNat:Int)] w fun e w'=>e=.returned (.bool (nN c))∧w'=w:=by
 have HC:Hid (nN c=(decide (65≤c.toNat) && decide (c.toNat≤90))):=rfl
 by_cases h1:(65:Int)≤(c.toNat:Int)
 ·by_cases h2:(c.toNat:Int)≤90
  ·go_enter Tryz.func139,Tryz.ntmps139
   go_wp2
   go_ret
   exact⟨aA (by rw[HC.out,decide_eq_true (by omega),decide_eq_true (by omega)];rfl),rfl⟩
  ·go_enter Tryz.func139,Tryz.ntmps139
   go_wp2
   go_ret
   exact⟨aA (by rw[HC.out,decide_eq_false (p:=c.toNat≤90) (by omega),Bool.and_false]),rfl⟩
 ·go_enter Tryz.func139,Tryz.ntmps139
  go_wp2
  go_ret
  exact⟨aA (by rw[HC.out,decide_eq_false (p:=65≤c.toNat) (by omega)];rfl),rfl⟩
set_option maxHeartbeats 400000 in
theorem uP (s:ByteArray) (w:World) (hs:s.size≤9223372036854775807) :
  Calls Tryz.prog 76 #[.string s] w fun e w'=>e=.returned (.bool (dI s))∧w'=w:=by
 go_enter Tryz.func76,Tryz.ntmps76
 go_wp2
 go_loop [3] (fun i=>∃k:Nat,k≤s.size∧i=.int .i64 k∧(s.data.toList.take k).all bZ=true) (fun i=>s.size - (intOf i).toNat)
 case atStart=>exact⟨0,eH _,rfl,rfl⟩
 case round =>
  obtain⟨k,hk,rfl,hall⟩:=hrel
  have HA:=hide hall
  clear hall
  have hsz:s.data.toList.length=s.size:=by simp
  by_cases hlt:k<s.size
  ·have HK:Hid (∀h,s.data.toList[k]'h=s[k]):=fun h=>rfl
   have HP:Hid (bZ s[k]=(decide (32≤s[k].toNat) && decide (s[k].toNat≤126))):=rfl
   by_cases h1:(s[k].toNat:Int)<32
   ·have HF:Hid (bZ s[k]=false):=by rw[HP.out,decide_eq_false (by omega)];rfl
    have HZ:=hide (iy (p:=bZ) (xs:=s.data.toList) (k:=k) (by omega) (by rw[HK.out];exact HF.out))
    clear hsz
    go_wp2
    go_ret
    exact⟨aA HZ.out.symm,rfl⟩
   ·by_cases h2:(126:Int)<(s[k].toNat:Int)
    ·have HF:Hid (bZ s[k]=false):=by rw[HP.out,decide_eq_false (p:=s[k].toNat≤126) (by omega),Bool.and_false];trivial
     have HZ:=hide (iy (p:=bZ) (xs:=s.data.toList) (k:=k) (by omega) (by rw[HK.out];exact HF.out))
     clear hsz
     go_wp2
     go_ret
     exact⟨aA HZ.out.symm,rfl⟩
    ·have HF:Hid (bZ s[k]=true):=by rw[HP.out,decide_eq_true (by omega),decide_eq_true (by omega)];rfl
     have HZ:=hide (jD (p:=bZ) (xs:=s.data.toList) (k:=k) (by omega) HA.out (by rw[HK.out];exact HF.out))
     clear hsz
     go_wp2
     go_round
     case rel=>exact⟨k+1,by omega,by go_num,HZ.out⟩
     case measure=>simp[intOf];omega
  ·have HZ:=hide (jE (by omega) HA.out)
   clear hsz
   go_wp2
   go_ret
   exact⟨aA HZ.out.symm,rfl⟩
theorem MG (s:ByteArray) (h:s.size≠3):dY s=false:=by
 unfold dY
 split
 ·rename_i a b c he
  have:s.data.toList.length=3:=by rw[he];rfl
  simp at this
  exact absurd this h
 ·rfl
theorem Hr (s:ByteArray) (h:s.size=3):dY s=(nN (s[0]'(by omega)) && ((nN (s[1]'(by omega)) || tq (s[1]'(by omega))) && (nN (s[2]'(by omega)) || tq (s[2]'(by omega))))):=by
 have e:s.data.toList=[s[0]'(by omega),s[1]'(by omega),s[2]'(by omega)]:=by
  apply List.ext_getElem
  ·simpa using h
  ·intro i h1 h2
   have h3:i<3:=by simpa using h2
   match i,h3 with
   | 0,_=>rfl
   | 1,_=>rfl
   | 2,_=>rfl
 unfold dY
 rw[e]
def jW (c:UInt8):Bool:=nN c || tq c
set_option maxHeartbeats 800000 in
theorem lD (s:ByteArray) (w:World) (hs:s.size≤9223372036854775807) :
  Calls Tryz.prog 124 #[.string s] w fun e w'=>e=.returned (.bool (dY s))∧w'=w:=by
 by_cases h3:s.size=3
 ·have HN:=hide (Hr s h3)
  have hne:((s.size:Int) == 3)=true:=by simp;omega
  have Yj:(0:Int)<(s.size:Int):=by omega
  cases hc:nN (s[0]'(by omega))
  ·have HC:=hide hc
   clear hc
   go_enter Tryz.func124,Tryz.ntmps124
   go_wp2_with fail
   refine(lC (s[0]'(by omega)) _).mono ?_
   rintro e w' ⟨rfl,rfl⟩
   rw[HC.out]
   go_wp2_with fail
   go_ret
   exact⟨aA (by rw[HN.out,HC.out];rfl),rfl⟩
  ·have HC:=hide hc
   clear hc
   go_enter Tryz.func124,Tryz.ntmps124
   go_wp2_with fail
   refine(lC (s[0]'(by omega)) _).mono ?_
   rintro e w' ⟨rfl,rfl⟩
   rw[HC.out]
   go_wp2_with fail
   go_loop [3] (fun i=>∃k:Nat,1≤k∧k≤3∧i=.int .i64 k∧∀j (h:j<s.size),1≤j→j<k→jW s[j]=true) (fun i=>3 - (intOf i).toNat)
   case atStart=>exact⟨1,by omega,by omega,rfl,fun j _ h1 h2=>absurd h2 (by omega)⟩
   case round =>
    obtain⟨k,hk1,hk,rfl,hall⟩:=hrel
    have HA:=hide hall
    clear hall
    by_cases hlt:k<3
    ·have hks:k<s.size:=by omega
     have aa2:(k:Int)<(s.size:Int):=by omega
     have HT:Hid (jW s[k]=(nN s[k] || (decide (48≤s[k].toNat) && decide (s[k].toNat≤57)))):=rfl
     have UM:Hid (jW s[k]=false→dY s=false):=fun hf=>by
      rw[HN.out]
      rcases(by omega:k=1∨k=2) with rfl|rfl
      ·change (_ && (jW s[1] && jW _))=false
       rw[hf];simp
      ·change (_ && (jW _ && jW s[2]))=false
       rw[hf];simp
     have Ht:Hid (jW s[k]=true→∀j (h:j<s.size),1≤j→j<k+1→jW s[j]=true):=fun ht j h h1 h2=>by
      by_cases e:j=k
      ·subst e;exact ht
      ·exact HA.out j h h1 (by omega)
     cases hcap:nN s[k]
     ·have tu:=hide hcap
      clear hcap
      by_cases h48:(s[k].toNat:Int)<48
      ·go_wp2_with fail
       refine(lC s[k] _).mono ?_
       rintro e w' ⟨rfl,rfl⟩
       rw[tu.out]
       go_wp2_with fail
       go_ret
       exact⟨aA (UM.out (by rw[HT.out,tu.out,decide_eq_false (p:=48≤s[k].toNat) (by omega)];rfl)).symm,rfl⟩
      ·by_cases h57:(57:Int)<(s[k].toNat:Int)
       ·go_wp2_with fail
        refine(lC s[k] _).mono ?_
        rintro e w' ⟨rfl,rfl⟩
        rw[tu.out]
        go_wp2_with fail
        go_ret
        exact⟨aA (UM.out (by rw[HT.out,tu.out,decide_eq_false (p:=s[k].toNat≤57) (by omega)];simp)).symm,rfl⟩
       ·go_wp2_with fail
        refine(lC s[k] _).mono ?_
        rintro e w' ⟨rfl,rfl⟩
        rw[tu.out]
        go_wp2_with fail
        go_round
        case rel=>exact⟨k+1,by omega,by omega,by go_num,Ht.out (by rw[HT.out,tu.out,decide_eq_true (p:=48≤s[k].toNat) (by omega),decide_eq_true (by omega)];rfl)⟩
        case measure=>simp[intOf];omega
     ·have tu:=hide hcap
      clear hcap
      go_wp2_with fail
      refine(lC s[k] _).mono ?_
      rintro e w' ⟨rfl,rfl⟩
      rw[tu.out]
      go_wp2_with fail
      go_round
      case rel=>exact⟨k+1,by omega,by omega,by go_num,Ht.out (by rw[HT.out,tu.out];rfl)⟩
      case measure=>simp[intOf];omega
    ·obtain rfl:k=3:=by omega
     have HFin:Hid (dY s=true):=by
      rw[HN.out,HC.out]
      change (true && (jW _ && jW _))=true
      rw[HA.out 1 (by omega) (by omega) (by omega),HA.out 2 (by omega) (by omega) (by omega)]
      rfl
     go_wp2_with fail
     go_ret
     exact⟨aA HFin.out.symm,rfl⟩
 ·have HN:=hide (MG s h3)
  have hne:((s.size:Int) == 3)=false:=by simp;omega
  go_enter Tryz.func124,Tryz.ntmps124
  go_wp2_with fail
  go_ret
  exact⟨aA HN.out.symm,rfl⟩
end Go.Proofs.YtfdihjnlgdiioaaGreatDoor.dB
namespace Go.Proofs.YtfdihjnlgdiioaaGreatDoor.dB
set_option linter.unusedVariables false
set_option linter.unusedSimpArgs false
theorem kN (c:UInt8):∀(a b cur:List UInt8),(∀x∈a,x≠c)→bU c cur (a++b)=bU c (cur++a) b
 | [],b,cur,_=>by simp
 | x :: a,b,cur,h=>by
  rw[List.cons_append]
  conv=>lhs;unfold bU
  rw[if_neg (h x (by simp)),kN c a b (cur++[x]) (fun y hy=>h y (by simp[hy]))]
  simp
theorem Bg (c:UInt8):∀(l cur:List UInt8),∃t ts,bU c cur l=(cur++t) :: ts
 | [],cur=>⟨[],[],by simp[bU]⟩
 | x :: l,cur=>by
  unfold bU
  split
  ·exact⟨[],bU c [] l,by simp⟩
  ·obtain⟨t,ts,h⟩:=Bg c l (cur++[x])
   exact⟨x :: t,ts,by rw[h];simp⟩
theorem Nw (c:UInt8) (a b:List UInt8) (h:∀x∈a,x≠c):∃t ts,bI c (a++b)=(a++t) :: ts:=by
 unfold bI
 rw[kN c a b [] h]
 obtain⟨t,ts,h2⟩:=Bg c b ([]++a)
 exact⟨t,ts,by rw[h2];simp⟩
end Go.Proofs.YtfdihjnlgdiioaaGreatDoor.dB
