import Derived.Test.YtfdihjnlgdiioaaGreatDoorG15
import Derived.Deep.LoopGhost
import Derived.Test.YtfdihjnlgdiioaaGreatDoorG5
import Derived.Deep.RegionHeld3
import Derived.Test.YtfdihjnlgdiioaaGreatDoorG12
import Derived.WalkSmall
import Derived.Lib.AtoiErrMem
import Derived.Lib.AppendIntMem
namespace Go.Proofs.YtfdihjnlgdiioaaGreatDoor.dB
open Go.ChangeShapes Go.WideShapes Go.ChangeAt Go.RowKit
set_option linter.unusedVariables false
set_option linter.unusedSimpArgs false
theorem mU {s:ByteArray} (h:s.size=0):s.toList=[]∧s.toList.isEmpty=true∧(s.toList == [])=true:=by
 have e:s.toList=[]:=by rw[ByteArray.toList_eq];exact List.length_eq_zero_iff.1 (by simpa using h)
 rw[e]
 exact⟨rfl,rfl,rfl⟩
theorem oW {s:ByteArray} (h:¬s.size=0):¬s.toList=[]∧s.toList.isEmpty=false∧(s.toList == [])=false:=by
 have e:¬s.toList=[]:=by rw[ByteArray.toList_eq];intro e;have:=congrArg List.length e;simp at this;exact h (by simpa using this)
 refine⟨e,?_,?_⟩
 ·cases hh:s.toList with
  | nil=>exact absurd hh e
  | cons a l=>rfl
 ·simpa using e
def lH (rows:List ByteArray) (most:Nat):Bool:=decide (rows.length≤most) && rows.all aW
set_option maxHeartbeats 2000000 in
theorem Jb (rows:List ByteArray) (most:Nat) (v:Value) (w:World) {lo:Nat} (hv:bq lo w v rows) :
  Calls Tryz.prog 210 #[v,.int .i64 (most:Int)] w fun e w'=>e=.returned (.bool (lH rows most))∧w'=w:=by
 have hl:=hv.1
 obtain⟨a,cap,hf,hc⟩:=hv.form
 subst hf
 have HC:=hide hc
 clear hc hv
 by_cases hlen:(most:Int)<(rows.length:Int)
 ·have HX:Hid (lH rows most=false):=by unfold lH;rw[decide_eq_false (p:=rows.length≤most) (by omega)];exact rfl
  go_enter Tryz.func210,Tryz.ntmps210
  go_wp2_with fail
  go_ret
  exact⟨aA HX.out.symm,rfl⟩
 have HX:Hid (lH rows most=rows.all aW):=by unfold lH;rw[decide_eq_true (p:=rows.length≤most) (by omega)];exact rfl
 go_enter Tryz.func210,Tryz.ntmps210
 go_wp2_with fail
 go_loopg [13] rows.length (fun q i wr=>∃k:Nat,k≤rows.length∧q=rows.length - k∧i=.int .i64 (k:Int)∧(rows.take k).all aW=true∧wr=w)
 case atStart=>exact⟨0,eH _,rfl,rfl,rfl,rfl⟩
 case round =>
  obtain⟨k,hk,rfl,rfl,hall,rfl⟩:=hrel
  have HA:=hide hall
  clear hall
  by_cases hlt:k<rows.length
  ·have hki:(k:Int)<(rows.length:Int):=by omega
   obtain⟨b,off,rfl,_,hbl,hcell,hsz⟩:=HC.out k hlt
   rw[Nat.mul_one] at hcell
   obtain⟨x,hx⟩:∃x,rows[k]=x:=⟨_,rfl⟩
   rw[hx] at hcell hsz
   have HR:=hide (fun W=>fP x W hsz)
   cases hxb:aW x
   ·rw[hxb] at HR
    have HN:Hid (rows.all aW=false):=by
     show _=_
     rw[List.all_eq_false]
     exact⟨rows[k],List.getElem_mem _,by rw[hx,hxb];decide⟩
    clear hx
    go_wp2_with (first|(go_at_call 194;refine(HR.out _).mono ?_;rintro e w2 ⟨rfl,rfl⟩))
    go_ret
    exact⟨aA (by rw[HX.out,HN.out]),rfl⟩
   ·rw[hxb] at HR
    have HN:Hid ((rows.take (k+1)).all aW=true):=by
     show _=_
     rw[List.take_succ_eq_append_getElem hlt,List.all_append,HA.out,hx]
     simp[hxb]
    clear hx
    go_wp2_with (first|(go_at_call 194;refine(HR.out _).mono ?_;rintro e w2 ⟨rfl,rfl⟩))
    go_roundg (rows.length - (k+1))
    case measure=>omega
    case rel=>exact⟨k+1,by omega,rfl,by go_num,HN.out,rfl⟩
  ·obtain rfl:k=rows.length:=by omega
   have hki:¬(rows.length:Int)<(rows.length:Int):=by omega
   have HN:Hid (rows.all aW=true):=by have:=HA.out;rw[List.take_length] at this;exact this
   go_wp2_with fail
   go_ret
   exact⟨aA (by rw[HX.out,HN.out]),rfl⟩
def Parts {α:Type} (O:World→Value→α→List Nat→Prop) (base:Nat) (w:World) (vs:List Value) (xs:List α) (bss:List (List Nat)):Prop :=
 vs.length=xs.length∧bss.length=xs.length∧bss.flatten.Nodup∧∀i (h:i<xs.length) (h1:i<vs.length) (h2:i<bss.length),O w vs[i] xs[i] bss[i]∧∀b∈bss[i],base≤b∧b<w.heap.size
def qM {α:Type} (O:World→Value→α→List Nat→Prop):Prop:=∀w w' v x bs,O w v x bs→w.heap.size≤w'.heap.size→(∀d∈bs,w'.heap[d]?=w.heap[d]?)→O w' v x bs
theorem bO:qM bP:=fun _ _ _ _ _ h s d=>bS.kept fD h s d
theorem fF:qM aN:=fun _ _ _ _ _ h s d=>bS.kept bQ h s d
theorem Parts.nil {α:Type} (O:World→Value→α→List Nat→Prop) (base:Nat) (w:World):Parts O base w [] [] []:=⟨rfl,rfl,by simp,fun i h=>absurd h (by simp)⟩
theorem Parts.uV {α:Type} {O:World→Value→α→List Nat→Prop} (K:qM O) {base:Nat} {w w':World} {vs:List Value} {xs:List α} {bss:List (List Nat)} {u:Value} {x:α} {bs:List Nat} (h:Parts O base w vs xs bss) (hb:Below w.heap.size w w')
  (hu:O w' u x bs) (hnd:bs.Nodup) (hf:∀b∈bs,base≤b∧b<w'.heap.size∧b ∉ bss.flatten):Parts O base w' (vs++[u]) (xs++[x]) (bss++[bs]):=by
 obtain⟨h1,h2,h3,h4⟩:=h
 refine⟨by simp[h1],by simp[h2],?_,fun i hi g1 g2=>?_⟩
 ·rw[List.flatten_append,List.flatten_cons,List.flatten_nil,List.append_nil,List.nodup_append]
  exact⟨h3,hnd,fun a ha c hc e=>(hf c hc).2.2 (e ▸ ha)⟩
 ·by_cases hlt:i<xs.length
  ·obtain⟨k1,k2⟩:=h4 i hlt (by omega) (by omega)
   have a1:(vs++[u])[i]=vs[i]'(by omega):=List.getElem_append_left (by omega)
   have a2:(bss++[bs])[i]=bss[i]'(by omega):=List.getElem_append_left (by omega)
   have a3:(xs++[x])[i]=xs[i]:=List.getElem_append_left hlt
   rw[a1,a2,a3]
   exact⟨K _ _ _ _ _ k1 hb.size fun d hd=>hb.block d (k2 d hd).2,fun b hb'=>⟨(k2 b hb').1,Nat.lt_of_lt_of_le (k2 b hb').2 hb.size⟩⟩
  ·have e1:i=xs.length:=by simp at hi;omega
   subst e1
   have e2:(vs++[u])[xs.length]=u:=by rw[List.getElem_append_right (by omega)];simp[h1]
   have e3:(bss++[bs])[xs.length]=bs:=by rw[List.getElem_append_right (by omega)];simp[h2]
   have e4:(xs++[x])[xs.length]=x:=by rw[List.getElem_append_right (aS _)];simp
   rw[e2,e3,e4]
   exact⟨hu,fun b hb'=>⟨(hf b hb').1,(hf b hb').2.1⟩⟩
theorem Parts.push {α:Type} {O:World→Value→α→List Nat→Prop} (K:qM O) {base:Nat} {w w':World} {vs:List Value} {xs:List α} {bss:List (List Nat)} {u:Value} {x:α} {bs:List Nat} (h:Parts O base w vs xs bss) (hbase:base≤w.heap.size) (hb:Below w.heap.size w w')
  (hu:O w' u x bs) (hnd:bs.Nodup) (hf:∀b∈bs,w.heap.size≤b∧b<w'.heap.size):Parts O base w' (vs++[u]) (xs++[x]) (bss++[bs]) :=
 Parts.uV K h hb hu hnd fun b hb'=>⟨Nat.le_trans hbase (hf b hb').1,(hf b hb').2,fun hm=>by
  obtain⟨h1,h2,h3,h4⟩:=h
  rw[List.mem_flatten] at hm
  obtain⟨l,hl,ha⟩:=hm
  obtain⟨i,hi,rfl⟩:=List.getElem_of_mem hl
  have:=((h4 i (by omega) (by omega) hi).2 b ha).2
  have:=(hf b hb').1
  omega⟩
theorem Parts.vR {α:Type} {O:World→Value→α→List Nat→Prop} (K:qM O) {base:Nat} {w:World} {vs:List Value} {xs:List α} {bss:List (List Nat)} {u:Value} {x:α} (h:Parts O base w vs xs bss) (hbase:base≤w.heap.size)
  (hu:O w u x []):Parts O base w (vs++[u]) (xs++[x]) (bss++[[]]):=Parts.push K h hbase (Below.refl _ _) hu (by simp) (by simp)
theorem Parts.lens {base:Nat} {w:World} {vs:List Value} {xs:List Field} {bss:List (List Nat)} (h:Parts bP base w vs xs bss):Lens vs xs :=
 Hz (e:=0) (base:=base) (w:=w) h.1 h.2.1 fun i hi g1 g2=>(h.2.2.2 i hi g1 g2).1
theorem oh (name:ByteArray) (vs:List Value) (xs:List Field) (bss:List (List Nat)) (base:Nat) (w:World) (hbase:base≤w.heap.size) (hP:Parts bP base w vs xs bss) (hp:0<vs.length) (hl:vs.length≤40001) (hz:∀x∈xs,x.length≤1048576) (n:Nat) (hn:n=vs.length) :
  Calls Tryz.prog 86 #[.string name,.slice (some ⟨w.heap.size,0,none⟩) n n] (w.alloc (.cells vs.toArray 57)) fun e w'=>∃u,e=.returned (.agg #[.string name,u])∧∃bs,aN w' u (ay List.isEmpty xs) bs∧bs.Nodup∧(∀b∈bs,base≤b∧b<w'.heap.size∧(w.heap.size≤b∨b∈bss.flatten))∧Below w.heap.size w w':=by
 subst hn
 have hb1:=(Below.refl w.heap.size w).alloc (aS _) (.cells vs.toArray 57)
 have hrow:(w.alloc (.cells vs.toArray 57)).ownsRow w.heap.size 57 1 (.slice (some ⟨w.heap.size,0,none⟩) vs.length vs.length) vs.length vs:=by
  have h:=World.ownsRow_lit (base:=w.heap.size) (e:=57) (size:=1) w vs.toArray vs.length (aS _) (by unfold maxLen;omega) (by simp)
  simpa using h
 refine(oK (β:=lW) name xs vs w.heap.size _ _ hrow hP.lens (fun h=>by omega) hl (fun x hx=>by have:=hz x hx;omega)).mono ?_
 rintro e w' ⟨u,rfl,hu,hb⟩
 refine⟨u,rfl,?_⟩
 have hk:=kE List.isEmpty xs
 have hbb:=aJ hb hb1
 obtain⟨h1,h2,h3,h4⟩:=hP
 obtain⟨m,hm⟩:∃m,aK List.isEmpty xs=m:=⟨_,rfl⟩
 have hT:ay List.isEmpty xs=xs.take m:=by unfold ay;rw[hm]
 rw[hm] at hu hk
 rw[hT]
 have hlen:(vs.take m).length=m:=by rw[List.length_take];omega
 have hlx:(xs.take m).length=m:=by rw[List.length_take];omega
 have hlb:(bss.take m).length=m:=by rw[List.length_take];omega
 have hu':w'.ownsRow (w.alloc (.cells vs.toArray 57)).heap.size 57 1 u (vs.take m).length (vs.take m):=by rw[hlen];exact hu
 obtain⟨h0,rfl⟩|⟨g,cap,rfl,hg,hlt,hc⟩:=gu hu'
 ·have m0:m=0:=by rw[←hlen,h0];rfl
  subst m0
  exact⟨[],⟨by simp,.inl ⟨none,0,rfl,by simp,rfl⟩⟩,by simp,by simp,hbb⟩
 ·have hg':w.heap.size+1≤g:=by simpa using hg
  have hsub:∀b∈(bss.take m).flatten,b∈bss.flatten:=fun b hb'=>by
   have e:bss.flatten=(bss.take m).flatten++(bss.drop m).flatten:=by rw[←List.flatten_append,List.take_append_drop]
   rw[e,List.mem_append]
   exact .inl hb'
  have hin:∀b∈bss.flatten,base≤b∧b<w.heap.size:=fun b hb'=>by
   rw[List.mem_flatten] at hb'
   obtain⟨l,hl',ha⟩:=hb'
   obtain⟨i,hi,rfl⟩:=List.getElem_of_mem hl'
   exact(h4 i (by omega) (by omega) hi).2 b ha
  refine⟨g :: (bss.take m).flatten,⟨by omega,.inr ⟨g,0,cap,bss.take m,by rw[hlen,hlx],hlt,rfl,by omega,fun i hi hi2=>?_⟩⟩,?_,?_,hbb⟩
  ·have hix:i<xs.length:=by omega
   obtain⟨k1,k2⟩:=h4 i hix (by omega) (by omega)
   rw[List.getElem_take,List.getElem_take]
   refine⟨vs[i]'(by omega),?_,bS.kept fD k1 hbb.size fun d hd=>hbb.block d (k2 d hd).2⟩
   have:=(hc i (by omega)).1
   rw[List.getElem_take] at this
   simpa using this
  ·rw[List.nodup_cons]
   refine⟨fun hm'=>by have:=(hin g (hsub g hm')).2;omega,?_⟩
   have e:bss.flatten=(bss.take m).flatten++(bss.drop m).flatten:=by rw[←List.flatten_append,List.take_append_drop]
   rw[e,List.nodup_append] at h3
   exact h3.1
  ·intro b hb'
   rw[List.mem_cons] at hb'
   rcases hb' with rfl|hb'
   ·exact⟨by omega,hlt,.inl (by omega)⟩
   ·have h5:=hin b (hsub b hb')
    exact⟨h5.1,Nat.lt_of_lt_of_le h5.2 hbb.size,.inr (hsub b hb')⟩
theorem OA (kr:lW) (k:Value) (bk:List Nat) (base:Nat) (w:World) (hk:fV w k kr bk) (hkn:0<kr.length) (hkl:kr.length≤1048576) (hnd:bk.Nodup) (hb:∀b∈bk,base≤b∧b<w.heap.size) (hbase:base≤w.heap.size) :
  Calls Tryz.prog 85 #[.slice (some ⟨w.heap.size,0,none⟩) 1 1] (w.alloc (.cells #[k] 60)) fun e w'=>∃u,e=.returned (.agg #[u])∧∃bs,bP w' u [kr] bs∧bs.Nodup∧(∀b∈bs,base≤b∧b<w'.heap.size∧(w.heap.size≤b∨b∈bk))∧Below w.heap.size w w':=by
 have hb1:=(Below.refl w.heap.size w).alloc (aS _) (.cells #[k] 60)
 have hrow:(w.alloc (.cells #[k] 60)).ownsRow w.heap.size 60 1 (.slice (some ⟨w.heap.size,0,none⟩) 1 1) [k].length [k]:=by
  have h:=World.ownsRow_lit (base:=w.heap.size) (e:=60) (size:=1) w #[k] 1 (aS _) (by unfold maxLen;omega) rfl
  simpa using h
 obtain⟨a,c,rfl,_⟩:=(bS.pO xu hk (lo:=0) (fun _ _=>eH _)).form
 refine(og (β:=ByteArray) [kr] [.slice a kr.length c] w.heap.size _ _ hrow (Q7 a kr c) (by simp) (by simp) (by intro x hx;simp at hx;subst hx;omega)).mono ?_
 rintro e w' ⟨u,rfl,hu,hb2⟩
 have e0:aK List.isEmpty [kr]=1:=by
  cases kr with
  | nil=>simp at hkn
  | cons x r=>rfl
 rw[e0] at hu
 obtain⟨h,_⟩|⟨g,c2,rfl,hg,hl2,hc2⟩:=gu (cs:=[.slice a kr.length c]) hu
 ·cases h
 have hcell:w'.cell? ⟨g,0,none⟩=some (.slice a kr.length c):=(hc2 0 (by simp)).1
 have hsz:(w.alloc (.cells #[.slice a kr.length c] 60)).heap.size=w.heap.size+1:=by simp
 rw[hsz] at hg
 have hbb:=aJ hb2 hb1
 refine⟨_,rfl,g :: bk,⟨by simp,.inr ⟨g,0,c2,[bk],rfl,hl2,by simp,rfl,fun i hi h'=>?_⟩⟩,?_,?_,hbb⟩
 ·obtain rfl:i=0:=by simp at hi;omega
  exact⟨_,hcell,bS.kept d9 hk hbb.size fun d hd=>hbb.block d (hb d hd).2⟩
 ·rw[List.nodup_cons]
  exact⟨fun hm=>by have:=(hb g hm).2;omega,hnd⟩
 ·intro b hb'
  rw[List.mem_cons] at hb'
  rcases hb' with rfl|hb'
  ·exact⟨by omega,hl2,.inl (by omega)⟩
  ·exact⟨(hb b hb').1,Nat.lt_of_lt_of_le (hb b hb').2 hbb.size,.inr hb'⟩
def wL:ByteArray:=⟨#[50,46,53,46,49]⟩
def aI (kr:lW) (ctl:ByteArray):List Field:=[[],[],[],[],[],[],[kr],ah ctl,[],ah wL]
theorem Ca (kr:lW) (ctl:ByteArray):ay List.isEmpty (aI kr ctl)=aI kr ctl:=by
 have e:aK List.isEmpty (aI kr ctl)=10:=rfl
 unfold ay
 rw[e]
 rfl
theorem jw (s:ByteArray):(ah s).length≤1:=by unfold ah;split <;> simp
theorem OB (kr:lW) (ctl:ByteArray) {base:Nat} {W w2 w3 w4:World} {a6 a7 a9:Option Addr} {c6 c7 c9:Nat} {Y4 bs7 bs9:List Nat} (hbase:base≤W.heap.size) (hb2:Below W.heap.size W w2) (Kk:bP w2 (.slice a6 1 c6) [kr] Y4) (hn6:Y4.Nodup) (Am:∀b∈Y4,base≤b∧b<w2.heap.size)
  (hb3:Below w2.heap.size w2 w3) (Y9:bP w3 (.slice a7 (ah ctl).length c7) (ah ctl) bs7) (hn7:bs7.Nodup) (y7:∀b∈bs7,w2.heap.size≤b) (hb4:Below w3.heap.size w3 w4) (hO9:bP w4 (.slice a9 (ah wL).length c9) (ah wL) bs9) (hn9:bs9.Nodup) (hf9:∀b∈bs9,w3.heap.size≤b) :
  Parts bP base w4 [.slice none 0 0,.slice none 0 0,.slice none 0 0,.slice none 0 0,.slice none 0 0,.slice none 0 0,.slice a6 1 c6,.slice a7 (ah ctl).length c7,.slice none 0 0,.slice a9 (ah wL).length c9] (aI kr ctl) [[],[],[],[],[],[],Y4,bs7,[],bs9]:=by
 have s2:=hb2.size
 have s3:=hb3.size
 have p0:=Parts.nil bP base W
 have p1:=Parts.vR bO p0 hbase (qL W none 0)
 have p2:=Parts.vR bO p1 hbase (qL W none 0)
 have p3:=Parts.vR bO p2 hbase (qL W none 0)
 have p4:=Parts.vR bO p3 hbase (qL W none 0)
 have p5:=Parts.vR bO p4 hbase (qL W none 0)
 have p6:=Parts.vR bO p5 hbase (qL W none 0)
 have p7:=Parts.uV bO p6 hb2 Kk hn6 (fun b h=>⟨(Am b h).1,(Am b h).2,by simp⟩)
 have p8:=Parts.push bO p7 (by omega) hb3 Y9 hn7 (fun b h=>⟨y7 b h,bS.lt dJ Y9 b h⟩)
 have p9:=Parts.vR bO p8 (by omega) (qL w3 none 0)
 exact Parts.push bO p9 (by omega) hb4 hO9 hn9 (fun b h=>⟨hf9 b h,bS.lt dJ hO9 b h⟩)
theorem RA (kr:lW) (ctl:ByteArray):∀x∈aI kr ctl,x.length≤1048576:=by
 intro x hx
 have h1:=jw ctl
 have h2:=jw wL
 simp only[aI,List.mem_cons,List.not_mem_nil,or_false] at hx
 rcases hx with rfl|rfl|rfl|rfl|rfl|rfl|rfl|rfl|rfl|rfl <;> first|(simp;done)|omega
set_option maxRecDepth 100000 in
set_option maxHeartbeats 4000000 in
theorem kF (kr:lW) (ctl:ByteArray) (k:Value) (bk:List Nat) (base:Nat) (w:World) (hk:fV w k kr bk) (hkn:0<kr.length) (hkl:kr.length≤20) (hnd:bk.Nodup) (hb:∀b∈bk,base≤b∧b<w.heap.size) (hbase:base≤w.heap.size) (yZ:ctl.size≤1048576) :
  Calls Tryz.prog 196 #[.agg #[k],.string ctl] w fun e w'=>∃u,e=.returned (.agg #[.string ⟨#[77,83,72]⟩,u])∧∃bs,aN w' u (aI kr ctl) bs∧bs.Nodup∧(∀b∈bs,base≤b∧b<w'.heap.size∧(w.heap.size≤b∨b∈bk))∧Below w.heap.size w w':=by
 obtain⟨ak,ck,rfl⟩:=ow hk
 obtain⟨w1,hw1⟩:∃w1,((w.alloc (Obj.cells #[.slice ak kr.length ck] 60)).alloc (Obj.cells #[.string ⟨#[]⟩,.slice none 0 0] 54)).alloc (Obj.cells #[.slice none 0 0] 57)=w1:=⟨_,rfl⟩
 have K8:=(Below.refl w.heap.size w).alloc (aS _) (Obj.cells #[.slice ak kr.length ck] 60)
 have F5:=K8.alloc K8.size (Obj.cells #[.string ⟨#[]⟩,.slice none 0 0] 54)
 have hb1:=F5.alloc F5.size (Obj.cells #[.slice none 0 0] 57)
 obtain⟨x1,hx1⟩:∃x1,w.alloc (Obj.cells #[.slice ak kr.length ck] 60)=x1:=⟨_,rfl⟩
 obtain⟨x2,hx2⟩:∃x2,x1.alloc (Obj.cells #[.string ⟨#[]⟩,.slice none 0 0] 54)=x2:=⟨_,rfl⟩
 have bN:x1.heap.size=w.heap.size+1:=by rw[←hx1];simp
 have BX:x2.heap.size=w.heap.size+1+1:=by rw[←hx2];simp[bN]
 have Vx:x2.alloc (Obj.cells #[.slice none 0 0] 57)=w1:=by rw[←hx2,←hx1];exact hw1
 have dG:w1.heap.size=w.heap.size+1+1+1:=by rw[←Vx];simp[BX]
 have abA:Below x1.heap.size x1 x2:=by rw[←hx2];exact aO _ _
 have RD:Below x2.heap.size x2 w1:=by rw[←Vx];exact aO _ _
 have abB:=aJ RD abA
 have c0:w1.cell? ⟨w.heap.size,0,none⟩=some (.slice ak kr.length ck):=(abB.cell (p:=⟨w.heap.size,0,none⟩) (by rw[bN];simp)).trans (by rw[←hx1];simp)
 have c1:w1.cell? ⟨w.heap.size+1,0,none⟩=some (.string ⟨#[]⟩):=(RD.cell (p:=⟨w.heap.size+1,0,none⟩) (by rw[BX];simp)).trans (by rw[←hx2,←bN];simp)
 have c2:w1.cell? ⟨w.heap.size+1,1,none⟩=some (.slice none 0 0):=(RD.cell (p:=⟨w.heap.size+1,1,none⟩) (by rw[BX];simp)).trans (by rw[←hx2,←bN];simp)
 have f1:∀i,w1.frozen? ⟨w.heap.size+1,i,none⟩=false:=fun i=>(RD.frozen (p:=⟨w.heap.size+1,i,none⟩) (by rw[BX];simp)).trans (by rw[←hx2,←bN];simp)
 have c3:w1.cell? ⟨w.heap.size+1+1,0,none⟩=some (.slice none 0 0):=by rw[←Vx,←BX];simp
 rw[hw1] at hb1
 have HB1:=hide hb1
 have HK:=hide (bS.kept d9 hk hb1.size fun d hd=>hb1.block d (hb d hd).2)
 have RF:Hid (∀b∈bk,base≤b∧b<w1.heap.size):=fun b h=>⟨(hb b h).1,Nat.lt_of_lt_of_le (hb b h).2 hb1.size⟩
 have GX:=hide hnd
 have nA:Hid (∀b∈bk,b<w.heap.size):=fun b h=>(hb b h).2
 have RG:base≤w1.heap.size:=by omega
 have KEEP:Hid (∀X,Below w1.heap.size w1 X→X.cell? ⟨w.heap.size,0,none⟩=some (.slice ak kr.length ck)∧X.cell? ⟨w.heap.size+1+1,0,none⟩=some (.slice none 0 0)∧Below w.heap.size w X):=fun X h =>
  ⟨(h.cell (p:=⟨w.heap.size,0,none⟩) (by rw[dG];dsimp only;omega)).trans c0,(h.cell (p:=⟨w.heap.size+1+1,0,none⟩) (by rw[dG];dsimp only;omega)).trans c3,aJ h HB1.out⟩
 have n1:(⟨w.heap.size+1,0,none⟩:Addr).block≠w.heap.size:=by dsimp only;omega
 have n2:(⟨w.heap.size+1,0,none⟩:Addr).block≠w.heap.size+1+1:=by dsimp only;omega
 have HST:Hid (∀X,Below w1.heap.size w1 X→∀x y,((X.setCell ⟨w.heap.size+1,0,none⟩ x).setCell ⟨w.heap.size+1,1,none⟩ y).cell? ⟨w.heap.size,0,none⟩=some (.slice ak kr.length ck)∧((X.setCell ⟨w.heap.size+1,0,none⟩ x).setCell ⟨w.heap.size+1,1,none⟩ y).cell? ⟨w.heap.size+1+1,0,none⟩=some (.slice none 0 0)∧Below w.heap.size w ((X.setCell ⟨w.heap.size+1,0,none⟩ x).setCell ⟨w.heap.size+1,1,none⟩ y)):=fun X h x y=>by
  obtain⟨g1,g2,g3⟩:=KEEP.out X h
  exact⟨(World.cell?_setCell_far _ ⟨w.heap.size+1,1,none⟩ ⟨w.heap.size,0,none⟩ _ n1).trans ((World.cell?_setCell_far _ ⟨w.heap.size+1,0,none⟩ ⟨w.heap.size,0,none⟩ _ n1).trans g1),
   (World.cell?_setCell_far _ ⟨w.heap.size+1,1,none⟩ ⟨w.heap.size+1+1,0,none⟩ _ n2).trans ((World.cell?_setCell_far _ ⟨w.heap.size+1,0,none⟩ ⟨w.heap.size+1+1,0,none⟩ _ n2).trans g2),
   (g3.setCell (p:=⟨w.heap.size+1,0,none⟩) (Nat.le_succ _) x).setCell (p:=⟨w.heap.size+1,1,none⟩) (Nat.le_succ _) y⟩
 have jL:Hid (∀X,Below w1.heap.size w1 X→X.cell? ⟨w.heap.size+1,0,none⟩=some (.string ⟨#[]⟩)∧X.cell? ⟨w.heap.size+1,1,none⟩=some (.slice none 0 0)∧(∀i,X.frozen? ⟨w.heap.size+1,i,none⟩=false)∧w.heap.size+1<X.heap.size):=fun X h =>
  ⟨(h.cell (p:=⟨w.heap.size+1,0,none⟩) (by rw[dG];dsimp only;omega)).trans c1,(h.cell (p:=⟨w.heap.size+1,1,none⟩) (by rw[dG];dsimp only;omega)).trans c2,fun i=>(h.frozen (p:=⟨w.heap.size+1,i,none⟩) (by rw[dG];dsimp only;omega)).trans (f1 i),by have:=h.size;omega⟩
 obtain⟨wd,hwd⟩:∃wd,w1.drew=wd:=⟨_,rfl⟩
 have hbd:Below w1.heap.size w1 wd:=by rw[←hwd];exact(Below.refl _ _).drew
 have sd:wd.heap.size=w1.heap.size:=by rw[←hwd];rfl
 have HF:=hide (OA kr _ bk base wd (bS.kept d9 HK.out hbd.size fun d hd=>hbd.block d (RF.out d hd).2) hkn (by omega) GX.out (fun b h=>⟨(RF.out b h).1,by rw[sd];exact(RF.out b h).2⟩) (by rw[sd];exact RG))
 have HW1:=hide hw1
 have K9:=hide hwd
 have wZ:=hide dG
 have DW:=hide sd
 clear hw1 hwd dG sd
 clear K8 F5 hb1 hx1 hx2 bN BX Vx abA RD abB c0 c1 c2 c3 f1 hk hnd hb
 go_enter Tryz.func196,Tryz.ntmps196
 go_wp2_with fail
 rw[HW1.out]
 have uh:=(Below.refl w1.heap.size w1).drew
 have hwd:=K9.out
 go_region_held3 (fun X=>X.cell? ⟨w.heap.size,0,none⟩=some (.slice ak kr.length ck)∧X.cell? ⟨w.heap.size+1+1,0,none⟩=some (.slice none 0 0)∧Below w.heap.size w X)
  (first|with_reducible exact KEEP.out _ uh|with_reducible exact KEEP.out _ hbd|with_reducible exact KEEP.out _ (hbd.alloc hbd.size _)|with_reducible exact KEEP.out _ gI|with_reducible exact KEEP.out _ l7|with_reducible exact KEEP.out _ hbC|with_reducible exact KEEP.out _ (hbC.alloc hbC.size _)|with_reducible exact KEEP.out _ hbD|with_reducible exact HST.out _ hbD _ _)
  (first
   | (go_at_call 85;refine HF.out.mono ?_;rintro e w2 ⟨u6,rfl,Y4,Kk,hn6,Am,hb2⟩;obtain⟨a6,c6,rfl⟩:=dN Kk;have gI:=aj hb2 hbd)
   | (go_at_call 197;refine(dx _ w3 (by decide)).mono ?_;rintro e w4 ⟨u9,rfl,bs9,hO9,hn9,hf9,hb4⟩;obtain⟨a9,c9,rfl⟩:=dN hO9;have hbC:=aj hb4 l7)
   | (go_at_call 197;refine(dx ctl w2 yZ).mono ?_;rintro e w3 ⟨u7,rfl,bs7,Y9,hn7,y7,hb3⟩;obtain⟨a7,c7,rfl⟩:=dN Y9;have l7:=aj hb3 gI)
   | (go_at_call 86;refine(oh _ [.slice none 0 0,.slice none 0 0,.slice none 0 0,.slice none 0 0,.slice none 0 0,.slice none 0 0,.slice a6 1 c6,.slice a7 (ah ctl).length c7,.slice none 0 0,.slice a9 (ah wL).length c9] (aI kr ctl) [[],[],[],[],[],[],Y4,bs7,[],bs9] base w4 (by have h1:=hbC.size;omega) (OB kr ctl (W:=wd) (by rw[DW.out];exact RG) hb2 Kk hn6 (fun b h=>⟨(Am b h).1,(Am b h).2.1⟩) hb3 Y9 hn7 y7 hb4 hO9 hn9 hf9) (by simp) (by simp) (RA kr ctl) 10 rfl).mono ?_;rintro e w5 ⟨u,rfl,bs,hO,hn,hf,hb5⟩;rw[Ca] at hO;obtain⟨a,c,rfl⟩:=dA hO;have hbD:=aj hb5 hbC;obtain⟨r0,r1,rf,rl⟩:=jL.out _ hbD))
 have hs1:=HB1.out.size
 have hsA:=gI.size
 have hsB:=l7.size
 have hsC:=hbC.size
 have hsw:=wZ.out
 have hsd:=DW.out
 have HOLD:Hid (∀b∈bs,w.heap.size+1<b∨b∈bk):=fun b hb'=>by
  rcases(hf b hb').2.2 with h|h
  ·exact .inl (by omega)
  ·simp only[List.flatten_cons,List.flatten_nil,List.nil_append,List.append_nil,List.mem_append] at h
   rcases h with h|h|h
   ·rcases(Am b h).2.2 with h'|h'
    ·exact .inl (by omega)
    ·exact .inr h'
   ·exact .inl (by have:=y7 b h;omega)
   ·exact .inl (by have:=hf9 b h;omega)
 have K5:Hid (∀b∈bs,b≠w.heap.size+1):=fun b hb'=>by
  rcases HOLD.out b hb' with h|h
  ·omega
  ·have:=nA.out b h;omega
 have GY:Hid (∀x y,aN ((w5.setCell ⟨w.heap.size+1,0,none⟩ x).setCell ⟨w.heap.size+1,1,none⟩ y) (.slice a (aI kr ctl).length c) (aI kr ctl) bs):=fun x y =>
  bS.kept bQ hO (by rw[Deep.nblk_setCell,Deep.nblk_setCell];exact aS _) fun d hd=>(Deep.blk_setCell_other _ ⟨w.heap.size+1,1,none⟩ _ d (K5.out d hd)).trans (Deep.blk_setCell_other _ ⟨w.heap.size+1,0,none⟩ _ d (K5.out d hd))
 have HLT:Hid (∀x y,∀b∈bs,base≤b∧b<((w5.setCell ⟨w.heap.size+1,0,none⟩ x).setCell ⟨w.heap.size+1,1,none⟩ y).heap.size∧(w.heap.size≤b∨b∈bk)):=fun x y b hb'=>⟨(hf b hb').1,by rw[Deep.nblk_setCell,Deep.nblk_setCell];exact(hf b hb').2.1,by
  rcases HOLD.out b hb' with h|h
  ·exact .inl (by omega)
  ·exact .inr h⟩
 have jH:Hid (∀x y,Below w.heap.size w ((w5.setCell ⟨w.heap.size+1,0,none⟩ x).setCell ⟨w.heap.size+1,1,none⟩ y)):=fun x y=>(HST.out _ hbD x y).2.2
 have HN:=hide hn
 clear hsw hsd
 go_wp2_with fail
 exact bodyPost_ret (v:=.agg #[.string ⟨#[77,83,72]⟩,.slice a (aI kr ctl).length c]) (by simp[results,Tryz.results196,go_sem,r0,r1,rl]) rfl ⟨_,rfl,bs,GY.out _ _,HN.out,HLT.out _ _,jH.out _ _⟩
end Go.Proofs.YtfdihjnlgdiioaaGreatDoor.dB
namespace Go.Proofs.YtfdihjnlgdiioaaGreatDoor.dB
set_option linter.unusedVariables false
set_option linter.unusedSimpArgs false
def small (c:ByteArray):Bool:=decide (c.size≤40000)
def qN (r:lW):Bool:=r.all small
def mV (f:Field):Bool:=f.all qN
def uj (x:Seg):Bool:=x.fields.all mV
theorem AU {α:Type} (p q r:α→Bool) (h:∀x,p x=(q x && r x)):∀xs:List α,xs.all p=(xs.all q && xs.all r)
 | []=>rfl
 | x :: xs=>by
  rw[List.all_cons,List.all_cons,List.all_cons,AU p q r h xs,h x]
  cases q x <;> cases r x <;> cases xs.all q <;> rfl
theorem Vy (r:lW):tL r=(nO r && qN r):=by
 have h:=AU nW dI small (fun c=>by unfold nW small;exact Bool.and_comm _ _) r
 unfold tL nO qN sJ
 rw[h]
 cases decide (r.length≤20) <;> cases iT ByteArray.size r <;> rfl
theorem OC (f:Field):gW f=(fG f && mV f):=by
 have h:=AU tL nO qN Vy f
 unfold gW fG mV sJ
 rw[h]
 cases decide (f.length≤30) <;> cases iT List.length f <;> rfl
theorem Vz (x:Seg) (b:Bool) (hb:ig x.name=b):rD x=(jY b x && uj x):=by
 have h:=AU gW fG mV OC x.fields
 unfold rD jY uj sJ
 rw[h,hb]
 cases dY x.name <;> cases decide (x.fields.length≤30) <;> cases iT List.length x.fields <;> simp
theorem EY {α:Type} (sep:UInt8) (f:α→List UInt8) (xs:List α) (x:α) (h:x∈xs):(f x).length≤(joined sep f xs).length:=by
 obtain⟨k,hk,rfl⟩:=List.getElem_of_mem h
 have:=tJ sep f xs k hk
 omega
theorem La (xs:List Field) (x:Field) (h:x∈xs):(iE x).length≤(bT xs).length:=by
 obtain⟨k,hk,rfl⟩:=List.getElem_of_mem h
 have:=xB xs k hk
 omega
theorem RH (x:Seg) (i:Nat) (h:uj x=false):40000<(qD i x).length:=by
 unfold uj at h
 rw[List.all_eq_false] at h
 obtain⟨f,hf,h⟩:=h
 have h:mV f=false:=by simpa using h
 unfold mV at h
 rw[List.all_eq_false] at h
 obtain⟨r,hr,h⟩:=h
 have h:qN r=false:=by simpa using h
 unfold qN at h
 rw[List.all_eq_false] at h
 obtain⟨c,hc,h⟩:=h
 have h:small c=false:=by simpa using h
 unfold small at h
 have h:¬c.size≤40000:=of_decide_eq_false h
 have h1:=ML c.data.toList
 have h2:c.data.toList.length=c.size:=by simp
 have h3:=EY 94 (fun c:ByteArray=>dR c.data.toList) r c hc
 have h4:=EY 126 iY f r hr
 have h5:=La x.fields f hf
 have h6:(iY r).length=(joined 94 (fun c:ByteArray=>dR c.data.toList) r).length:=rfl
 have h7:(iE f).length=(joined 126 iY f).length:=rfl
 unfold qD
 simp only[List.length_append]
 omega
theorem VA (x:Seg) (k:Nat) (h:ig x.name=(k == 0)):tZ x=qD k x:=by
 unfold tZ qD dm
 rw[h]
 by_cases hk:k=0
 ·subst hk;rfl
 ·rw[if_neg hk,if_neg (by simp[hk])]
def l8 (k:Nat) (x:Seg):Bool:=(ig x.name == (k == 0)) && rD x
theorem EZ (k:Nat) (x:Seg):l8 k x=(jY (k == 0) x && uj x):=by
 unfold l8
 by_cases h:ig x.name=(k == 0)
 ·rw[Vz x _ h,h,beq_self_eq_true,Bool.true_and]
 ·have h1:(ig x.name == (k == 0))=false:=by rw[beq_eq_false_iff_ne];exact h
  unfold jY
  rw[h1]
  simp
def Places (xs:List Seg) (k:Nat):Prop:=∀j (h:j<xs.length),j<k→l8 j xs[j]=true
theorem Places.step {xs:List Seg} {k:Nat} (h:Places xs k) (hk:k<xs.length) (hp:l8 k xs[k]=true):Places xs (k+1):=fun j hj h2=>by
 by_cases e:j=k
 ·subst e;exact hp
 ·exact h j hj (by omega)
def iV (xs:List Seg):List UInt8:=xs.flatMap tZ
theorem wM (xs:List Seg) (k:Nat) (h:k<xs.length):iV (xs.take (k+1))=iV (xs.take k)++tZ xs[k]:=by
 unfold iV
 rw[List.take_succ_eq_append_getElem h,List.flatMap_append]
 simp
theorem OD {k:Nat} {x:Seg} (h:l8 k x=true):ig x.name=(k == 0):=by
 unfold l8 at h
 rw[Bool.and_eq_true] at h
 exact beq_iff_eq.1 h.1
theorem xS (xs:List Seg):∀k,k≤xs.length→Places xs k→iV (xs.take k)=iq (xs.take k)
 | 0,_,_=>by simp[iV,iq]
 | k+1,hk,hp=>by
  rw[wM xs k (by omega),yS xs k (by omega),xS xs k (by omega) (fun j hj h2=>hp j hj (by omega)),VA _ k (OD (hp k (by omega) (by omega)))]
theorem F6 (xs:List Seg) (k:Nat):(iq (xs.take k)).length≤(iq xs).length:=nZ (fun p=>qD p.2 p.1) xs k
theorem Lb (xs:List Seg) (h1:1≤xs.length) (h2:xs.length≤250):dW xs=(xs.zipIdx.all tN && decide ((iq xs).length≤40000)):=by
 unfold dW jZ
 rw[decide_eq_true h1,decide_eq_true h2]
 rfl
theorem Cb (xs:List Seg) (k:Nat) (hk:k<xs.length) (hp:l8 k xs[k]=false):dW xs=false:=by
 rw[EZ,Bool.and_eq_false_iff] at hp
 unfold dW
 rcases hp with hp|hp
 ·have h:=EF hk hp
  unfold jZ
  have h':(xs.zipIdx.all fun p=>jY (p.2 == 0) p.1)=false:=h
  rw[h']
  simp
 ·have h1:=RH xs[k] k hp
  have h2:=Ez xs k hk
  rw[decide_eq_false (p:=(iq xs).length≤40000) (by omega),Bool.and_false]
theorem OE (xs:List Seg) (k:Nat) (hk:k<xs.length) (hp:Places xs (k+1)) (hl:40000<(iV (xs.take (k+1))).length):dW xs=false:=by
 rw[xS xs (k+1) (by omega) hp] at hl
 have:=F6 xs (k+1)
 unfold dW
 rw[decide_eq_false (p:=(iq xs).length≤40000) (by omega),Bool.and_false]
theorem E5 (xs:List Seg) (h1:1≤xs.length) (h2:xs.length≤250) (hp:Places xs xs.length) (hl:(iV (xs.take xs.length)).length≤40000):dW xs=true:=by
 rw[xS xs _ (aS _) hp,List.take_length] at hl
 rw[Lb xs h1 h2,decide_eq_true hl,Bool.and_true,List.all_eq_true]
 rintro⟨x,k⟩ hm
 rw[List.mk_mem_zipIdx_iff_getElem?] at hm
 obtain⟨hk,rfl⟩:=List.getElem?_eq_some_iff.1 hm
 have:=hp k hk hk
 rw[EZ,Bool.and_eq_true] at this
 exact this.1
theorem Jc (xs:List Seg) (h:dW xs=true):Places xs xs.length:=fun j hj _=>by
 cases hp:l8 j xs[j]
 ·rw[Cb xs j hj hp] at h;cases h
 ·rfl
theorem OG (xs:List Seg) (h:dW xs=true):iV xs=iq xs∧(iq xs).length≤40000:=by
 have h1:=xS xs xs.length (aS _) (Jc xs h)
 rw[List.take_length] at h1
 refine⟨h1,?_⟩
 unfold dW at h
 rw[Bool.and_eq_true] at h
 exact of_decide_eq_true h.2
theorem OH (xs:List Seg) (h:xs.length=0):dW xs=false:=by
 unfold dW jZ
 rw[decide_eq_false (p:=1≤xs.length) (by omega)]
 rfl
theorem OI (xs:List Seg) (h:250<xs.length):dW xs=false:=by
 unfold dW jZ
 rw[decide_eq_false (p:=xs.length≤250) (by omega)]
 simp
theorem Cc (x:Seg):(tZ x).length≤6+3 * bB x:=by
 have h:=rC x.fields
 have h2:x.name.data.toList.length=x.name.size:=by simp
 unfold tZ bB dm
 simp only[List.length_append]
 split <;> simp <;> omega
end Go.Proofs.YtfdihjnlgdiioaaGreatDoor.dB
namespace Go.Proofs.YtfdihjnlgdiioaaGreatDoor.dB
open Go.ChangeShapes Go.WideShapes Go.ChangeAt Go.RowKit
set_option linter.unusedVariables false
set_option linter.unusedSimpArgs false
def tC (s:ByteArray):List Value:=[.string s]
theorem RI:∀(x:ByteArray),∀u∈tC x,u.oneCell'=true:=fun x u hu=>by rw[List.mem_singleton.1 hu];rfl
theorem VB (xs:List ByteArray):flat tC xs=xs.map Value.string:=by
 unfold flat
 induction xs with
 | nil=>rfl
 | cons x t ih=>rw[List.map_cons,List.flatten_cons,ih];rfl
theorem M4 {base:Nat} {w:World} {v:Value} {xs:List ByteArray} (h:FB tC 1 9 base w v xs) (hl:xs.length≤9223372036854775807) (hz:∀s∈xs,s.size≤9223372036854775807):∃bs,EN w v xs bs∧∀b∈bs,b∈v.ownBlock.toList:=by
 obtain⟨a,cap,e,hc1,hc2⟩:=h.form
 have h':w.ownsRow base 9 1 v (xs.map Value.string).length (xs.map Value.string):=by rw[List.length_map,←VB];exact h
 rcases gu h' with⟨h0,rfl⟩|⟨g,cap',rfl,hg,hlt,hc⟩
 ·exact⟨[],⟨⟨hl,.inl ⟨none,0,rfl,List.map_eq_nil_iff.1 h0,rfl⟩⟩,a,cap,e,hc1,hc2⟩,by simp⟩
 ·refine⟨[g],⟨⟨hl,.inr ⟨g,0,cap',List.replicate xs.length [],by rw[List.length_map],hlt,by simp,by simp,fun i hi h2=>?_⟩⟩,a,cap,e,hc1,hc2⟩,fun b hb=>by rw[List.mem_singleton.1 hb];simp[Value.ownBlock]⟩
  have q:=hc i (by rw[List.length_map];exact hi)
  rw[List.getElem_map] at q
  exact⟨by simpa using q.1,by simpa using q.2,hz _ (List.getElem_mem hi),by simp⟩
abbrev AE (α:Type):=List α × (Option Addr × Nat)
def aV {α:Type} (p:AE α):Value:=.slice p.2.1 p.1.length p.2.2
def aC {α:Type} (p:AE α):List Value:=[.slice p.2.1 p.1.length p.2.2]
theorem Za {α:Type}:∀(p:AE α),∀u∈aC p,u.oneCell'=true:=fun p u hu=>by rw[List.mem_singleton.1 hu];rfl
structure lT {α:Type} (O:World→Value→List α→List Nat→Prop) (e:TypeId) (base:Nat) (bad:Nat→Prop) (w:World) (v:Value) (ps:List (AE α)):Prop where
 row:FB aC 1 e base w v ps
 own:∀b,v.ownBlock=some b→¬bad b
 el:∀p∈ps,∃bs,O w (aV p) p.1 bs∧∀b∈bs,b<w.heap.size∧¬bad b∧v.ownBlock≠some b
theorem lT.nil {α:Type} (O:World→Value→List α→List Nat→Prop) (e:TypeId) (base:Nat) (bad:Nat→Prop) (w:World):lT O e base bad w (.slice none 0 0) [] :=
 ⟨FB.nil _ _ _ _ _,fun b h=>by simp[Value.ownBlock] at h,fun p h=>by cases h⟩
theorem lT.lit {α:Type} (O:World→Value→List α→List Nat→Prop) (e:TypeId) (bad:Nat→Prop) (w:World) (hb:¬bad w.heap.size):lT O e w.heap.size bad (w.alloc (.cells #[] e)) (.slice (some ⟨w.heap.size,0,none⟩) 0 0) [] :=
 ⟨FB.lit _ _ _ _,fun b h=>by simp[Value.ownBlock] at h;subst h;exact hb,fun p h=>by cases h⟩
theorem lT.keep {α:Type} {O:World→Value→List α→List Nat→Prop} (K:qM O) {e:TypeId} {base:Nat} {bad:Nat→Prop} {w w':World} {v:Value} {ps:List (AE α)} (h:lT O e base bad w v ps) (hs:w.heap.size≤w'.heap.size) (hb:∀b,b<w.heap.size→¬bad b→w'.heap[b]?=w.heap[b]?):lT O e base bad w' v ps :=
 ⟨h.row.keep fun b hb'=>hb b (h.row.own b hb').2 (h.own b (by simpa using hb')),h.own,fun p hp=>by
  obtain⟨bs,hO,hbs⟩:=h.el p hp
  exact⟨bs,K _ _ _ _ _ hO hs fun d hd=>hb d (hbs d hd).1 (hbs d hd).2.1,fun b hb'=>⟨Nat.lt_of_lt_of_le (hbs b hb').1 hs,(hbs b hb').2⟩⟩⟩
theorem lT.below {α:Type} {O:World→Value→List α→List Nat→Prop} (K:qM O) {e:TypeId} {base:Nat} {bad:Nat→Prop} {w w':World} {v:Value} {ps:List (AE α)} (h:lT O e base bad w v ps) (hb:Below w.heap.size w w'):lT O e base bad w' v ps :=
 h.keep K hb.size fun b h1 _=>hb.block b h1
theorem lT.set {α:Type} {O:World→Value→List α→List Nat→Prop} (K:qM O) {e:TypeId} {base:Nat} {bad:Nat→Prop} {w:World} {v:Value} {ps:List (AE α)} (h:lT O e base bad w v ps) {b o:Nat} (hb:bad b) (x:Value):lT O e base bad (w.setCell ⟨b,o,none⟩ x) v ps :=
 h.keep K (by rw[Deep.nblk_setCell];exact aS _) fun d _ hn=>Deep.blk_setCell_other _ ⟨b,o,none⟩ _ d (fun e=>hn (e ▸ hb))
theorem lT.form {α:Type} {O:World→Value→List α→List Nat→Prop} {e:TypeId} {base:Nat} {bad:Nat→Prop} {w:World} {v:Value} {ps:List (AE α)} (h:lT O e base bad w v ps):∃a c,v=.slice a ps.length c∧ps.length≤c∧c≤9223372036854775807:=h.row.form
theorem lT.push {α:Type} {O:World→Value→List α→List Nat→Prop} (K:qM O) {t e:TypeId} {z:Value} {bytes:Nat} (ht:Tryz.prog.underlying t=some (.slice e)) (hinfo:(Tryz.prog.info? e).map (fun i=>(i.zero,i.size,i.bytes))=some (some z,1,bytes)) (hz:z.cells.size=1) (hby:bytes≤1000)
  {base:Nat} {bad:Nat→Prop} {w:World} {v:Value} {ps:List (AE α)} (h:lT O e base bad w v ps) (hb:base≤w.heap.size) (hl:ps.length≤1000000) (hbad:∀b,w.heap.size≤b→¬bad b) (p:AE α) {bs:List Nat} (hO:O w (aV p) p.1 bs) (hbs:∀b∈bs,b<w.heap.size∧¬bad b∧v.ownBlock≠some b) (ty:TypeId) :
  ∃v' w',(Builtin.append_ #[t,t] ty #[v,.slice (some ⟨w.heap.size,0,none⟩) 1 1]).run Tryz.prog (w.alloc (.cells #[.slice p.2.1 p.1.length p.2.2] e))=.ok v' w'∧lT O e base bad w' v' (ps++[p])∧Only v.ownBlock.toList w w':=by
 obtain⟨v',w',hr,hF,rR,hat⟩:=app1 (C:=aC) (c:=1) (bytes:=bytes) (z:=z) ht hinfo hz (by decide) (fun _=>rfl) Za h.row ty p hb hl hby
 have hne:∀b,b<w.heap.size→v.ownBlock≠some b→v'.ownBlock≠some b:=fun b hlt h1 e=>by
  rcases hat with ha|⟨g,ha,hg⟩
  ·exact h1 (ha.symm.trans e)
  ·rw[ha] at e;injection e with e;omega
 refine⟨v',w',hr,⟨hF,fun b e=>?_,fun q hq=>?_⟩,rR⟩
 ·rcases hat with ha|⟨g,ha,hg⟩
  ·exact h.own b (ha.symm.trans e)
  ·rw[ha] at e;injection e with e;subst e;exact hbad g hg
 ·have key:∀(q:AE α) (cs:List Nat),O w (aV q) q.1 cs→(∀b∈cs,b<w.heap.size∧¬bad b∧v.ownBlock≠some b)→∃bs,O w' (aV q) q.1 bs∧∀b∈bs,b<w'.heap.size∧¬bad b∧v'.ownBlock≠some b:=fun q cs hq hcs =>
   ⟨cs,K _ _ _ _ _ hq rR.size fun d hd=>rR.block d (hcs d hd).1 (fun hm=>(hcs d hd).2.2 (by simpa using hm)),fun b hb'=>⟨Nat.lt_of_lt_of_le (hcs b hb').1 rR.size,(hcs b hb').2.1,hne b (hcs b hb').1 (hcs b hb').2.2⟩⟩
  rcases List.mem_append.1 hq with hq|hq
  ·obtain⟨cs,h1,h2⟩:=h.el q hq
   exact key q cs h1 h2
  ·rw[List.mem_singleton.1 hq];exact key p bs hO hbs
theorem VD {α:Type} (ps:List (AE α)):flat aC ps=ps.map aV:=by
 unfold flat
 induction ps with
 | nil=>rfl
 | cons x t ih=>rw[List.map_cons,List.flatten_cons,ih];rfl
theorem Ce {α:Type} {O:World→Value→List α→List Nat→Prop} {w:World} {Q:Nat→Prop}:∀(ps:List (AE α)),(∀p∈ps,∃bs,O w (aV p) p.1 bs∧∀b∈bs,Q b)→∃bss:List (List Nat),bss.length=ps.length∧∀i (h:i<ps.length) (h2:i<bss.length),O w (aV ps[i]) ps[i].1 bss[i]∧∀b∈bss[i],Q b
 | [],_=>⟨[],rfl,fun i h=>absurd h (by simp)⟩
 | p :: ps,h=>by
  obtain⟨bs,h1,h2⟩:=h p (List.mem_cons_self ..)
  obtain⟨bss,hl,hr⟩:=Ce ps fun q hq=>h q (List.mem_cons_of_mem _ hq)
  refine⟨bs :: bss,by simp[hl],fun i hi hi2=>?_⟩
  match i,hi,hi2 with
  | 0,_,_=>exact⟨h1,h2⟩
  | i+1,hi,hi2=>exact hr i (by simpa using hi) (by simpa using hi2)
theorem lT.all {α:Type} {O:World→Value→List α→List Nat→Prop} {R:World→Nat→Nat→List α→List Nat→Prop} (hR:∀w b off x bs v,w.cell? ⟨b,off,none⟩=some v→O w v x bs→R w b off x bs)
  {e:TypeId} {base:Nat} {bad:Nat→Prop} {w:World} {v:Value} {ps:List (AE α)} (h:lT O e base bad w v ps) (hl:ps.length≤9223372036854775807):∃bs,bS 1 R w v (ps.map Prod.fst) bs∧∀b∈bs,b<w.heap.size∧¬bad b:=by
 obtain⟨bss,hlb,hbb⟩:=Ce ps h.el
 have h':w.ownsRow base e 1 v (ps.map aV).length (ps.map aV):=by rw[List.length_map,←VD];exact h.row
 rcases gu h' with⟨h0,rfl⟩|⟨g,cap',rfl,hg,hlt,hc⟩
 ·have:ps=[]:=List.map_eq_nil_iff.1 h0
  subst this
  exact⟨[],⟨by simp,.inl ⟨none,0,rfl,rfl,rfl⟩⟩,by simp⟩
 ·refine⟨g :: bss.flatten,⟨by rw[List.length_map];exact hl,.inr ⟨g,0,cap',bss,by rw[List.length_map,List.length_map],hlt,rfl,by rw[hlb,List.length_map],fun i hi h2=>?_⟩⟩,fun b hb=>?_⟩
  ·have hi':i<ps.length:=by rw[List.length_map] at hi;exact hi
   have q:=(hc i (by rw[List.length_map];exact hi')).1
   rw[List.getElem_map] at q
   rw[List.getElem_map]
   exact hR _ _ _ _ _ _ (by simpa using q) (hbb i hi' h2).1
  ·rw[List.mem_cons,List.mem_flatten] at hb
   rcases hb with rfl|⟨l,hl',hm⟩
   ·exact⟨hlt,h.own b (by simp[Value.ownBlock])⟩
   ·obtain⟨i,hi,rfl⟩:=List.getElem_of_mem hl'
    have:=(hbb i (by omega) hi).2 b hm
    exact⟨this.1,this.2.1⟩
theorem um:qM EN:=fun _ _ _ _ _ h s d=>⟨bS.kept d9 h.1 s d,h.2⟩
theorem zT:qM tX:=fun _ _ _ _ _ h s d=>bS.kept wJ h s d
theorem mW:qM bP:=fun _ _ _ _ _ h s d=>bS.kept fD h s d
def Cg (cs:List UInt8) (p:Nat):lW:=(List.range (tk cs p 4)).map fun x=>mQ cs (p+1+2 * x)
def Ch (cs:List UInt8) (p:Nat):Nat:=p+1+2 * tk cs p 4
def iW (cs:List UInt8) (p:Nat):Nat→List lW × Nat
 | 0=>([],p)
 | n+1=>((iW cs p n).1++[Cg cs (iW cs p n).2],Ch cs (iW cs p n).2)
def jA (cs:List UInt8) (p:Nat):Field × Nat:=iW cs (p+1) (tk cs p 3)
def dM (cs:List UInt8) (p:Nat):Nat→List Field × Nat
 | 0=>([],p)
 | n+1=>((dM cs p n).1++[(jA cs (dM cs p n).2).1],(jA cs (dM cs p n).2).2)
def uW:List ByteArray:=[⟨#[77,83,65]⟩,⟨#[81,80,68]⟩,⟨#[90,90,49]⟩,⟨#[81,65,75]⟩,⟨#[82,68,84]⟩,⟨#[65,48,48]⟩]
def uo (cs:List UInt8) (i p:Nat):Seg × Nat :=
 (⟨if i=0 then ⟨#[77,83,72]⟩ else uW.getD (tk cs p 6) ⟨#[]⟩,trimF (dM cs (p+1+1) (tk cs (p+1) 5)).1⟩,(dM cs (p+1+1) (tk cs (p+1) 5)).2)
def jk (cs:List UInt8) (p:Nat):Nat→List Seg × Nat
 | 0=>([],p)
 | n+1=>((jk cs p n).1++[(uo cs n (jk cs p n).2).1],(uo cs n (jk cs p n).2).2)
def l9 (L per lo hi:Nat):Nat:=if hi<lo+L / per then hi else lo+L / per
def nY (cs:List UInt8) (p:Nat):List Seg × Nat:=jk cs p (l9 cs.length 12 1 8)
theorem Ci (cs:List UInt8) (p:Nat):∀n,(iW cs p n).2≤p+7 * n
 | 0=>by show p≤_;omega
 | n+1=>by
  have:=Ci cs p n
  have h1:=su cs (iW cs p n).2 4 3 (by decide)
  show Ch cs _≤_
  unfold Ch
  omega
theorem OJ (cs:List UInt8) (p:Nat):(jA cs p).2≤p+15:=by
 have:=Ci cs (p+1) (tk cs p 3)
 have h1:=su cs p 3 2 (by decide)
 unfold jA
 omega
theorem wN (cs:List UInt8) (p:Nat):∀n,(dM cs p n).2≤p+15 * n
 | 0=>by show p≤_;omega
 | n+1=>by
  have:=wN cs p n
  have h1:=OJ cs (dM cs p n).2
  show (jA cs _).2≤_
  omega
theorem VE (cs:List UInt8) (i p:Nat):(uo cs i p).2≤p+62:=by
 have:=wN cs (p+1+1) (tk cs (p+1) 5)
 have h1:=su cs (p+1) 5 4 (by decide)
 unfold uo
 dsimp only
 omega
theorem Cj (cs:List UInt8) (p:Nat):∀n,(jk cs p n).2≤p+62 * n
 | 0=>by show p≤_;omega
 | n+1=>by
  have:=Cj cs p n
  have h1:=VE cs n (jk cs p n).2
  show (uo cs n _).2≤_
  omega
theorem rT (cs:List UInt8) (p:Nat):∀n,(iW cs p n).1.length=n
 | 0=>rfl
 | n+1=>by show ((iW cs p n).1++[_]).length=_;rw[List.length_append,rT cs p n];rfl
theorem rU (cs:List UInt8) (p:Nat):∀n,(dM cs p n).1.length=n
 | 0=>rfl
 | n+1=>by show ((dM cs p n).1++[_]).length=_;rw[List.length_append,rU cs p n];rfl
theorem rV (cs:List UInt8) (p:Nat):∀n,(jk cs p n).1.length=n
 | 0=>rfl
 | n+1=>by show ((jk cs p n).1++[_]).length=_;rw[List.length_append,rV cs p n];rfl
abbrev Jd:=Seg × (Option Addr × Nat)
def sgV (p:Jd):Value:=.slice p.2.1 p.1.fields.length p.2.2
def Lc (p:Jd):List Value:=[.string p.1.name,.slice p.2.1 p.1.fields.length p.2.2]
theorem VF:∀(p:Jd),∀u∈Lc p,u.oneCell'=true:=fun p u hu=>by
 simp only[Lc,List.mem_cons,List.not_mem_nil,or_false] at hu
 rcases hu with rfl|rfl <;> rfl
theorem VG:(Tryz.prog.info? 54).map (fun i=>(i.zero,i.size,i.bytes))=some (some (.agg #[.string ByteArray.empty,.slice none 0 0]),2,40):=by kernel_rfl
structure iB (base:Nat) (bad:Nat→Prop) (w:World) (v:Value) (ps:List Jd):Prop where
 row:FB Lc 2 54 base w v ps
 own:∀b,v.ownBlock=some b→¬bad b
 nm:∀p∈ps,p.1.name.size≤9223372036854775807
 el:∀p∈ps,∃bs,aN w (sgV p) p.1.fields bs∧∀b∈bs,b<w.heap.size∧¬bad b∧v.ownBlock≠some b
theorem iB.nil (base:Nat) (bad:Nat→Prop) (w:World):iB base bad w (.slice none 0 0) [] :=
 ⟨FB.nil _ _ _ _ _,(fun b h=>by simp[Value.ownBlock] at h),(fun p h=>by cases h),(fun p h=>by cases h)⟩
theorem iB.keep {base:Nat} {bad:Nat→Prop} {w w':World} {v:Value} {ps:List Jd} (h:iB base bad w v ps) (hs:w.heap.size≤w'.heap.size) (hb:∀b,b<w.heap.size→¬bad b→w'.heap[b]?=w.heap[b]?):iB base bad w' v ps :=
 ⟨h.row.keep fun b hb'=>hb b (h.row.own b hb').2 (h.own b (by simpa using hb')),h.own,h.nm,fun p hp=>by
  obtain⟨bs,hO,hbs⟩:=h.el p hp
  exact⟨bs,bS.kept bQ hO hs fun d hd=>hb d (hbs d hd).1 (hbs d hd).2.1,fun b hb'=>⟨Nat.lt_of_lt_of_le (hbs b hb').1 hs,(hbs b hb').2⟩⟩⟩
theorem iB.below {base:Nat} {bad:Nat→Prop} {w w':World} {v:Value} {ps:List Jd} (h:iB base bad w v ps) (hb:Below w.heap.size w w'):iB base bad w' v ps:=h.keep hb.size fun b h1 _=>hb.block b h1
theorem iB.set {base:Nat} {bad:Nat→Prop} {w:World} {v:Value} {ps:List Jd} (h:iB base bad w v ps) {b o:Nat} (hb:bad b) (x:Value):iB base bad (w.setCell ⟨b,o,none⟩ x) v ps :=
 h.keep (by rw[Deep.nblk_setCell];exact aS _) fun d _ hn=>Deep.blk_setCell_other _ ⟨b,o,none⟩ _ d (fun e=>hn (e ▸ hb))
theorem iB.form {base:Nat} {bad:Nat→Prop} {w:World} {v:Value} {ps:List Jd} (h:iB base bad w v ps):∃a c,v=.slice a ps.length c∧ps.length≤c∧c≤9223372036854775807:=h.row.form
theorem iB.push {base:Nat} {bad:Nat→Prop} {w:World} {v:Value} {ps:List Jd} (h:iB base bad w v ps) (hb:base≤w.heap.size) (hl:ps.length≤1000000) (hbad:∀b,w.heap.size≤b→¬bad b) (p:Jd) (hn:p.1.name.size≤9223372036854775807) {bs:List Nat} (hO:aN w (sgV p) p.1.fields bs) (hbs:∀b∈bs,b<w.heap.size∧¬bad b∧v.ownBlock≠some b) (ty:TypeId) :
  ∃v' w',(Builtin.append_ #[26,26] ty #[v,.slice (some ⟨w.heap.size,0,none⟩) 1 1]).run Tryz.prog (w.alloc (.cells #[.string p.1.name,.slice p.2.1 p.1.fields.length p.2.2] 54))=.ok v' w'∧iB base bad w' v' (ps++[p])∧Only v.ownBlock.toList w w':=by
 obtain⟨v',w',hr,hF,rR,hat⟩:=app1 (C:=Lc) (c:=2) (bytes:=40) (z:=.agg #[.string ByteArray.empty,.slice none 0 0]) Tryz.underlying26 VG rfl (by decide) (fun _=>rfl) VF h.row ty p hb hl (by decide)
 have hne:∀b,b<w.heap.size→v.ownBlock≠some b→v'.ownBlock≠some b:=fun b hlt h1 e=>by
  rcases hat with ha|⟨g,ha,hg⟩
  ·exact h1 (ha.symm.trans e)
  ·rw[ha] at e;injection e with e;omega
 refine⟨v',w',hr,⟨hF,fun b e=>?_,fun q hq=>?_,fun q hq=>?_⟩,rR⟩
 ·rcases hat with ha|⟨g,ha,hg⟩
  ·exact h.own b (ha.symm.trans e)
  ·rw[ha] at e;injection e with e;subst e;exact hbad g hg
 ·rcases List.mem_append.1 hq with hq|hq
  ·exact h.nm q hq
  ·rw[List.mem_singleton.1 hq];exact hn
 ·have key:∀(q:Jd) (cs:List Nat),aN w (sgV q) q.1.fields cs→(∀b∈cs,b<w.heap.size∧¬bad b∧v.ownBlock≠some b)→∃bs,aN w' (sgV q) q.1.fields bs∧∀b∈bs,b<w'.heap.size∧¬bad b∧v'.ownBlock≠some b:=fun q cs hq hcs =>
   ⟨cs,bS.kept bQ hq rR.size fun d hd=>rR.block d (hcs d hd).1 (fun hm=>(hcs d hd).2.2 (by simpa using hm)),fun b hb'=>⟨Nat.lt_of_lt_of_le (hcs b hb').1 rR.size,(hcs b hb').2.1,hne b (hcs b hb').1 (hcs b hb').2.2⟩⟩
  rcases List.mem_append.1 hq with hq|hq
  ·obtain⟨cs,h1,h2⟩:=h.el q hq
   exact key q cs h1 h2
  ·rw[List.mem_singleton.1 hq];exact key p bs hO hbs
theorem VH {P:Nat→Prop} {e:TypeId} {base:Nat} {w:World} {u:Value} {fs:List Field} (h:jS bP P e base w u fs) (hl:fs.length≤9223372036854775807):∃a c bs,u=.slice a fs.length c∧aN w (.slice a fs.length c) fs bs∧∀b∈bs,b<w.heap.size∧(P b∨base≤b):=by
 obtain⟨a,cap,e1,_,_,_,bs,hO,hbs⟩:=jS.first (R:=qZ) (fun w b off x bs v h1 h2=>⟨v,h1,h2⟩) h hl (n:=fs.length) (aS _)
 rw[List.take_length] at hO
 exact⟨a,cap,bs,e1,hO,hbs⟩
structure Env (w:World):Prop where
 tab:Lib.TabIs Tryz.prog w "internal/strconv.uint64pow10" .u64 Lib.pow10Tab
 syn:∃ev,w.cell? ⟨2,0,none⟩=some ev∧(ev=.nilIface∨∃te pe,ev=.iface te pe)
 rng:∃ev,w.cell? ⟨3,0,none⟩=some ev∧(ev=.nilIface∨∃te pe,ev=.iface te pe)
theorem lt_of_cell {w:World} {b o:Nat} {v:Value} (h:w.cell? ⟨b,o,none⟩=some v):b<w.heap.size:=by
 rcases Nat.lt_or_ge b w.heap.size with h'|h'
 ·exact h'
 ·simp[World.cell?,Array.getElem?_eq_none h'] at h
theorem Zb:Tryz.prog.globalNamed "internal/strconv.uint64pow10"=some 6:=by kernel_rfl
theorem Je {w w':World} (h:Below w.heap.size w w') (hv:Lib.TabIs Tryz.prog w "internal/strconv.uint64pow10" .u64 Lib.pow10Tab):Lib.TabIs Tryz.prog w' "internal/strconv.uint64pow10" .u64 Lib.pow10Tab:=by
 have hc:w.cell? ⟨6,0,none⟩=some (.int .u64 1):=by simpa [Lib.pow10Tab] using World.var?_cell Zb hv 0
 exact var?_below h Zb (lt_of_cell hc) hv
theorem Env.kept {w w':World} (h:Env w) (hb:Below w.heap.size w w'):Env w':=by
 obtain⟨h1,⟨e2,c2,d2⟩,⟨e3,c3,d3⟩⟩:=h
 exact⟨Je hb h1,⟨e2,by rw[hb.cell (p:=⟨2,0,none⟩) (lt_of_cell c2)];exact c2,d2⟩,⟨e3,by rw[hb.cell (p:=⟨3,0,none⟩) (lt_of_cell c3)];exact c3,d3⟩⟩
theorem abC (v:Int) (s:ByteArray):((⟨(Lib.itoa v).toArray⟩:ByteArray).toList == s.toList)=(Lib.itoa v == s.data.toList):=by
 rw[ByteArray.toList_eq,ByteArray.toList_eq]
set_option maxRecDepth 100000 in
set_option maxHeartbeats 1000000 in
theorem xU (s:ByteArray) (w:World) (hs:s.size≤1048576) (hE:Env w) :
  Calls Tryz.prog 72 #[.string s] w fun e w'=>e=.returned (.int .i64 (jB s.data.toList))∧Below w.heap.size w w':=by
 have HE:=hide hE
 clear hE
 have HN:Hid (jB s.data.toList=match Lib.atoiAll s.data.toList with
  | .ok v=>if Lib.itoa v == s.data.toList then v else 0
  | _=>0):=rfl
 cases ha:Lib.atoiAll s.data.toList with
 | ok v =>
  have HB:=hide (Lib.atoiAll_bounds ha)
  have HA:=hide ha
  have HI:=hide (abC v s)
  have HAT:Hid (∀W,Calls Tryz.prog 99 #[.string s] W fun e w'=>e=.returned (.tuple #[.int .i64 v,.nilIface])∧Below W.heap.size W w'):=fun W=>(Tryz.strconv_Atoi_ok s (by omega) v HA.out W).mono fun e w' ⟨h1,h2⟩=>⟨h1,by
   rcases h2 with rfl|⟨t,rfl⟩
   ·exact Below.refl _ _
   ·exact Lib.bytesWorld_below _ _ _⟩
  have HIT:Hid (∀W,Env W→Calls Tryz.prog 100 #[.int .i64 v] W fun e w'=>e=.returned (.string ⟨(Lib.itoa v).toArray⟩)∧Below W.heap.size W w'):=fun W hW=>(Tryz.strconv_Itoa v HB.out.1 HB.out.2 W hW.tab).mono fun e w' ⟨h1,k,os,h2⟩=>⟨h1,by subst h2;exact Lib.below_grow _ _ (aS _) _ _⟩
  obtain⟨z,hz⟩:∃z:ByteArray,(⟨(Lib.itoa v).toArray⟩:ByteArray)=z:=⟨_,rfl⟩
  rw[hz] at HI HIT
  clear hz ha
  cases he:(z.toList == s.toList)
  ·have HX:Hid (jB s.data.toList=0):=by rw[HN.out,HA.out];show (if _ then _ else _)=_;rw[←HI.out,he];rfl
   go_enter Tryz.func72,Tryz.ntmps72
   go_wp2_with fail
   refine(HAT.out _).mono ?_
   rintro e w1 ⟨rfl,hb1⟩
   have HE1:=hide (HE.out.kept hb1)
   go_wp2_with (go_at_call 100;refine(HIT.out _ HE1.out).mono ?_;rintro e w2 ⟨rfl,hb2⟩)
   go_ret
   exact⟨jh HX.out.symm,aj hb2 hb1⟩
  ·have HX:Hid (jB s.data.toList=v):=by rw[HN.out,HA.out];show (if _ then _ else _)=_;rw[←HI.out,he];rfl
   go_enter Tryz.func72,Tryz.ntmps72
   go_wp2_with fail
   refine(HAT.out _).mono ?_
   rintro e w1 ⟨rfl,hb1⟩
   have HE1:=hide (HE.out.kept hb1)
   go_wp2_with (go_at_call 100;refine(HIT.out _ HE1.out).mono ?_;rintro e w2 ⟨rfl,hb2⟩)
   go_ret
   exact⟨jh HX.out.symm,aj hb2 hb1⟩
 | «syntax» =>
  have HX:Hid (jB s.data.toList=0):=by rw[HN.out,ha];trivial
  obtain⟨ev,hv,hev⟩:=HE.out.syn
  have HAT:=hide (Tryz.strconv_Atoi_syntax s (by omega) ha ev w hv hev)
  clear ha hv hev
  go_enter Tryz.func72,Tryz.ntmps72
  go_wp2_with fail
  refine HAT.out.mono ?_
  rintro e w1 ⟨N,rfl,_,_,hb1⟩
  go_wp2_with fail
  go_ret
  exact⟨jh HX.out.symm,hb1⟩
 | range =>
  have HX:Hid (jB s.data.toList=0):=by rw[HN.out,ha];trivial
  obtain⟨ev,hv,hev⟩:=HE.out.rng
  have HAT:=hide (Tryz.strconv_Atoi_range s (by omega) ha ev w hv hev)
  clear ha hv hev
  go_enter Tryz.func72,Tryz.ntmps72
  go_wp2_with fail
  refine HAT.out.mono ?_
  rintro e w1 ⟨N,rfl,_,_,hb1⟩
  go_wp2_with fail
  go_ret
  exact⟨jh HX.out.symm,hb1⟩
end Go.Proofs.YtfdihjnlgdiioaaGreatDoor.dB
