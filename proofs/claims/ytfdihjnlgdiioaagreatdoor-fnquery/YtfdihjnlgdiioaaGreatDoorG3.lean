import Derived.Test.YtfdihjnlgdiioaaGreatDoorG0
import Derived.Lib.Split
import Derived.Lib.SplitLaws
import Derived.Lib.CountLaws
import Derived.Lib.IndexBytes
import Derived.Test.YtfdihjnlgdiioaaGreatDoorShelf
import Derived.Lib.AppendStr
namespace Go.Proofs.YtfdihjnlgdiioaaGreatDoor.dB
set_option linter.unusedVariables false
set_option linter.unusedSimpArgs false
theorem kJ (c:UInt8):∀l:List UInt8,(Lib.indexByte l c = -1∧∀x∈l,x≠c)∨∃i:Nat,Lib.indexByte l c=i∧i<l.length∧l=l.take i++c :: l.drop (i+1)∧∀x∈l.take i,x≠c
 | []=>.inl ⟨rfl,fun _ h=>by cases h⟩
 | b :: l=>by
  by_cases hb:b=c
  ·subst hb
   refine .inr ⟨0,?_,by simp,by simp,fun x h=>by simp at h⟩
   unfold Lib.indexByte
   rw[if_pos (by simp)]
   rfl
  ·have hb':(b == c)=false:=by rw[beq_eq_false_iff_ne];exact hb
   rcases kJ c l with⟨h1,h2⟩|⟨i,h1,h2,h3,h4⟩
   ·refine .inl ⟨?_,fun x hx=>?_⟩
    ·unfold Lib.indexByte
     rw[hb',h1];rfl
    ·rw[List.mem_cons] at hx
     rcases hx with rfl|hx
     ·exact hb
     ·exact h2 x hx
   ·refine .inr ⟨i+1,?_,by simp;omega,?_,fun x hx=>?_⟩
    ·unfold Lib.indexByte
     rw[hb',h1]
     have:((i:Int) == -1)=false:=by rw[beq_eq_false_iff_ne];omega
     rw[this]
     simp only[Bool.false_eq_true,if_false]
     omega
    ·rw[List.take_succ_cons,List.drop_succ_cons,List.cons_append,←h3]
    ·rw[List.take_succ_cons,List.mem_cons] at hx
     rcases hx with rfl|hx
     ·exact hb
     ·exact h4 x hx
theorem NI (c:UInt8) (a b cur:List UInt8) (h:∀x∈a,x≠c):bU c cur (a++c :: b)=(cur++a) :: bU c [] b:=by
 rw[kN c a (c :: b) cur h]
 conv=>lhs;unfold bU
 rw[if_pos rfl]
theorem NJ (c:UInt8) (l:List UInt8) (h:∀x∈l,x≠c):bI c l=[l]:=by
 unfold bI
 have:=kN c l [] [] h
 rw[List.append_nil] at this
 rw[this]
 simp[bU]
theorem Bo (c:UInt8):∀(n:Nat) (l:List UInt8),l.length≤n→Lib.splitK [c] 0 (Lib.count l [c]) l=bI c l
 | n,l,hn=>by
  rcases kJ c l with⟨h1,h2⟩|⟨i,h1,h2,h3,h4⟩
  ·rw[Lib.count_miss (by rw[Lib.index_one];exact h1),NJ c l h2]
   rfl
  ·match n with
   | 0=>omega
   | n+1 =>
    have hi:Lib.index l [c]=i:=by rw[Lib.index_one];exact h1
    have ih:=Bo c n (l.drop (i+1)) (by simp;omega)
    rw[Lib.count_hit (by simp) hi,Nat.add_comm 1]
    unfold Lib.splitK
    rw[hi]
    have hm:((i:Int) == -1)=false:=by rw[beq_eq_false_iff_ne];omega
    rw[hm]
    simp only[Bool.false_eq_true,if_false,Int.toNat_natCast,Nat.add_zero,List.length_cons,List.length_nil,Nat.zero_add]
    rw[ih]
    conv=>rhs;rw[h3]
    unfold bI
    rw[NI c _ _ [] h4]
    rfl
theorem wD (c:UInt8) (s:ByteArray):Lib.splitB ⟨#[c]⟩ 0 (Lib.countB s ⟨#[c]⟩) s=(bI c s.data.toList).map txt:=by
 have h1:=Lib.splitB_data ⟨#[c]⟩ 0 (Lib.countB s ⟨#[c]⟩) s
 have h2:Lib.countB s ⟨#[c]⟩=Lib.count s.data.toList [c]:=rfl
 rw[h2] at h1 ⊢
 have h3:Lib.splitK (⟨#[c]⟩:ByteArray).data.toList 0 (Lib.count s.data.toList [c]) s.data.toList=bI c s.data.toList:=Bo c _ _ (aS _)
 rw[h3] at h1
 rw[←h1,List.map_map]
 conv=>lhs;rw[←List.map_id (Lib.splitB _ _ _ _)]
 apply List.map_congr_left
 intro x _
 exact(qj x).symm
theorem Kr (c:UInt8) (s:ByteArray):Lib.countB s ⟨#[c]⟩+1=(bI c s.data.toList).length:=by
 have h:=Lib.splitB_all ⟨#[c]⟩ (Nat.le_refl 1) 0 _ s rfl
 rw[wD,List.length_map] at h
 exact h.symm
end Go.Proofs.YtfdihjnlgdiioaaGreatDoor.dB
namespace Go.Proofs.YtfdihjnlgdiioaaGreatDoor.dB
open Go.ChangeShapes Go.WideShapes Go.ChangeAt Go.RowKit
set_option linter.unusedVariables false
set_option linter.unusedSimpArgs false
def Mx (w:World):Prop:=∃m,w.cell? ⟨1,0,none⟩=some (.int .i64 m)
theorem Mx.pos {w:World} (h:Mx w):1<w.heap.size:=by
 obtain⟨m,h⟩:=h
 by_cases h0:1<w.heap.size
 ·exact h0
 ·simp[World.cell?,Array.getElem?_eq_none (show w.heap.size≤1 by omega)] at h
theorem Mx.below {w w':World} (h:Mx w) {B:Nat} (hB:1<B) (hb:Below B w w'):Mx w':=by
 have hp:=h.pos
 obtain⟨m,h⟩:=h
 exact⟨m,by rw[hb.cell (p:=⟨1,0,none⟩) hB];exact h⟩
theorem Mx.kept {w w':World} (h:Mx w) (hb:Below w.heap.size w w'):Mx w':=h.below h.pos hb
theorem NK (c:UInt8) (w:World):Sem.run Tryz.prog (convert 22 9 (.slice (some ⟨w.heap.size,0,none⟩) 1 1)) (w.alloc (.cells #[.int .u8 (c.toNat:Int)] 5))=.ok (.string ⟨#[c]⟩) (w.alloc (.cells #[.int .u8 (c.toNat:Int)] 5)):=by
 have h:=run_convert_bytes_arg (w.alloc (.cells #[.int .u8 (c.toNat:Int)] 5)) 22 5 Tryz.underlying22 Tryz.underlying5 w.heap.size 0 1 1 [(c.toNat:Int)] rfl (by
  intro i hi
  have:i=0:=by omega
  subst this
  simp) 9 Tryz.underlying9
 have e:strOfNums [(c.toNat:Int)]=(⟨#[c]⟩:ByteArray):=by unfold strOfNums;simp
 rw[h,e]
set_option maxHeartbeats 1000000 in
theorem lG (s:ByteArray) (c:UInt8) (w:World) (hs:s.size≤1048576) (hm:Mx w) :
  Calls Tryz.prog 29 #[.string s,.int .u8 (c.toNat:Int)] w fun e w'=>∃u,e=.returned u∧oG w.heap.size w' u ((bI c s.data.toList).map txt)∧Below w.heap.size w w':=by
 have hp:=hm.pos
 obtain⟨m,hmc⟩:=hm
 have hb0:=(Below.refl w.heap.size w).alloc (aS _) (Obj.cells #[.int .u8 (c.toNat:Int)] 5)
 have hm2:(w.alloc (.cells #[.int .u8 (c.toNat:Int)] 5)).cell? ⟨1,0,none⟩=some (.int .i64 m):=by rw[hb0.cell (p:=⟨1,0,none⟩) hp];exact hmc
 have hcv:=NK c w
 have hn:=Kr c s
 have hlen:=lX c s.data.toList
 have hsl:s.data.toList.length=s.size:=by simp
 have jG:Hid (oG w.heap.size ((w.alloc (.cells #[.int .u8 (c.toNat:Int)] 5)).alloc (.cells ((Lib.splitB ⟨#[c]⟩ 0 (Lib.countB s ⟨#[c]⟩) s).map Value.string).toArray 9)) (.slice (some ⟨w.heap.size+1,0,none⟩) (Lib.countB s ⟨#[c]⟩+1) (Lib.countB s ⟨#[c]⟩+1)) ((bI c s.data.toList).map txt)):=by
  have h:=World.ownsRow_lit (base:=w.heap.size) (e:=9) (size:=1) (w.alloc (.cells #[.int .u8 (c.toNat:Int)] 5)) ((Lib.splitB ⟨#[c]⟩ 0 (Lib.countB s ⟨#[c]⟩) s).map Value.string).toArray (Lib.countB s ⟨#[c]⟩+1) (by simp) (by unfold maxLen;omega) (by rw[wD,hn];simp)
  have hs1:(w.alloc (.cells #[.int .u8 (c.toNat:Int)] 5)).heap.size=w.heap.size+1:=by simp
  rw[hs1] at h
  show World.ownsRow _ _ _ _ _ _ _
  rw[wD] at h ⊢
  rw[List.length_map,←hn]
  simpa using h
 have HB:Hid (Below w.heap.size w ((w.alloc (.cells #[.int .u8 (c.toNat:Int)] 5)).alloc (.cells ((Lib.splitB ⟨#[c]⟩ 0 (Lib.countB s ⟨#[c]⟩) s).map Value.string).toArray 9))):=hb0.alloc (by simp) _
 clear hn hlen hsl hmc
 go_enter Tryz.func29,Tryz.ntmps29
 go_wp2_with fail
 refine(Tryz.strings_Split s ⟨#[c]⟩ m _ (by omega) hm2 (Nat.le_refl 1)).mono ?_
 rintro e w' ⟨rfl,rfl⟩
 clear hcv
 go_wp2_with fail
 go_ret
 exact⟨_,rfl,jG.out,HB.out⟩
def esc (c:UInt8):List UInt8 :=
 if c.toNat=124 then [92,70,92] else if c.toNat=94 then [92,83,92] else if c.toNat=38 then [92,84,92] else if c.toNat=126 then [92,82,92] else if c.toNat=92 then [92,69,92] else [c]
def dR (l:List UInt8):List UInt8:=l.flatMap esc
theorem Yl (c:UInt8):(esc c).length≤3:=by
 unfold esc
 repeat (split;· decide)
 simp
theorem Ey (l:List UInt8) (c:UInt8):dR (l++[c])=dR l++esc c:=by simp[dR]
theorem FK (l:List UInt8):(dR l).length≤3 * l.length:=by
 induction l with
 | nil=>simp[dR]
 | cons c l ih =>
  have h:=Yl c
  simp only[dR,List.flatMap_cons,List.length_append,List.length_cons] at ih ⊢
  omega
set_option maxRecDepth 100000 in
set_option maxHeartbeats 1000000 in
theorem Hw (base:Nat) (bs:List UInt8) (s:ByteArray) (v:Value) (w:World) (hown:Buf base w v bs) (hbase:base≤w.heap.size) (hl:bs.length+3 * s.size≤70368744177664) :
  Calls Tryz.prog 98 #[v,.string s] w fun e w'=>∃u,e=.returned u∧Buf base w' u (bs++dR s.data.toList)∧fQ w v w' u:=by
 obtain⟨i0,hi,hz0,hz1,hz2⟩:=oD
 go_enter Tryz.func98,Tryz.ntmps98
 go_wp2
 go_loopw [0,5] (fun v1 i wr=>∃k:Nat,k≤s.size∧i=.int .i64 k∧Buf base wr v1 (bs++dR (s.data.toList.take k))∧fQ w v wr v1) (fun _ i _=>s.size - (intOf i).toNat)
 case atStart=>exact⟨0,eH _,rfl,by simpa [dR] using hown,fQ.refl _ _⟩
 case round =>
  obtain⟨k,hk,rfl,hbuf,hb⟩:=hrel
  by_cases hlt:k<s.size
  ·have HT:Hid (bs++dR (s.data.toList.take (k+1))=(bs++dR (s.data.toList.take k))++esc s[k]):=by rw[uO s k hlt,Ey,List.append_assoc];trivial
   have hlen:(bs++dR (s.data.toList.take k)).length≤bs.length+3 * k:=by
    have:=FK (s.data.toList.take k)
    have h2:(s.data.toList.take k).length≤k:=List.length_take_le _ _
    rw[List.length_append];omega
   have hz:base≤wr.heap.size:=Nat.le_trans hbase hb.1.size
   have HE:Hid (∀d:List UInt8,d=esc s[k]→bs++dR (s.data.toList.take k)++d=bs++dR (s.data.toList.take (k+1))):=fun d hd=>by rw[HT.out,hd]
   have HU:Hid (esc s[k]=if s[k].toNat=124 then [92,70,92] else if s[k].toNat=94 then [92,83,92] else if s[k].toNat=38 then [92,84,92] else if s[k].toNat=126 then [92,82,92] else if s[k].toNat=92 then [92,69,92] else [s[k]]):=rfl
   generalize hB:bs++dR (s.data.toList.take k)=B at *
   clear HT hB
   by_cases h1:s[k].toNat=124
   ·have h1':((s[k].toNat:Int) == 124)=true:=by simp;omega
    have H1:=hide h1
    clear h1
    go_wp2_with fail
    refine(q8 base B ⟨#[92,70,92]⟩ _ _ hbuf hz (by have:(⟨#[92,70,92]⟩:ByteArray).size=3:=rfl;omega)).mono ?_
    rintro e w2 ⟨u,rfl,hu,hb2⟩
    go_wp2_with fail
    go_roundw
    case rel=>exact⟨k+1,by omega,by go_num,by rw[←HE.out _ (by rw[HU.out,if_pos H1.out])];exact hu,hb.trans hb2⟩
    case measure=>simp[intOf];omega
   have h1':((s[k].toNat:Int) == 124)=false:=by simp;omega
   have H1:=hide h1
   clear h1
   by_cases h2:s[k].toNat=94
   ·have h2':((s[k].toNat:Int) == 94)=true:=by simp;omega
    have H2:=hide h2
    clear h2
    go_wp2_with fail
    refine(q8 base B ⟨#[92,83,92]⟩ _ _ hbuf hz (by have:(⟨#[92,83,92]⟩:ByteArray).size=3:=rfl;omega)).mono ?_
    rintro e w2 ⟨u,rfl,hu,hb2⟩
    go_wp2_with fail
    go_roundw
    case rel=>exact⟨k+1,by omega,by go_num,by rw[←HE.out _ (by rw[HU.out,if_neg H1.out,if_pos H2.out])];exact hu,hb.trans hb2⟩
    case measure=>simp[intOf];omega
   have h2':((s[k].toNat:Int) == 94)=false:=by simp;omega
   have H2:=hide h2
   clear h2
   by_cases h3:s[k].toNat=38
   ·have h3':((s[k].toNat:Int) == 38)=true:=by simp;omega
    have H3:=hide h3
    clear h3
    go_wp2_with fail
    refine(q8 base B ⟨#[92,84,92]⟩ _ _ hbuf hz (by have:(⟨#[92,84,92]⟩:ByteArray).size=3:=rfl;omega)).mono ?_
    rintro e w2 ⟨u,rfl,hu,hb2⟩
    go_wp2_with fail
    go_roundw
    case rel=>exact⟨k+1,by omega,by go_num,by rw[←HE.out _ (by rw[HU.out,if_neg H1.out,if_neg H2.out,if_pos H3.out])];exact hu,hb.trans hb2⟩
    case measure=>simp[intOf];omega
   have h3':((s[k].toNat:Int) == 38)=false:=by simp;omega
   have H3:=hide h3
   clear h3
   by_cases h4:s[k].toNat=126
   ·have h4':((s[k].toNat:Int) == 126)=true:=by simp;omega
    have H4:=hide h4
    clear h4
    go_wp2_with fail
    refine(q8 base B ⟨#[92,82,92]⟩ _ _ hbuf hz (by have:(⟨#[92,82,92]⟩:ByteArray).size=3:=rfl;omega)).mono ?_
    rintro e w2 ⟨u,rfl,hu,hb2⟩
    go_wp2_with fail
    go_roundw
    case rel=>exact⟨k+1,by omega,by go_num,by rw[←HE.out _ (by rw[HU.out,if_neg H1.out,if_neg H2.out,if_neg H3.out,if_pos H4.out])];exact hu,hb.trans hb2⟩
    case measure=>simp[intOf];omega
   have h4':((s[k].toNat:Int) == 126)=false:=by simp;omega
   have H4:=hide h4
   clear h4
   by_cases h5:s[k].toNat=92
   ·have h5':((s[k].toNat:Int) == 92)=true:=by simp;omega
    have H5:=hide h5
    clear h5
    go_wp2_with fail
    refine(q8 base B ⟨#[92,69,92]⟩ _ _ hbuf hz (by have:(⟨#[92,69,92]⟩:ByteArray).size=3:=rfl;omega)).mono ?_
    rintro e w2 ⟨u,rfl,hu,hb2⟩
    go_wp2_with fail
    go_roundw
    case rel=>exact⟨k+1,by omega,by go_num,by rw[←HE.out _ (by rw[HU.out,if_neg H1.out,if_neg H2.out,if_neg H3.out,if_neg H4.out,if_pos H5.out])];exact hu,hb.trans hb2⟩
    case measure=>simp[intOf];omega
   have h5':((s[k].toNat:Int) == 92)=false:=by simp;omega
   have H5:=hide h5
   clear h5
   go_wp2_with (first
    | (at_builtin;refine wpList_append_own_at _ rfl _ _ 22 rfl base 5 i0 (.int .u8 0) 1 1 Tryz.underlying22 hi hz0 hz1 hz2 rfl (by decide) _ _ _ rfl (World.ownsRow.alloc hbuf _) ⟨wr.heap.size,0,none⟩ 1 1 [.int .u8 s[k].toNat] rfl rfl ?c1 ?c2 ?c3 ?c4 ?c5 ?_)
    | go_in)
   case c1=>exact gH _ _ _
   case c2=>exact oF _
   case c3=>unfold maxLen;omega
   case c4=>omega
   case c5=>simp;omega
   ·intro v' w' hown' hgrow hnil hat
    have R:=Buf.snoc (bs:=B) s[k] _ hb rfl hown' hgrow hat
    clear hown' hgrow hnil hat hbuf hb
    go_wp2
    go_roundw
    case rel=>exact⟨k+1,by omega,by go_num,by rw[←HE.out _ (by rw[HU.out,if_neg H1.out,if_neg H2.out,if_neg H3.out,if_neg H4.out,if_neg H5.out])];exact R.1,R.2⟩
    case measure=>simp[intOf];omega
  ·go_wp2
   go_ret
   exact⟨_,rfl,by rw[List.take_of_length_le (by simp;omega)] at hbuf;exact hbuf,hb⟩
end Go.Proofs.YtfdihjnlgdiioaaGreatDoor.dB
namespace Go.Proofs.YtfdihjnlgdiioaaGreatDoor.dB
set_option linter.unusedVariables false
set_option linter.unusedSimpArgs false
def joined {α:Type} (sep:UInt8) (f:α→List UInt8) (xs:List α):List UInt8:=xs.zipIdx.flatMap fun p=>(if p.2=0 then [] else [sep])++f p.1
def iY (r:lW):List UInt8:=joined 94 (fun c=>dR c.data.toList) r
def iE (f:Field):List UInt8:=joined 126 iY f
def bT (fs:List Field):List UInt8:=fs.flatMap fun f=>124 :: iE f
def qD (i:Nat) (s:Seg):List UInt8:=s.name.data.toList++(if i=0 then [124,94,126,92,38] else [])++bT s.fields++[13]
def iq (m:List Seg):List UInt8:=m.zipIdx.flatMap fun p=>qD p.2 p.1
theorem Bp {α:Type} (xs:List α) (k:Nat) (h:k<xs.length):(xs.take (k+1)).zipIdx=(xs.take k).zipIdx++[(xs[k],k)]:=by
 rw[List.take_succ_eq_append_getElem h,List.zipIdx_append]
 simp[Nat.min_eq_left (Nat.le_of_lt h)]
theorem nZ {α:Type} (g:α × Nat→List UInt8) (xs:List α) (k:Nat):((xs.take k).zipIdx.flatMap g).length≤(xs.zipIdx.flatMap g).length:=by
 conv=>rhs;rw[←List.take_append_drop k xs]
 rw[List.zipIdx_append,List.flatMap_append,List.length_append]
 omega
theorem nu {α:Type} (sep:UInt8) (f:α→List UInt8) (xs:List α) (k:Nat) (h:k<xs.length):joined sep f (xs.take (k+1))=joined sep f (xs.take k)++((if k=0 then [] else [sep])++f xs[k]):=by
 unfold joined
 rw[Bp xs k h,List.flatMap_append]
 simp
theorem tJ {α:Type} (sep:UInt8) (f:α→List UInt8) (xs:List α) (k:Nat) (h:k<xs.length) :
  (joined sep f (xs.take k)).length+((if k=0 then 0 else 1)+(f xs[k]).length)≤(joined sep f xs).length:=by
 have h1:=nZ (fun p=>(if p.2=0 then [] else [sep])++f p.1) xs (k+1)
 have h2:=nu sep f xs k h
 change (joined sep f (xs.take (k+1))).length≤(joined sep f xs).length at h1
 rw[h2,List.length_append,List.length_append] at h1
 split <;> split at h1 <;> simp_all <;> omega
theorem rA (xs:List Field) (k:Nat) (h:k<xs.length):bT (xs.take (k+1))=bT (xs.take k)++(124 :: iE xs[k]):=by
 unfold bT
 rw[List.take_succ_eq_append_getElem h,List.flatMap_append]
 simp
theorem xB (xs:List Field) (k:Nat) (h:k<xs.length):(bT (xs.take k)).length+(1+(iE xs[k]).length)≤(bT xs).length:=by
 have h1:(bT (xs.take (k+1))).length≤(bT xs).length:=by
  unfold bT
  conv=>rhs;rw[←List.take_append_drop (k+1) xs]
  rw[List.flatMap_append,List.length_append]
  omega
 rw[rA xs k h,List.length_append,List.length_cons] at h1
 omega
theorem yS (xs:List Seg) (k:Nat) (h:k<xs.length):iq (xs.take (k+1))=iq (xs.take k)++qD k xs[k]:=by
 unfold iq
 rw[Bp xs k h,List.flatMap_append]
 simp
theorem Ez (xs:List Seg) (k:Nat) (h:k<xs.length):(iq (xs.take k)).length+(qD k xs[k]).length≤(iq xs).length:=by
 have h1:=nZ (fun p=>qD p.2 p.1) xs (k+1)
 change (iq (xs.take (k+1))).length≤(iq xs).length at h1
 rw[yS xs k h,List.length_append] at h1
 exact h1
theorem Az {α:Type} (g:α × Nat→List UInt8) (f:α→Nat) (h:∀p,(g p).length≤f p.1):∀(xs:List α) (n:Nat),((xs.zipIdx n).flatMap g).length≤sumOf f xs
 | [],_=>by simp[sumOf]
 | x :: xs,n=>by
  have ih:=Az g f h xs (n+1)
  have hx:=h (x,n)
  simp only[sumOf,List.zipIdx_cons,List.flatMap_cons,List.length_append,List.map_cons,List.sum_cons] at *
  omega
theorem Qs {α:Type} (f g:α→Nat) (h:∀x,f x≤g x):∀xs:List α,sumOf f xs≤sumOf g xs
 | []=>by simp[sumOf]
 | x :: xs=>by
  have ih:=Qs f g h xs
  have hx:=h x
  simp only[sumOf,List.map_cons,List.sum_cons] at *
  omega
theorem AA {α:Type} (f:α→Nat) (a c:Nat):∀xs:List α,sumOf (fun x=>a+c * f x) xs=a * xs.length+c * sumOf f xs
 | []=>by simp[sumOf]
 | x :: xs=>by
  have ih:=AA f a c xs
  simp only[sumOf,List.map_cons,List.sum_cons,List.length_cons] at *
  rw[ih,Nat.mul_add,Nat.mul_add]
  omega
theorem MH (r:lW):(iY r).length≤3 * iw r:=by
 have h:=Az (fun p:ByteArray × Nat=>(if p.2=0 then [] else [94])++dR p.1.data.toList) (fun c=>1+3 * pU c) (fun p=>by
  have:=FK p.1.data.toList
  have h2:p.1.data.toList.length=pU p.1:=by simp[pU]
  rw[List.length_append]
  split <;> simp <;> omega) r 0
 rw[AA] at h
 change (iY r).length≤_ at h
 unfold iw aH
 omega
theorem EA (f:Field):(iE f).length≤3 * aF f:=by
 have h:=Az (fun p:lW × Nat=>(if p.2=0 then [] else [126])++iY p.1) (fun c=>1+3 * iw c) (fun p=>by
  have:=MH p.1
  rw[List.length_append]
  split <;> simp <;> omega) f 0
 rw[AA] at h
 change (iE f).length≤_ at h
 unfold aF aH
 omega
theorem rC:∀fs:List Field,(bT fs).length≤3 * aH aF fs
 | []=>by simp[bT,aH,sumOf]
 | f :: fs=>by
  have ih:=rC fs
  have hf:=EA f
  simp only[bT,aH,sumOf,List.flatMap_cons,List.length_append,List.length_cons,List.map_cons,List.sum_cons] at *
  omega
theorem UU (i:Nat) (s:Seg):(qD i s).length≤6+3 * bB s:=by
 have h:=rC s.fields
 have h2:s.name.data.toList.length=s.name.size:=by simp
 unfold qD bB
 simp only[List.length_append]
 split <;> simp <;> omega
theorem MI (m:List Seg):(iq m).length≤6 * aT m:=by
 have h:=Az (fun p:Seg × Nat=>qD p.2 p.1) (fun s=>6+3 * bB s) (fun p=>UU p.2 p.1) m 0
 rw[AA] at h
 change (iq m).length≤_ at h
 unfold aT aH
 omega
end Go.Proofs.YtfdihjnlgdiioaaGreatDoor.dB
namespace Go.Proofs.YtfdihjnlgdiioaaGreatDoor.dB
open Go.ChangeShapes Go.WideShapes Go.ChangeAt Go.RowKit
set_option linter.unusedVariables false
set_option linter.unusedSimpArgs false
theorem Kt {P:Program} (w:World) (base:Nat) (t u ty e:TypeId) (i:TypeInfo) (ht:P.underlying t=some (.slice e)) (hu:P.underlying u=some .string) (hi:P.info? e=some i) (hz:i.zero=some (.int .u8 0))
  (hsize:i.size=1) (hby:i.bytes=1) (v:Value) (n:Nat) (xs:List Value) (hown:w.ownsRow base e 1 v n xs) (s:ByteArray)
  (h63:n+s.size≤maxLen) (hbytes:n+s.size≤140737488355328) (hbase:base≤w.heap.size) :
  ∃v' w',(Builtin.append_ #[t,u] ty #[v,.string s]).run P w=.ok v' w'∧w'.ownsRow base e 1 v' (n+s.size) (xs++Lib.strCells s)∧w.grownBy w' v.ownBlock ∧
   (v'.ownBlock=v.ownBlock∨v'.ownBlock=some w.heap.size):=by
 obtain⟨v',w',hr,h2,h3,h4⟩:=Lib.run_append_own_string (P:=P) w base t u ty e i ht hu hi hz hsize hby v n xs hown s h63 hbytes hbase
 refine⟨v',w',hr,h2,h3,?_⟩
 have hsmall:n+s.size≤9223372036854775807:=by simp only[maxLen] at h63;omega
 have hxl:xs.length=n:=by simpa using hown.1
 rcases hown.2 with⟨rfl,rfl⟩|⟨g,cap,cur,rfl,hbg,hg,hnc,hcm,hcs,htake⟩
 ·by_cases hm:s.size=0
  ·rw[h4.2 ⟨rfl,hm⟩];exact .inl rfl
  ·have hr2:=run_append_nil_string (P:=P) w t u ty e i (.int .u8 0) ht hu hi hz s (by omega) (by omega) (by rw[hby];omega)
   rw[hr2] at hr
   injection hr with hv hw
   rw[←hv];exact .inr rfl
 ·by_cases hroom:n+s.size≤cap
  ·have hcs':cur.size=cap:=by simpa using hcs
   have hr2:=Lib.run_append_room_string (P:=P) w t u ty e i ht hu hi hsize g n cap cur hg s hroom (by omega)
   rw[hr2] at hr
   injection hr with hv hw
   rw[←hv];exact .inl rfl
  ·have holds:∀j u,xs[j]?=some u→w.cell? ((⟨g,0,none⟩:Addr).add j)=some u:=hown.cells (g:=g) rfl
   have hr2:=Lib.run_append_grow_string (P:=P) w t u ty e i (.int .u8 0) ht hu hi hz ⟨g,0,none⟩ n cap xs (by rw[hsize];simpa using hxl) holds s (by omega) (by omega) (by rw[hby];exact growslice_fits (by omega) (by omega))
   rw[hr2] at hr
   injection hr with hv hw
   rw[←hv];exact .inr rfl
theorem Bq {P:Program} (w:World) {ops:Array Oper} {rest:List Oper} {o:Oper} {a:Act} {Q:Exit→Act→World→Prop} (hgd:o.guard=none) (sl x:Operand) (t u:TypeId)
  (ho:o.op=.call { callee:=.builtin .append,args:=#[sl,x],argTypes:=#[t,u] })
  (base:Nat) (e:TypeId) (i:TypeInfo) (ht:P.underlying t=some (.slice e)) (hu:P.underlying u=some .string) (hi:P.info? e=some i) (hz:i.zero=some (.int .u8 0))
  (hsize:i.size=1) (hby:i.bytes=1)
  (v:Value) (n:Nat) (xs:List Value) (hs:a.eval sl=v) (hown:w.ownsRow base e 1 v n xs) (s:ByteArray) (hx:a.eval x=.string s)
  (h63:n+s.size≤maxLen) (hbytes:n+s.size≤140737488355328) (hbase:base≤w.heap.size)
  (h:∀v' w',w'.ownsRow base e 1 v' (n+s.size) (xs++Lib.strCells s)→w.grownBy w' v.ownBlock→(v'.ownBlock=v.ownBlock∨v'.ownBlock=some w.heap.size)→wpList P ops Q rest (a.put o.dst v') w') :
  wpList P ops Q (o :: rest) a w:=by
 refine wpList_plain hgd fun K hK=>?_
 obtain⟨v',w',hr,h2,h3,h5⟩:=Kt (P:=P) w base t u o.type e i ht hu hi hz hsize hby v n xs hown s h63 hbytes hbase
 unfold Oper.wp execOp
 simp only[ho,resolve,invoke,builtin,Sem.run_bind,Sem.run_pure,Result.andThen_ok,List.map_toArray,List.map_cons,List.map_nil,hs,hx,hr]
 exact hK _ _ (h v' w' h2 h3 h5)
theorem Buf.text {base:Nat} {w wr w':World} {v0 v v':Value} {bs:List UInt8} (s:ByteArray) (hb:fQ w v0 wr v)
  {n:Nat} (hl:n=bs.length) (h:w'.ownsRow base 5 1 v' (n+s.size) (Qh bs++Lib.strCells s)) (hg:wr.grownBy w' v.ownBlock) (hat:v'.ownBlock=v.ownBlock∨v'.ownBlock=some wr.heap.size) :
  Buf base w' v' (bs++s.data.toList)∧fQ w v0 w' v':=by
 subst hl
 refine⟨?_,hb.trans ⟨hg,?_⟩⟩
 ·unfold Buf
  have h1:(bs++s.data.toList).length=bs.length+s.size:=by simp
  have h2:Qh (bs++s.data.toList)=Qh bs++Lib.strCells s:=by simp[Qh,Lib.strCells]
  rw[h1,h2]
  exact h
 ·rcases hat with hat|hat
  ·exact .inl hat
  ·exact .inr ⟨_,hat,aS _⟩
set_option maxHeartbeats 1000000 in
theorem NM (x:lW) (v:Value) (w:World) {lo:Nat} (hv:bq lo w v x) :
  Calls Tryz.prog 140 #[.agg #[v]] w fun e w'=>e=.returned (.bool (nO x))∧Below w.heap.size w w':=by
 have hl:=hv.1
 have hb:=(Below.refl w.heap.size w).alloc (aS _) (Obj.cells #[v] 60)
 obtain⟨a,cap,rfl,hc⟩:=(At.kept bE hv hb).form
 have HC:=hide hc
 clear hc hv
 have HR:Hid (nO x=(decide (x.length≤20) && (iT ByteArray.size x && x.all dI))):=rfl
 by_cases h20:(20:Int)<(x.length:Int)
 ·go_enter Tryz.func140,Tryz.ntmps140
  go_wp2_with fail
  go_ret
  exact⟨aA (by rw[HR.out,decide_eq_false (by omega)];rfl),hb⟩
 ·have zF:Hid (iT ByteArray.size x=true→nO x=x.all dI):=fun he=>by rw[HR.out,he,decide_eq_true (by omega)];rfl
  by_cases h0:x.length=0
  ·have hz:¬(0:Int)<(x.length:Int):=by omega
   have HE:=hide (qA ByteArray.size x h0)
   have hx:x=[]:=List.length_eq_zero_iff.1 h0
   have HX:Hid (nO x=true):=by rw[zF.out HE.out,hx];rfl
   clear hx h0
   go_enter Tryz.func140,Tryz.ntmps140
   go_wp2_with fail
   go_loop [4] (fun i=>i=.int .i64 0) (fun _=>0)
   case atStart=>rfl
   case round =>
    subst hrel
    go_wp2_with fail
    go_ret
    exact⟨aA HX.out.symm,hb⟩
  ·have hz:(0:Int)<(x.length:Int):=by omega
   have hi:x.length - 1<x.length:=by omega
   obtain⟨b,off,rfl,_,hbl,hr⟩:=HC.out (x.length - 1) hi
   have hlast:(w.alloc (Obj.cells #[.slice (some ⟨b,off,none⟩) x.length cap] 60)).cell? ⟨b,off+(x.length - 1),none⟩=some (.string (x[x.length - 1]'hi)):=by simpa using hr.1
   have hsz:(x[x.length - 1]'hi).size≤9223372036854775807:=hr.2
   have HE:Hid (iT ByteArray.size x=decide (0<(x[x.length - 1]'hi).size)):=pW ByteArray.size x (by omega)
   clear hr
   generalize x[x.length - 1]'hi=z at *
   have hn1:((x.length:Int) - 1).toNat=x.length - 1:=by omega
   by_cases hl0:z.size=0
   ·have hl':((z.size:Int) == 0)=true:=by rw[beq_iff_eq];omega
    have HX:Hid (nO x=false):=by rw[HR.out,HE.out,decide_eq_false (p:=0<z.size) (by omega),Bool.false_and,Bool.and_false];trivial
    clear hl0
    go_enter Tryz.func140,Tryz.ntmps140
    go_wp2_with fail
    go_ret
    exact⟨aA HX.out.symm,hb⟩
   ·have hl':((z.size:Int) == 0)=false:=by rw[beq_eq_false_iff_ne];omega
    have HX:Hid (nO x=x.all dI):=zF.out (by rw[HE.out];exact decide_eq_true (by omega))
    clear hl0
    go_enter Tryz.func140,Tryz.ntmps140
    go_wp2_with fail
    clear hl' hlast hsz hn1
    go_loop [4] (fun i=>∃k:Nat,k≤x.length∧i=.int .i64 k∧(x.take k).all dI=true) (fun i=>x.length - (intOf i).toNat)
    case atStart=>exact⟨0,eH _,rfl,rfl⟩
    case round =>
     obtain⟨k,hk,rfl,hall⟩:=hrel
     have HA:=hide hall
     clear hall
     by_cases hlt:k<x.length
     ·obtain⟨b',off',e,_,_,hr⟩:=HC.out k hlt
      simp only[Option.some.injEq,Addr.mk.injEq,and_true] at e
      obtain⟨rfl,rfl⟩:=e
      have hcell:(w.alloc (Obj.cells #[.slice (some ⟨b,off,none⟩) x.length cap] 60)).cell? ⟨b,off+k,none⟩=some (.string x[k]):=by simpa using hr.1
      have hsz:=hr.2
      clear hr
      go_wp2_with fail
      refine(uP x[k] _ hsz).mono ?_
      rintro e w' ⟨rfl,rfl⟩
      cases hp:dI x[k]
      ·have HF:=hide (iy hlt hp)
       clear hp
       go_wp2_with fail
       go_ret
       exact⟨aA (by rw[HX.out,HF.out]),hb⟩
      ·have HF:=hide (jD hlt HA.out hp)
       clear hp
       go_wp2_with fail
       go_round
       case rel=>exact⟨k+1,by omega,by go_num,HF.out⟩
       case measure=>simp[intOf];omega
     ·have HF:=hide (jE (by omega) HA.out)
      go_wp2_with fail
      go_ret
      exact⟨aA (by rw[HX.out,HF.out]),hb⟩
end Go.Proofs.YtfdihjnlgdiioaaGreatDoor.dB
