import Derived.Test.YtfdihjnlgdiioaaGreatDoorG31
import Derived.Test.YtfdihjnlgdiioaaGreatDoorG13
import Derived.Test.YtfdihjnlgdiioaaGreatDoorG16
import Derived.Test.YtfdihjnlgdiioaaGreatDoorG33
namespace Go.Proofs.YtfdihjnlgdiioaaGreatDoor.dB
open Go.ChangeShapes Go.WideShapes Go.ChangeAt Go.RowKit
set_option linter.unusedVariables false
set_option linter.unusedSimpArgs false
def wT (s:Seg):Bool:=s.name.toList == [82,68,84]
def rowsOf (xs:List Seg):List ByteArray:=(xs.filter wT).map fun s=>aB [s] ⟨#[82,68,84]⟩ 1 1
theorem Dh {xs:List Seg} {k:Nat} (h:k<xs.length) (hb:wT xs[k]=true):rowsOf (xs.take (k+1))=rowsOf (xs.take k)++[aB [xs[k]] ⟨#[82,68,84]⟩ 1 1]:=by
 unfold rowsOf
 rw[List.take_succ_eq_append_getElem h,List.filter_append,List.map_append]
 simp[hb]
theorem Fg {xs:List Seg} {k:Nat} (h:k<xs.length) (hb:wT xs[k]=false):rowsOf (xs.take (k+1))=rowsOf (xs.take k):=by
 unfold rowsOf
 rw[List.take_succ_eq_append_getElem h,List.filter_append,List.map_append]
 simp[hb]
theorem Di (xs:List Seg):(rowsOf xs).length≤xs.length:=by unfold rowsOf;rw[List.length_map];exact List.length_filter_le _ _
theorem zm {xs:List Seg} (h:aT xs≤1048576):∀s∈rowsOf xs,s.size≤1048576:=fun s hs=>by
 unfold rowsOf at hs
 rw[List.mem_map] at hs
 obtain⟨x,hx,rfl⟩:=hs
 have h1:=bK [x] ⟨#[82,68,84]⟩ 1 1
 have h2:=rP bB xs x ((List.mem_filter.1 hx).1)
 have h3:aT [x]=1+bB x:=by simp[aT,aH,sumOf]
 unfold aT aH at h
 have h4:0<xs.length:=List.length_pos_of_mem ((List.mem_filter.1 hx).1)
 omega
def bX (xs:List Seg):jM:=⟨aB xs ⟨#[77,83,65]⟩ 1 1,aB xs ⟨#[77,83,65]⟩ 2 1,if sK (aB xs ⟨#[77,83,65]⟩ 1 1) then 0 else iG (aB xs ⟨#[69,82,82]⟩ 3 1).data.toList,aB xs ⟨#[81,65,75]⟩ 1 1,rowsOf xs,aB xs ⟨#[68,83,67]⟩ 1 1⟩
def yj:jM:=⟨⟨#[]⟩,⟨#[]⟩,0,⟨#[]⟩,[],⟨#[]⟩⟩
open Classical in
noncomputable def z8 (xs:List Seg):jM × Bool:=if fE (bX xs)≠[]∧fE (bX xs)=xs then (bX xs,true) else (yj,false)
open Classical in
theorem zn {xs:List Seg} (h1:fE (bX xs)≠[]) (h2:fE (bX xs)=xs):z8 xs=(bX xs,true):=if_pos ⟨h1,h2⟩
open Classical in
theorem JG {xs:List Seg} (h:¬(fE (bX xs)≠[]∧fE (bX xs)=xs)):z8 xs=(yj,false):=if_neg h
def Nh (w:World) (p:jM × Bool) (e:Ending) (w':World):Prop:=∃u,e=.returned (.tuple #[gU p.1 u,.bool p.2])∧bq 0 w' u p.1.rows∧Below w.heap.size w w'
def sP (s:ByteArray):List Value:=[.string s]
theorem Dj:∀(x:ByteArray),∀u∈sP x,u.oneCell'=true:=fun x u hu=>by rw[List.mem_singleton.1 hu];rfl
theorem A9 {base:Nat} {w:World} {v:Value} {xs:List ByteArray} (h:FB sP 1 9 base w v xs) (hl:xs.length≤9223372036854775807) (hz:∀s∈xs,s.size≤9223372036854775807):bq base w v xs:=by
 obtain⟨h0,hA⟩:=FB.at (C:=sP) (c:=1) (Z:=fun s:ByteArray=>s.size≤9223372036854775807) (fun _=>rfl) h hl (fun i hi=>hz _ (List.getElem_mem hi))
 refine⟨h0,?_⟩
 rcases hA with hA|⟨b,off,cap,e,hb,hA⟩
 ·exact .inl hA
 ·exact .inr ⟨b,off,cap,e,hb,fun i hi=>⟨by simpa [sP] using (hA i hi).1 0 (by simp[sP]),(hA i hi).2⟩⟩
theorem aak {s:Seg} (h:wT s=true):3≤bB s:=by
 have h1:s.name.size=3:=by rw[←qb];unfold wT at h;rw[eq_of_beq h];rfl
 unfold bB
 omega
theorem Fh:∀xs:List Seg,4 * (xs.filter wT).length≤aH bB xs
 | []=>by simp[aH,sumOf]
 | x :: xs=>by
  have ih:=Fh xs
  have e:aH bB (x :: xs)=aH bB xs+1+bB x:=by simp[aH,sumOf];omega
  cases h:wT x
  ·simp only[List.filter_cons,h,Bool.false_eq_true,if_false];omega
  ·have:=aak h
   simp only[List.filter_cons,h,if_true,List.length_cons];omega
theorem Dk {xs:List Seg} (h:aT xs≤1048576) (k:Nat):(rowsOf (xs.take k)).length≤262144:=by
 have h1:=Fh (xs.take k)
 have h2:=FI bB xs k
 have h3:=List.length_take_le k xs
 have h4:(rowsOf (xs.take k)).length=((xs.take k).filter wT).length:=by unfold rowsOf;rw[List.length_map]
 unfold aT aH at h
 unfold aH at h1
 have h5:(xs.take k).length≤xs.length:=by rw[List.length_take];omega
 omega
theorem Below.mo {B:Nat} {w X:World} {o:Obj} (h:Below B w X) (hs:B≤w.heap.size):Below B w (X.alloc o):=h.alloc (Nat.le_trans hs h.size) o
theorem Below.st2 {B:Nat} {w X:World} {b o:Nat} {v:Value} (h:Below B w X) (hb:B≤b):Below B w (X.setCell ⟨b,o,none⟩ v):=h.setCell hb v
theorem Ba {W:World} {b:Nat} {t:TypeId} {y0 y1 y2 y3 y4 y5:Value} (h:aU W b t #[y0,y1,y2,y3,y4,y5]) {G:Prop}
  (k:aU W b t #[y0,y1,y2,y3,y4,y5]→(W.cell? ⟨b,0,none⟩=some y0∧W.cell? ⟨b,1,none⟩=some y1∧W.cell? ⟨b,2,none⟩=some y2∧W.cell? ⟨b,3,none⟩=some y3∧W.cell? ⟨b,4,none⟩=some y4∧W.cell? ⟨b,5,none⟩=some y5)∧W.frozen? ⟨b,0,none⟩=false∧W.frozen? ⟨b,1,none⟩=false∧W.frozen? ⟨b,2,none⟩=false∧W.frozen? ⟨b,3,none⟩=false∧W.frozen? ⟨b,4,none⟩=false∧W.frozen? ⟨b,5,none⟩=false→G):G :=
 k h ⟨⟨h.cell 0 (by simp),h.cell 1 (by simp),h.cell 2 (by simp),h.cell 3 (by simp),h.cell 4 (by simp),h.cell 5 (by simp)⟩,h.frozen 0,h.frozen 1,h.frozen 2,h.frozen 3,h.frozen 4,h.frozen 5⟩
theorem aU.yt {W:World} {b:Nat} {t:TypeId} {y0 y1 y2 y3 y4 y5:Value} (h:aU W b t #[y0,y1,y2,y3,y4,y5]) (x0 x1 x2 x3 x4 x5:Value) :
  aU ((((((W.setCell ⟨b,0,none⟩ x0).setCell ⟨b,1,none⟩ x1).setCell ⟨b,2,none⟩ x2).setCell ⟨b,3,none⟩ x3).setCell ⟨b,4,none⟩ x4).setCell ⟨b,5,none⟩ x5) b t #[x0,x1,x2,x3,x4,x5]:=by
 have:=(((((h.set 0 x0).set 1 x1).set 2 x2).set 3 x3).set 4 x4).set 5 x5
 simpa using this
theorem jO {B:Nat} {w X:World} {b:Nat} (h:Below B w X) (hb:B≤b) (x0 x1 x2 x3 x4 x5:Value) :
  Below B w ((((((X.setCell ⟨b,0,none⟩ x0).setCell ⟨b,1,none⟩ x1).setCell ⟨b,2,none⟩ x2).setCell ⟨b,3,none⟩ x3).setCell ⟨b,4,none⟩ x4).setCell ⟨b,5,none⟩ x5) :=
 Below.st2 (Below.st2 (Below.st2 (Below.st2 (Below.st2 (Below.st2 h hb) hb) hb) hb) hb) hb
def RB (W0 X:World) (M:Nat) (cs:Array Value):Prop:=aU X M 38 cs∧Below W0.heap.size W0 X∧W0.heap.size≤M
theorem RB.late {W0 X:World} {cs:Array Value} (h:Below W0.heap.size W0 X):RB W0 (X.alloc (.cells cs 38)) X.heap.size cs:=⟨aU.new _ _ _,h.alloc h.size _,h.size⟩
theorem RB.early {W0 X:World} {M:Nat} {y0 y1 y2 y3 y4 y5:Value} (h:aU X M 38 #[y0,y1,y2,y3,y4,y5]) (hb:Below W0.heap.size W0 X) (hM:W0.heap.size≤M) (x0 x1 x2 x3 x4 x5:Value) :
  RB W0 ((((((X.setCell ⟨M,0,none⟩ x0).setCell ⟨M,1,none⟩ x1).setCell ⟨M,2,none⟩ x2).setCell ⟨M,3,none⟩ x3).setCell ⟨M,4,none⟩ x4).setCell ⟨M,5,none⟩ x5) M #[x0,x1,x2,x3,x4,x5] :=
 ⟨h.yt _ _ _ _ _ _,(((((hb.setCell (p:=⟨M,0,none⟩) hM _).setCell (p:=⟨M,1,none⟩) hM _).setCell (p:=⟨M,2,none⟩) hM _).setCell (p:=⟨M,3,none⟩) hM _).setCell (p:=⟨M,4,none⟩) hM _).setCell (p:=⟨M,5,none⟩) hM _,hM⟩
def qp (cs:List UInt8) (q n:Nat):List ByteArray:=(List.range n).map fun i=>sw cs (q+2 * i)
theorem Dm (cs:List UInt8) (q n:Nat):(qp cs q n).length=n:=by unfold qp;rw[List.length_map,List.length_range]
theorem JH (cs:List UInt8) (q k:Nat):qp cs q (k+1)=qp cs q k++[sw cs (q+2 * k)]:=by
 unfold qp;rw[List.range_succ,List.map_append];rfl
theorem Pf (cs:List UInt8) (q n:Nat):∀s∈qp cs q n,s.size≤100:=fun s hs=>by
 unfold qp at hs
 obtain⟨i,_,rfl⟩:=List.mem_map.1 hs
 exact BS _ _
def XT (a:Nat):ByteArray:=⟨#[85,48,45]⟩++bR (a % 8)
def XU (a:Nat) (tag:ByteArray) (rows:List ByteArray):jM:=⟨⟨#[65,65]⟩,XT a,0,tag,rows,if a % 3=0 then ⟨#[112]⟩++bR a else ⟨#[]⟩⟩
def yu (how a n:Nat) (tag:ByteArray) (rows:List ByteArray):jM :=
 if how<16 then XU a tag rows
 else if how<19 then ⟨⟨#[65,69]⟩,XT a,((200+a:Nat):Int),tag,[],⟨#[]⟩⟩
 else if how=19 then ⟨⟨#[65,82]⟩,⟨#[]⟩,((1+998 * (a % 2):Nat):Int),⟨#[]⟩,[],⟨#[]⟩⟩
 else if how=20 then { XU a tag rows with code:=((a % 2:Nat):Int),ack:=⟨#[65,88]⟩ }
 else if how=21 then ⟨⟨#[65,69]⟩,⟨#[]⟩,((999+a % 2:Nat):Int),⟨#[]⟩,rows.take (n * (a / 2 % 2)),⟨#[]⟩⟩
 else if how=22 then { XU a tag rows with rows:=rows++List.replicate (200+a % 2 - n) ⟨#[114]⟩ }
 else { XU a tag rows with rows:=lg 124 (200+a % 2) :: List.replicate (70 * (a / 2 % 2)) (lg 124 200) }
def gF (cs:List UInt8) (p:Nat):jM:=yu (tk cs p 24) (tk cs (p+1) 50) (tk cs (p+2) 6) (vQ cs (p+3)) (qp cs (p+4) (tk cs (p+2) 6))
def rY (cs:List UInt8) (p:Nat):Nat:=p+4+2 * tk cs (p+2) 6
def Hg:Array Value:=#[.string ⟨#[]⟩,.string ⟨#[]⟩,.int .i64 0,.string ⟨#[]⟩,.slice none 0 0,.string ⟨#[]⟩]
def DY (r:jM) (v:Value):Array Value:=#[.string r.ack,.string r.control,.int .i64 r.code,.string r.tag,v,.string r.pointer]
theorem fK {L lo b o:Nat} {w:World} {v:Value} {xs:List ByteArray} (hl:lo≤L) (hb:b<L) (h:bq L w v xs) (x:Value):bq lo (w.setCell ⟨b,o,none⟩ x) v xs :=
 At.mono xq (At.same bE h ⟨by rw[Deep.nblk_setCell];exact aS _,fun d h1 _=>Deep.blk_setCell_other _ ⟨b,o,none⟩ _ d (by dsimp only;omega)⟩) hl
structure RT (w:World) (R:Nat) (r:jM) (v:Value) (X:World):Prop where
 res:aU X w.heap.size 38 Hg
 box:aU X R 38 (DY r v)
 strs:bq (R+1) X v r.rows
 zR:Below w.heap.size w X
 lt:w.heap.size<R
structure RP (w:World) (R:Nat) (r:jM) (v:Value) (X:World):Prop where
 res:aU X w.heap.size 38 Hg
 box:aU X R 38 (DY r v)
 row:FB sP 1 9 (R+1) X v r.rows
 zR:Below w.heap.size w X
 lt:w.heap.size<R
theorem RP.below {w X Y:World} {R:Nat} {r:jM} {v:Value} (h:RP w R r v X) (hb:Below X.heap.size X Y):RP w R r v Y:=⟨h.res.below hb,h.box.below hb,h.row.below hb,aj hb h.zR,h.lt⟩
theorem RP.rt {w X:World} {R:Nat} {r:jM} {v:Value} (h:RP w R r v X) (hl:r.rows.length≤9223372036854775807) (hz:∀s∈r.rows,s.size≤9223372036854775807):RT w R r v X:=⟨h.res,h.box,A9 h.row hl hz,h.zR,h.lt⟩
theorem RP.set {w X:World} {R:Nat} {r:jM} {v:Value} (h:RP w R r v X) (i:Nat) (x:Value) (r':jM) (e:(DY r v).setIfInBounds i x=DY r' v) (er:r'.rows=r.rows):RP w R r' v (X.setCell ⟨R,i,none⟩ x) :=
 ⟨h.res.other (by have:=h.lt;simp;omega) x,by rw[←e];exact h.box.set i x,by rw[er];exact h.row.keep fun b hb=>Deep.blk_setCell_other _ ⟨R,i,none⟩ _ b (by have:=(h.row.own b hb).1;dsimp only;omega),h.zR.setCell (p:=⟨R,i,none⟩) (Nat.le_of_lt h.lt) x,h.lt⟩
theorem RP.fill {w X:World} {R:Nat} {r:jM} {v:Value} (h:RP w R r v X) (x0 x1 x2 x3 x4 x5:Value) (r':jM) (v':Value) (e:#[x0,x1,x2,x3,x4,x5]=DY r' v') (hs:bq (R+1) X v' r'.rows) :
  RT w R r' v' ((((((X.setCell ⟨R,0,none⟩ x0).setCell ⟨R,1,none⟩ x1).setCell ⟨R,2,none⟩ x2).setCell ⟨R,3,none⟩ x3).setCell ⟨R,4,none⟩ x4).setCell ⟨R,5,none⟩ x5):=by
 have hn:w.heap.size≠R:=by have:=h.lt;omega
 have hl:R<R+1:=Nat.lt_succ_self _
 have hb:aU X R 38 #[.string r.ack,.string r.control,.int .i64 r.code,.string r.tag,v,.string r.pointer]:=h.box
 exact⟨(((((h.res.other hn x0).other hn x1).other hn x2).other hn x3).other hn x4).other hn x5,by rw[←e];exact hb.yt _ _ _ _ _ _,
  fK (aS _) hl (fK (aS _) hl (fK (aS _) hl (fK (aS _) hl (fK (aS _) hl (fK (aS _) hl hs _) _) _) _) _) _,
  jO h.zR (Nat.le_of_lt h.lt) _ _ _ _ _ _,h.lt⟩
theorem RP.cells {w X:World} {R:Nat} {r:jM} {v:Value} (h:RP w R r v X):(X.cell? ⟨R,0,none⟩=some (.string r.ack)∧X.cell? ⟨R,1,none⟩=some (.string r.control)∧X.cell? ⟨R,2,none⟩=some (.int .i64 r.code)∧X.cell? ⟨R,3,none⟩=some (.string r.tag)∧X.cell? ⟨R,4,none⟩=some v∧X.cell? ⟨R,5,none⟩=some (.string r.pointer)) ∧
  (X.frozen? ⟨R,0,none⟩=false∧X.frozen? ⟨R,1,none⟩=false∧X.frozen? ⟨R,2,none⟩=false∧X.frozen? ⟨R,3,none⟩=false∧X.frozen? ⟨R,4,none⟩=false∧X.frozen? ⟨R,5,none⟩=false)∧R<X.heap.size :=
 ⟨⟨h.box.cell 0 (by simp[DY]),h.box.cell 1 (by simp[DY]),h.box.cell 2 (by simp[DY]),h.box.cell 3 (by simp[DY]),h.box.cell 4 (by simp[DY]),h.box.cell 5 (by simp[DY])⟩,⟨h.box.frozen 0,h.box.frozen 1,h.box.frozen 2,h.box.frozen 3,h.box.frozen 4,h.box.frozen 5⟩,h.box.lt⟩
theorem RT.cells {w X:World} {R:Nat} {r:jM} {v:Value} (h:RT w R r v X):(X.cell? ⟨R,0,none⟩=some (.string r.ack)∧X.cell? ⟨R,1,none⟩=some (.string r.control)∧X.cell? ⟨R,2,none⟩=some (.int .i64 r.code)∧X.cell? ⟨R,3,none⟩=some (.string r.tag)∧X.cell? ⟨R,4,none⟩=some v∧X.cell? ⟨R,5,none⟩=some (.string r.pointer))∧R<X.heap.size :=
 ⟨⟨h.box.cell 0 (by simp[DY]),h.box.cell 1 (by simp[DY]),h.box.cell 2 (by simp[DY]),h.box.cell 3 (by simp[DY]),h.box.cell 4 (by simp[DY]),h.box.cell 5 (by simp[DY])⟩,h.box.lt⟩
theorem RT.ko {w X:World} {R:Nat} {r:jM} {v:Value} (h:RT w R r v X):(X.cell? ⟨w.heap.size,0,none⟩=some (.string ⟨#[]⟩)∧X.cell? ⟨w.heap.size,1,none⟩=some (.string ⟨#[]⟩)∧X.cell? ⟨w.heap.size,2,none⟩=some (.int .i64 0)∧X.cell? ⟨w.heap.size,3,none⟩=some (.string ⟨#[]⟩)∧X.cell? ⟨w.heap.size,4,none⟩=some (.slice none 0 0)∧X.cell? ⟨w.heap.size,5,none⟩=some (.string ⟨#[]⟩)) ∧
  (X.frozen? ⟨w.heap.size,0,none⟩=false∧X.frozen? ⟨w.heap.size,1,none⟩=false∧X.frozen? ⟨w.heap.size,2,none⟩=false∧X.frozen? ⟨w.heap.size,3,none⟩=false∧X.frozen? ⟨w.heap.size,4,none⟩=false∧X.frozen? ⟨w.heap.size,5,none⟩=false)∧w.heap.size<X.heap.size :=
 ⟨⟨h.res.cell 0 (by simp[Hg]),h.res.cell 1 (by simp[Hg]),h.res.cell 2 (by simp[Hg]),h.res.cell 3 (by simp[Hg]),h.res.cell 4 (by simp[Hg]),h.res.cell 5 (by simp[Hg])⟩,⟨h.res.frozen 0,h.res.frozen 1,h.res.frozen 2,h.res.frozen 3,h.res.frozen 4,h.res.frozen 5⟩,h.res.lt⟩
theorem RT.done {w X:World} {R:Nat} {r:jM} {v:Value} (h:RT w R r v X) (x0 x1 x2 x3 x4 x5:Value) :
  bq w.heap.size ((((((X.setCell ⟨w.heap.size,0,none⟩ x0).setCell ⟨w.heap.size,1,none⟩ x1).setCell ⟨w.heap.size,2,none⟩ x2).setCell ⟨w.heap.size,3,none⟩ x3).setCell ⟨w.heap.size,4,none⟩ x4).setCell ⟨w.heap.size,5,none⟩ x5) v r.rows ∧
  Below w.heap.size w ((((((X.setCell ⟨w.heap.size,0,none⟩ x0).setCell ⟨w.heap.size,1,none⟩ x1).setCell ⟨w.heap.size,2,none⟩ x2).setCell ⟨w.heap.size,3,none⟩ x3).setCell ⟨w.heap.size,4,none⟩ x4).setCell ⟨w.heap.size,5,none⟩ x5):=by
 have hl:w.heap.size<R+1:=Nat.lt_succ_of_lt h.lt
 exact⟨fK (Nat.le_of_lt hl) hl (fK (aS _) hl (fK (aS _) hl (fK (aS _) hl (fK (aS _) hl (fK (aS _) hl h.strs _) _) _) _) _) _,jv h.zR _ _ _ _ _ _⟩
theorem RP.more {w X:World} {R n:Nat} {r:jM} {v:Value} (h:RP w R r v X) (s:ByteArray) (hn:r.rows.length=n) (hl:n≤100000) :
  ∃a' c' w',(Builtin.append_ #[36,36] 36 #[v,.slice (some ⟨X.heap.size,0,none⟩) 1 1]).run Tryz.prog (X.alloc (.cells #[.string s] 9))=.ok (.slice a' (n+1) c') w' ∧
   RP w R { r with rows:=r.rows++[s] } (.slice a' (n+1) c') (w'.setCell ⟨R,4,none⟩ (.slice a' (n+1) c'))∧w'.cell? ⟨R,4,none⟩=some v∧w'.frozen? ⟨R,4,none⟩=false∧R<w'.heap.size∧Below w.heap.size w w':=by
 subst hn
 have hRX:R<X.heap.size:=h.box.lt
 obtain⟨v',Z',hr2,hF',rR,hat⟩:=app1 (C:=sP) (c:=1) (bytes:=16) (z:=.string ByteArray.empty) Tryz.underlying36 lq rfl (by decide) (fun _=>rfl) Dj h.row 36 s (by omega) (by omega) (by decide)
 have hown:=h.row.own
 have hRn:R ∉ v.ownBlock.toList:=fun hm=>by have:=(hown R hm).1;omega
 have hBn:w.heap.size ∉ v.ownBlock.toList:=fun hm=>by have:=(hown _ hm).1;have:=h.lt;omega
 have nJ:=h.box.only rR hRn
 have ae5:=h.res.only rR hBn
 have hwX:w.heap.size≤X.heap.size:=h.zR.size
 have hbel:Below w.heap.size w Z':=h.zR.trans (rR.below hwX fun d hd=>by have:=(hown d hd).1;have:=h.lt;omega)
 obtain⟨a8,c8,e8,_,_⟩:=hF'.form
 rw[List.length_append,List.length_singleton] at e8
 subst e8
 refine⟨a8,c8,Z',hr2,⟨ae5.other (by have:=h.lt;simp;omega) _,?_,?_,hbel.setCell (p:=⟨R,4,none⟩) (Nat.le_of_lt h.lt) _,h.lt⟩,nJ.cell 4 (by simp[DY]),nJ.frozen 4,nJ.lt,hbel⟩
 ·have:=nJ.set 4 (.slice a8 (r.rows.length+1) c8)
  simpa [DY] using this
 ·exact hF'.keep fun b hb=>Deep.blk_setCell_other _ ⟨R,4,none⟩ _ b (by have:=(hF'.own b hb).1;dsimp only;omega)
def Gz (w:World):Prop:=w.cell? ⟨0,0,none⟩=some (.iface 141 (.agg #[.pointer (some ⟨9,72,none⟩)]))
theorem Gz.kept {w w':World} (h:Gz w) (hb:Below w.heap.size w w'):Gz w':=by
 unfold Gz at h ⊢
 rw[hb.cell (p:=⟨0,0,none⟩) (lt_of_cell h)]
 exact h
def fU (p:pK × Int):Value:=.tuple #[bY p.1,.int .i64 p.2]
theorem eF {a b:pK × Int} (h:a=b):Ending.returned (fU a)=.returned (fU b):=by rw[h]
def qQ (num:List UInt8→Int) (xs:List Seg):pK × Int :=
 bG (aB xs ⟨#[77,83,72]⟩ 9 1) (aB xs ⟨#[77,83,72]⟩ 10 1) (aB xs ⟨#[77,83,72]⟩ 12 1) (aB xs ⟨#[81,73,68]⟩ 1 1) (aB xs ⟨#[81,80,68]⟩ 2 1) (aB xs ⟨#[81,80,68]⟩ 3 1) (aB xs ⟨#[68,83,67]⟩ 1 1) (aB xs ⟨#[82,67,80]⟩ 2 1) (num (aB xs ⟨#[82,67,80]⟩ 2 1).data.toList)
theorem Dn (xs:List Seg):qQ iG xs=qQ jB xs:=I7 _ _ _ _ _ _ _ _
theorem Fj {w w':World} {b o:Nat} (h:w'.heap[b]?=w.heap[b]?):w'.cell? ⟨b,o,none⟩=w.cell? ⟨b,o,none⟩:=World.cell?_of_block h
theorem set1 (W:World) (b o d:Nat) (a:Value) (h:d≠b):(W.setCell ⟨b,o,none⟩ a).heap[d]?=W.heap[d]?:=Deep.blk_setCell_other _ _ _ _ (by first|exact h|exact h.symm)
theorem ae6 (W:World) (b d:Nat) (a0 a1 a2 a3 a4 a5:Value) (h:d≠b):((((((W.setCell ⟨b,0,none⟩ a0).setCell ⟨b,1,none⟩ a1).setCell ⟨b,2,none⟩ a2).setCell ⟨b,3,none⟩ a3).setCell ⟨b,4,none⟩ a4).setCell ⟨b,5,none⟩ a5).heap[d]?=W.heap[d]? :=
 (set1 _ _ _ _ _ h).trans ((set1 _ _ _ _ _ h).trans ((set1 _ _ _ _ _ h).trans ((set1 _ _ _ _ _ h).trans ((set1 _ _ _ _ _ h).trans (set1 _ _ _ _ _ h)))))
theorem Fp (W:World) (b d o:Nat) (a0 a1 a2 a3 a4 a5:Value) (h:d≠b):((((((W.setCell ⟨b,0,none⟩ a0).setCell ⟨b,1,none⟩ a1).setCell ⟨b,2,none⟩ a2).setCell ⟨b,3,none⟩ a3).setCell ⟨b,4,none⟩ a4).setCell ⟨b,5,none⟩ a5).cell? ⟨d,o,none⟩=W.cell? ⟨d,o,none⟩:=Fj (ae6 W b d a0 a1 a2 a3 a4 a5 h)
theorem bM {w W:World} {B:Nat} (g3:Below B w W) (b:Nat) (hb:B≤b) (a0 a1 a2 a3 a4 a5:Value):Below B w ((((((W.setCell ⟨b,0,none⟩ a0).setCell ⟨b,1,none⟩ a1).setCell ⟨b,2,none⟩ a2).setCell ⟨b,3,none⟩ a3).setCell ⟨b,4,none⟩ a4).setCell ⟨b,5,none⟩ a5) :=
 ((((((g3.setCell (p:=⟨b,0,none⟩) hb a0).setCell (p:=⟨b,1,none⟩) hb a1).setCell (p:=⟨b,2,none⟩) hb a2).setCell (p:=⟨b,3,none⟩) hb a3).setCell (p:=⟨b,4,none⟩) hb a4).setCell (p:=⟨b,5,none⟩) hb a5)
set_option maxRecDepth 100000 in
set_option maxHeartbeats 800000 in
theorem sH (xs:List Seg) (v:Value) (w:World) (hG:Got w v xs) (hsz:aT xs≤1048576) (hE:Env w) (hT:Gz w) :
  Calls Tryz.prog 10 #[.agg #[v]] w fun e w'=>e=.returned (fU (qQ jB xs))∧Below w.heap.size w w':=by
 have L6:=(Below.refl w.heap.size w).alloc (aS _) (Obj.cells #[v] 28)
 have hb0:=L6.alloc L6.size (Obj.cells #[.int .i64 0,.string ⟨#[]⟩,.string ⟨#[]⟩,.string ⟨#[]⟩,.int .i64 0,.string ⟨#[]⟩] 24)
 obtain⟨w1,hw1⟩:∃w1,(w.alloc (Obj.cells #[v] 28)).alloc (Obj.cells #[.int .i64 0,.string ⟨#[]⟩,.string ⟨#[]⟩,.string ⟨#[]⟩,.int .i64 0,.string ⟨#[]⟩] 24)=w1:=⟨_,rfl⟩
 rw[hw1] at hb0
 have hcv:w1.cell? ⟨w.heap.size,0,none⟩=some v:=by rw[←hw1,World.cell?_alloc_lt _ _ ⟨w.heap.size,0,none⟩ (by simp)];simp
 have hs1:w1.heap.size=w.heap.size+1+1:=by rw[←hw1];simp
 have k0:w1.cell? ⟨w.heap.size+1,0,none⟩=some (.int .i64 0):=by rw[←hw1];simp
 have k1:w1.cell? ⟨w.heap.size+1,1,none⟩=some (.string ⟨#[]⟩):=by rw[←hw1];simp
 have k2:w1.cell? ⟨w.heap.size+1,2,none⟩=some (.string ⟨#[]⟩):=by rw[←hw1];simp
 have k3:w1.cell? ⟨w.heap.size+1,3,none⟩=some (.string ⟨#[]⟩):=by rw[←hw1];simp
 have k4:w1.cell? ⟨w.heap.size+1,4,none⟩=some (.int .i64 0):=by rw[←hw1];simp
 have k5:w1.cell? ⟨w.heap.size+1,5,none⟩=some (.string ⟨#[]⟩):=by rw[←hw1];simp
 have kf:∀i,w1.frozen? ⟨w.heap.size+1,i,none⟩=false:=fun i=>by rw[←hw1];simp
 have fM:Hid (∀W,Below w1.heap.size w1 W→W.cell? ⟨w.heap.size+1,0,none⟩=some (.int .i64 0)∧W.cell? ⟨w.heap.size+1,1,none⟩=some (.string ⟨#[]⟩)∧W.cell? ⟨w.heap.size+1,2,none⟩=some (.string ⟨#[]⟩)∧W.cell? ⟨w.heap.size+1,3,none⟩=some (.string ⟨#[]⟩)∧W.cell? ⟨w.heap.size+1,4,none⟩=some (.int .i64 0)∧W.cell? ⟨w.heap.size+1,5,none⟩=some (.string ⟨#[]⟩)∧(∀i,W.frozen? ⟨w.heap.size+1,i,none⟩=false)∧w.heap.size+1<W.heap.size):=fun W h=>by
  have hl:w.heap.size+1<w1.heap.size:=by omega
  refine⟨?_,?_,?_,?_,?_,?_,fun i=>?_,by have:=h.size;omega⟩
  ·rw[h.cell (p:=⟨w.heap.size+1,0,none⟩) hl];exact k0
  ·rw[h.cell (p:=⟨w.heap.size+1,1,none⟩) hl];exact k1
  ·rw[h.cell (p:=⟨w.heap.size+1,2,none⟩) hl];exact k2
  ·rw[h.cell (p:=⟨w.heap.size+1,3,none⟩) hl];exact k3
  ·rw[h.cell (p:=⟨w.heap.size+1,4,none⟩) hl];exact k4
  ·rw[h.cell (p:=⟨w.heap.size+1,5,none⟩) hl];exact k5
  ·rw[h.frozen (p:=⟨w.heap.size+1,i,none⟩) hl];exact kf i
 clear k0 k1 k2 k3 k4 k5 kf L6
 have HG:=hide (hG.kept hb0)
 have HB0:=hide hb0
 have HT:=hide (hT.kept hb0)
 have hlt:=lt_of_cell hcv
 have HOLD:Hid (∀W,Below w1.heap.size w1 W→W.cell? ⟨w.heap.size,0,none⟩=some v):=fun W h=>by rw[h.cell (p:=⟨w.heap.size,0,none⟩) hlt];exact hcv
 have Gy:Hid (∀W,Below w1.heap.size w1 W→Calls Tryz.prog 35 #[.agg #[v]] W fun e w'=>e=.returned (.string (known (aB xs ⟨#[77,83,72]⟩ 10 1)))∧Below W.heap.size W w'):=fun W hb=>qO xs v W (HG.out.kept hb) hsz
 have qc:=hide (Df xs v w1 HG.out hsz (hE.kept hb0))
 unfold qQ
 unfold sG at qc
 obtain⟨kind,h1⟩:∃z,aB xs ⟨#[77,83,72]⟩ 9 1=z:=⟨_,rfl⟩
 obtain⟨ct,h2⟩:∃z,aB xs ⟨#[77,83,72]⟩ 10 1=z:=⟨_,rfl⟩
 obtain⟨ver,h3⟩:∃z,aB xs ⟨#[77,83,72]⟩ 12 1=z:=⟨_,rfl⟩
 obtain⟨dZ,h4⟩:∃z,aB xs ⟨#[81,73,68]⟩ 1 1=z:=⟨_,rfl⟩
 obtain⟨tag,h5⟩:∃z,aB xs ⟨#[81,80,68]⟩ 2 1=z:=⟨_,rfl⟩
 obtain⟨query,h6⟩:∃z,aB xs ⟨#[81,80,68]⟩ 3 1=z:=⟨_,rfl⟩
 obtain⟨pointer,h7⟩:∃z,aB xs ⟨#[68,83,67]⟩ 1 1=z:=⟨_,rfl⟩
 obtain⟨size,h8⟩:∃z,aB xs ⟨#[82,67,80]⟩ 2 1=z:=⟨_,rfl⟩
 rw[h2] at Gy
 rw[h1,h2,h3,h4,h5,h6,h7,h8] at qc ⊢
 generalize jB size.data.toList=num at qc ⊢
 have HS:Hid (∀c,(eG kind ct ver dZ tag query pointer (if size.toList == [] then 10 else num)).2=some c→bG kind ct ver dZ tag query pointer size num=(told ct,c)):=fun c h=>LH h
 have HN:=hide (@LJ kind ct ver dZ tag query pointer size num)
 clear h1 h2 h3 h4 h5 h6 h7 h8 hG hE hb0 hT
 generalize hpg:(if size.toList == [] then (10:Int) else num)=page at qc HS HN
 clear hpg
 obtain⟨lv,hlv⟩:∃lv,(eG kind ct ver dZ tag query pointer page).1=lv:=⟨_,rfl⟩
 have r1:=SV
 have r2:=SX
 have r3:=SY
 have agh:Hid (bY (told ct)=.agg #[.int .i64 0,.string (known ct),.string ⟨#[]⟩,.string ⟨#[]⟩,.int .i64 0,.string ⟨#[]⟩]):=rfl
 cases hlk:(eG kind ct ver dZ tag query pointer page).2 with
 | some c =>
  have HX:=hide (HS.out c hlk)
  have HP:Hid (gK (eG kind ct ver dZ tag query pointer page)=.tuple #[lv,.iface 76 (.agg #[.int .i64 c])]):=by unfold gK;rw[hlv,hlk];trivial
  rw[HP.out] at qc
  clear HS HN hlv hlk
  go_enter Tryz.func10,Tryz.ntmps10
  go_wp2_with fail
  refine qc.out.mono ?_
  rintro e w2 ⟨rfl,hb2⟩
  have HB2:=hide hb2
  have hb3:=hb2.alloc hb2.size (Obj.cells #[.int .i64 0] 76)
  have aal:(w2.alloc (Obj.cells #[.int .i64 0] 76)).cell? ⟨w2.heap.size,0,none⟩=some (.int .i64 0):=by simp
  have HAS:=hide (YA c ⟨w2.heap.size,0,none⟩ (.int .i64 0) (w2.alloc (Obj.cells #[.int .i64 0] 76)) (HT.out.kept hb3) aal (by simp))
  have HB3:=hide hb3
  have Qa:=hide aal
  have hs2:=hb2.size
  clear hb3 aal hb2
  go_wp2_with fail
  refine HAS.out.mono ?_
  rintro e w3' ⟨rfl,w3,dO,rfl⟩
  have hs3:w2.heap.size<w3.heap.size:=by have:=dO.size;simp at this;omega
  have hl3:w3.cell? ⟨w2.heap.size,0,none⟩=some (.int .i64 0):=by rw[dO.cell (p:=⟨w2.heap.size,0,none⟩) (by simp)];exact Qa.out
  have hB3:Below w1.heap.size w1 (w3.setCell ⟨w2.heap.size,0,none⟩ (.int .i64 c)):=(aj dO HB3.out).setCell (p:=⟨w2.heap.size,0,none⟩) hs2 _
  have hc3:(w3.setCell ⟨w2.heap.size,0,none⟩ (.int .i64 c)).cell? ⟨w2.heap.size,0,none⟩=some (.int .i64 c):=World.cell?_setCell_same _ _ _ hl3
  obtain⟨W3,hW3⟩:∃W3,w3.setCell ⟨w2.heap.size,0,none⟩ (.int .i64 c)=W3:=⟨_,rfl⟩
  rw[hW3] at hB3 hc3 ⊢
  have hs4:w2.heap.size<W3.heap.size:=by rw[←hW3,Deep.nblk_setCell];exact hs3
  have KEEP:Hid (∀X,Below W3.heap.size W3 X→X.cell? ⟨w.heap.size,0,none⟩=some v∧X.cell? ⟨w2.heap.size,0,none⟩=some (.int .i64 c)∧Below w.heap.size w X):=fun X h=>⟨HOLD.out _ (aj h hB3),by rw[h.cell (p:=⟨w2.heap.size,0,none⟩) hs4];exact hc3,aj h (aj hB3 HB0.out)⟩
  have HST:Hid (∀W,Below W3.heap.size W3 W→∀a0 a1 a2 a3 a4 a5,((((((W.setCell ⟨w.heap.size+1,0,none⟩ a0).setCell ⟨w.heap.size+1,1,none⟩ a1).setCell ⟨w.heap.size+1,2,none⟩ a2).setCell ⟨w.heap.size+1,3,none⟩ a3).setCell ⟨w.heap.size+1,4,none⟩ a4).setCell ⟨w.heap.size+1,5,none⟩ a5).cell? ⟨w.heap.size,0,none⟩=some v∧((((((W.setCell ⟨w.heap.size+1,0,none⟩ a0).setCell ⟨w.heap.size+1,1,none⟩ a1).setCell ⟨w.heap.size+1,2,none⟩ a2).setCell ⟨w.heap.size+1,3,none⟩ a3).setCell ⟨w.heap.size+1,4,none⟩ a4).setCell ⟨w.heap.size+1,5,none⟩ a5).cell? ⟨w2.heap.size,0,none⟩=some (.int .i64 c)∧Below w.heap.size w ((((((W.setCell ⟨w.heap.size+1,0,none⟩ a0).setCell ⟨w.heap.size+1,1,none⟩ a1).setCell ⟨w.heap.size+1,2,none⟩ a2).setCell ⟨w.heap.size+1,3,none⟩ a3).setCell ⟨w.heap.size+1,4,none⟩ a4).setCell ⟨w.heap.size+1,5,none⟩ a5)):=fun W h a0 a1 a2 a3 a4 a5=>by
   obtain⟨g1,g2,g3⟩:=KEEP.out W h
   have n1:w.heap.size≠w.heap.size+1:=by omega
   have n2:w2.heap.size≠w.heap.size+1:=by omega
   have n3:w.heap.size≤w.heap.size+1:=by omega
   exact⟨(Fp W _ _ 0 a0 a1 a2 a3 a4 a5 n1).trans g1,(Fp W _ _ 0 a0 a1 a2 a3 a4 a5 n2).trans g2,bM g3 _ n3 a0 a1 a2 a3 a4 a5⟩
  have hd:=(Below.refl W3.heap.size W3).drew
  have o7:=hide hB3
  have hm3:=HOLD.out _ hB3
  clear hB3 dO hl3 hW3 HAS qc HB3 Qa
  go_wp2_with fail
  go_region_held3 (fun X=>X.cell? ⟨w.heap.size,0,none⟩=some v∧X.cell? ⟨w2.heap.size,0,none⟩=some (.int .i64 c)∧Below w.heap.size w X)
   (first|with_reducible exact KEEP.out _ hd|with_reducible exact KEEP.out _ hb4|with_reducible exact HST.out _ hb4 _ _ _ _ _ _)
   (first|(go_at_call 35;refine(Gy.out _ (aj hd o7.out)).mono ?_;rintro e w4 ⟨rfl,zk⟩;have hb4:=aj zk hd;obtain⟨k0,k1,k2,k3,k4,k5,kf,kl⟩:=fM.out _ (aj hb4 o7.out)))
  go_wp2_with fail
  exact bodyPost_ret (v:=fU (told ct,c)) (by simp[results,Tryz.results10,go_sem,fU,bY,told,known,k0,k1,k2,k3,k4,k5,kl]) rfl ⟨eF HX.out.symm,(HST.out _ hb4 _ _ _ _ _ _).2.2⟩
 | none =>
  rcases HN.out hlk with⟨hV,hR⟩|⟨hV,hR⟩|⟨hV,hR⟩
  ·have HP:Hid (gK (eG kind ct ver dZ tag query pointer page)=.tuple #[.iface 100 (.agg #[.string ct,.string dZ]),.nilIface]):=by unfold gK;rw[hV,hlk];trivial
   rw[HP.out] at qc
   have HX:=hide hR
   clear hV hR hlk hlv HP
   go_enter Tryz.func10,Tryz.ntmps10
   go_wp2_with fail
   refine qc.out.mono ?_
   rintro e w2 ⟨rfl,hb2⟩
   have HB2:=hide (hb2.alloc hb2.size (Obj.cells #[.int .i64 0] 76))
   clear hb2 qc
   go_wp2_with (first|(go_at_call 34;refine(Ky _ _).mono ?_;rintro e w3 ⟨rfl,rfl⟩)|(go_at_call 202;refine(iA ct dZ _).mono ?_;rintro e w4 ⟨rfl,zk⟩;dsimp only[bY];have hb4:=aj zk HB2.out;obtain⟨k0,k1,k2,k3,k4,k5,kf,kl⟩:=fM.out _ hb4))
   exact bodyPost_ret (v:=fU (⟨3,ct,dZ,⟨#[]⟩,0,⟨#[]⟩⟩,0)) (by simp[results,Tryz.results10,go_sem,fU,bY,told,known,k0,k1,k2,k3,k4,k5,kl]) rfl ⟨eF HX.out.symm,bM (aj hb4 HB0.out) _ (Nat.le_succ _) _ _ _ _ _ _⟩
  ·have HP:Hid (gK (eG kind ct ver dZ tag query pointer page)=.tuple #[.iface 98 (.agg #[.string ct,.string tag,.string query,.string pointer]),.nilIface]):=by unfold gK;rw[hV,hlk];trivial
   rw[HP.out] at qc
   have HX:=hide hR
   clear hV hR hlk hlv HP
   go_enter Tryz.func10,Tryz.ntmps10
   go_wp2_with fail
   refine qc.out.mono ?_
   rintro e w2 ⟨rfl,hb2⟩
   have HB2:=hide (hb2.alloc hb2.size (Obj.cells #[.int .i64 0] 76))
   clear hb2 qc
   go_wp2_with (first|(go_at_call 34;refine(Ky _ _).mono ?_;rintro e w3 ⟨rfl,rfl⟩)|(go_at_call 199;refine(nS ct tag query pointer _).mono ?_;rintro e w4 ⟨rfl,zk⟩;dsimp only[bY];have hb4:=aj zk HB2.out;obtain⟨k0,k1,k2,k3,k4,k5,kf,kl⟩:=fM.out _ hb4))
   exact bodyPost_ret (v:=fU (⟨2,ct,tag,query,0,pointer⟩,0)) (by simp[results,Tryz.results10,go_sem,fU,bY,told,known,k0,k1,k2,k3,k4,k5,kl]) rfl ⟨eF HX.out.symm,bM (aj hb4 HB0.out) _ (Nat.le_succ _) _ _ _ _ _ _⟩
  ·have HP:Hid (gK (eG kind ct ver dZ tag query pointer page)=.tuple #[.iface 96 (.agg #[.string ct,.string tag,.string query,.int .i64 page]),.nilIface]):=by unfold gK;rw[hV,hlk];trivial
   rw[HP.out] at qc
   have HX:=hide hR
   clear hV hR hlk hlv HP
   go_enter Tryz.func10,Tryz.ntmps10
   go_wp2_with fail
   refine qc.out.mono ?_
   rintro e w2 ⟨rfl,hb2⟩
   have HB2:=hide (hb2.alloc hb2.size (Obj.cells #[.int .i64 0] 76))
   clear hb2 qc
   go_wp2_with (first|(go_at_call 34;refine(Ky _ _).mono ?_;rintro e w3 ⟨rfl,rfl⟩)|(go_at_call 191;refine(oU ct tag query page _).mono ?_;rintro e w4 ⟨rfl,zk⟩;dsimp only[bY];have hb4:=aj zk HB2.out;obtain⟨k0,k1,k2,k3,k4,k5,kf,kl⟩:=fM.out _ hb4))
   exact bodyPost_ret (v:=fU (⟨1,ct,tag,query,page,⟨#[]⟩⟩,0)) (by simp[results,Tryz.results10,go_sem,fU,bY,told,known,k0,k1,k2,k3,k4,k5,kl]) rfl ⟨eF HX.out.symm,bM (aj hb4 HB0.out) _ (Nat.le_succ _) _ _ _ _ _ _⟩
end Go.Proofs.YtfdihjnlgdiioaaGreatDoor.dB
