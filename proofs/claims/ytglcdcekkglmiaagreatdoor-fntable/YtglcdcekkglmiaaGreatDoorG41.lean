import Derived.Test.YtglcdcekkglmiaaGreatDoorG40
import Derived.Test.YtglcdcekkglmiaaGreatDoorG21
namespace Go.Proofs.YtglcdcekkglmiaaGreatDoor.Msg
open Go.ChangeShapes Go.WideShapes Go.ChangeAt Go.RowKit
set_option linter.unusedVariables false
set_option linter.unusedSimpArgs false
def rowsAt (cs:List UInt8) (q n:Nat):List ByteArray:=(List.range n).map fun i=>drTxt cs (q+2 * i)
theorem rowsAt_len (cs:List UInt8) (q n:Nat):(rowsAt cs q n).length=n:=by unfold rowsAt;rw[List.length_map,List.length_range]
theorem rowsAt_step (cs:List UInt8) (q k:Nat):rowsAt cs q (k+1)=rowsAt cs q k++[drTxt cs (q+2 * k)]:=by
 unfold rowsAt;rw[List.range_succ,List.map_append];rfl
theorem rowsAt_sz (cs:List UInt8) (q n:Nat):∀s∈rowsAt cs q n,s.size≤100:=fun s hs=>by
 unfold rowsAt at hs
 obtain⟨i,_,rfl⟩:=List.mem_map.1 hs
 exact drTxt_sz _ _
def chN (b:Nat):ByteArray:=⟨#[110]⟩++decT b
def drOp (cs:List UInt8) (p:Nat):Chg :=
 ⟨1,((tk cs (p+1) 60 % 4:Nat):Int),if 40<tk cs (p+1) 60 then chN (tk cs (p+1) 60) else drTag cs (p+2),drTxt cs (p+3),((tk cs (p+1) 60 % 9:Nat):Int)+1,[],0⟩
def kd (a b:Nat) (st:Int):Int:=if a<10∧st=1 then (2:Int)+((b % 2:Nat):Int) else if a<12∧st=2 then 4 else ((a % 5:Nat):Int)+2
def drOn (cs:List UInt8) (p a b:Nat) (s:Sess):Chg :=
 ⟨kd a b s.state,s.client,s.tag,⟨#[]⟩,0,if kd a b s.state=2 then rowsAt cs (p+6) (tk cs (p+5) 5) else [],if kd a b s.state=4 then ((b % (s.rows.length+2):Nat):Int) else 0⟩
def drCh (cs:List UInt8) (p:Nat) (xs:List Sess):Chg :=
 if tk cs p 16<6∨xs.length=0 then drOp cs p else drOn cs p (tk cs p 16) (tk cs (p+1) 60) (xs.getD (tk cs (p+1) 60 % xs.length) sess0)
def drChQ (cs:List UInt8) (p:Nat) (xs:List Sess):Nat :=
 if tk cs p 16<6∨xs.length=0 then p+5 else if kd (tk cs p 16) (tk cs (p+1) 60) (xs.getD (tk cs (p+1) 60 % xs.length) sess0).state=2 then p+6+2 * tk cs (p+5) 5 else p+5
theorem drChQ_le (cs:List UInt8) (p:Nat) (xs:List Sess):drChQ cs p xs≤p+16:=by
 unfold drChQ
 have:=tk_lt cs (p+5) 5 (by decide)
 split
 ·omega
 ·split <;> omega
theorem drCh_sz (cs:List UInt8) (p:Nat) (xs:List Sess) (h:∀s∈xs,s.tag.size≤9223372036854775807):(drCh cs p xs).tag.size≤9223372036854775807∧(drCh cs p xs).query.size≤9223372036854775807∧∀s∈(drCh cs p xs).rows,s.size≤9223372036854775807:=by
 unfold drCh
 split
 ·refine⟨?_,Nat.le_trans (drTxt_sz cs (p+3)) (by decide),fun s hs=>by cases hs⟩
  show (if 40<tk cs (p+1) 60 then chN (tk cs (p+1) 60) else drTag cs (p+2)).size≤_
  split
  ·unfold chN
   rw[ByteArray.size_append]
   have h1:=tk_lt cs (p+1) 60 (by decide)
   have h2:=decT_small (tk cs (p+1) 60) (by omega)
   have e1:(⟨#[110]⟩:ByteArray).size=1:=rfl
   omega
  ·exact Nat.le_trans (drTag_sz cs (p+2)) (by decide)
 ·rename_i h0
  have hx:0<xs.length:=by omega
  have hm:=Nat.mod_lt (tk cs (p+1) 60) hx
  have hg:xs.getD (tk cs (p+1) 60 % xs.length) sess0∈xs:=by rw[List.getD_eq_getElem?_getD,List.getElem?_eq_getElem hm];exact List.getElem_mem hm
  refine⟨h _ hg,by show (⟨#[]⟩:ByteArray).size≤_;decide,fun s hs=>?_⟩
  have hs':s∈(if kd (tk cs p 16) (tk cs (p+1) 60) (xs.getD (tk cs (p+1) 60 % xs.length) sess0).state=2 then rowsAt cs (p+6) (tk cs (p+5) 5) else []):=hs
  split at hs'
  ·exact Nat.le_trans (rowsAt_sz _ _ _ s hs') (by decide)
  ·cases hs'
def cgZ:Array Value:=#[.int .i64 0,.int .i64 0,.string ⟨#[]⟩,.string ⟨#[]⟩,.int .i64 0,.slice none 0 0,.int .i64 0]
def cgC (c:Chg) (v:Value):Array Value:=#[.int .i64 c.kind,.int .i64 c.client,.string c.tag,.string c.query,.int .i64 c.page,v,.int .i64 c.n]
structure DC (w:World) (tv:Value) (R:Nat) (c:Chg) (v:Value) (X:World):Prop where
 tbl:Box X w.heap.size 25 #[tv]
 res:Box X (w.heap.size+1) 28 cgZ
 box:Box X R 28 (cgC c v)
 row:FB tC 1 9 (R+1) X v c.rows
 bel:Below w.heap.size w X
 lt:w.heap.size+1<R
section
variable {w X Y:World} {tv:Value} {R:Nat} {c:Chg} {v:Value}
theorem DC.below (h:DC w tv R c v X) (hb:Below X.heap.size X Y):DC w tv R c v Y:=⟨h.tbl.below hb,h.res.below hb,h.box.below hb,h.row.below hb,bjoin hb h.bel,h.lt⟩
theorem DC.set (h:DC w tv R c v X) (i:Nat) (x:Value) (c':Chg) (e:(cgC c v).setIfInBounds i x=cgC c' v) (er:c'.rows=c.rows):DC w tv R c' v (X.setCell ⟨R,i,none⟩ x) :=
 ⟨h.tbl.other (by have:=h.lt;simp;omega) x,h.res.other (by have:=h.lt;simp;omega) x,by rw[←e];exact h.box.set i x,by rw[er];exact h.row.keep fun b hb=>Deep.blk_setCell_other _ ⟨R,i,none⟩ _ b (by have:=(h.row.own b hb).1;dsimp only;omega),h.bel.setCell (p:=⟨R,i,none⟩) (by have:=h.lt;show w.heap.size≤R;omega) x,h.lt⟩
theorem Box.fill7 {X:World} {b:Nat} {t:TypeId} {y0 y1 y2 y3 y4 y5 y6:Value} (h:Box X b t #[y0,y1,y2,y3,y4,y5,y6]) (x0 x1 x2 x3 x4 x5 x6:Value) :
  Box (((((((X.setCell ⟨b,0,none⟩ x0).setCell ⟨b,1,none⟩ x1).setCell ⟨b,2,none⟩ x2).setCell ⟨b,3,none⟩ x3).setCell ⟨b,4,none⟩ x4).setCell ⟨b,5,none⟩ x5).setCell ⟨b,6,none⟩ x6) b t #[x0,x1,x2,x3,x4,x5,x6]:=by
 have:=((((((h.set 0 x0).set 1 x1).set 2 x2).set 3 x3).set 4 x4).set 5 x5).set 6 x6
 simpa using this
theorem Below.fill7 {n:Nat} {w X:World} (h:Below n w X) {b:Nat} (hb:n≤b) (x0 x1 x2 x3 x4 x5 x6:Value) :
  Below n w (((((((X.setCell ⟨b,0,none⟩ x0).setCell ⟨b,1,none⟩ x1).setCell ⟨b,2,none⟩ x2).setCell ⟨b,3,none⟩ x3).setCell ⟨b,4,none⟩ x4).setCell ⟨b,5,none⟩ x5).setCell ⟨b,6,none⟩ x6) :=
 ((((((h.setCell (p:=⟨b,0,none⟩) hb _).setCell (p:=⟨b,1,none⟩) hb _).setCell (p:=⟨b,2,none⟩) hb _).setCell (p:=⟨b,3,none⟩) hb _).setCell (p:=⟨b,4,none⟩) hb _).setCell (p:=⟨b,5,none⟩) hb _).setCell (p:=⟨b,6,none⟩) hb _
theorem blk_fill7 (X:World) (b:Nat) (x0 x1 x2 x3 x4 x5 x6:Value) (d:Nat) (hd:d≠b) :
  (((((((X.setCell ⟨b,0,none⟩ x0).setCell ⟨b,1,none⟩ x1).setCell ⟨b,2,none⟩ x2).setCell ⟨b,3,none⟩ x3).setCell ⟨b,4,none⟩ x4).setCell ⟨b,5,none⟩ x5).setCell ⟨b,6,none⟩ x6).heap[d]?=X.heap[d]?:=by
 rw[Deep.blk_setCell_other _ ⟨b,6,none⟩ _ d (by dsimp only;exact hd),Deep.blk_setCell_other _ ⟨b,5,none⟩ _ d (by dsimp only;exact hd),Deep.blk_setCell_other _ ⟨b,4,none⟩ _ d (by dsimp only;exact hd),Deep.blk_setCell_other _ ⟨b,3,none⟩ _ d (by dsimp only;exact hd),Deep.blk_setCell_other _ ⟨b,2,none⟩ _ d (by dsimp only;exact hd),Deep.blk_setCell_other _ ⟨b,1,none⟩ _ d (by dsimp only;exact hd),Deep.blk_setCell_other _ ⟨b,0,none⟩ _ d (by dsimp only;exact hd)]
theorem DC.fill (h:DC w tv R c v X) (x0 x1 x2 x3 x4 x6:Value) (c':Chg) (e:#[x0,x1,x2,x3,x4,.slice none 0 0,x6]=cgC c' (.slice none 0 0)) (er:c'.rows=[]) :
  DC w tv R c' (.slice none 0 0) (((((((X.setCell ⟨R,0,none⟩ x0).setCell ⟨R,1,none⟩ x1).setCell ⟨R,2,none⟩ x2).setCell ⟨R,3,none⟩ x3).setCell ⟨R,4,none⟩ x4).setCell ⟨R,5,none⟩ (.slice none 0 0)).setCell ⟨R,6,none⟩ x6):=by
 have hl:=h.lt
 exact⟨h.tbl.keep (blk_fill7 X R _ _ _ _ _ _ _ _ (by omega)),h.res.keep (blk_fill7 X R _ _ _ _ _ _ _ _ (by omega)),by rw[←e];exact Box.fill7 (show Box X R 28 #[.int .i64 c.kind,.int .i64 c.client,.string c.tag,.string c.query,.int .i64 c.page,v,.int .i64 c.n] from h.box) _ _ _ _ _ _ _,by rw[er];exact FB.nil _ _ _ _ _,Below.fill7 h.bel (by omega) _ _ _ _ _ _ _,hl⟩
theorem DC.cells (h:DC w tv R c v X):(X.cell? ⟨R,0,none⟩=some (.int .i64 c.kind)∧X.cell? ⟨R,1,none⟩=some (.int .i64 c.client)∧X.cell? ⟨R,2,none⟩=some (.string c.tag)∧X.cell? ⟨R,3,none⟩=some (.string c.query)∧X.cell? ⟨R,4,none⟩=some (.int .i64 c.page)∧X.cell? ⟨R,5,none⟩=some v∧X.cell? ⟨R,6,none⟩=some (.int .i64 c.n)) ∧
  (X.frozen? ⟨R,0,none⟩=false∧X.frozen? ⟨R,1,none⟩=false∧X.frozen? ⟨R,2,none⟩=false∧X.frozen? ⟨R,3,none⟩=false∧X.frozen? ⟨R,4,none⟩=false∧X.frozen? ⟨R,5,none⟩=false∧X.frozen? ⟨R,6,none⟩=false)∧R<X.heap.size :=
 ⟨⟨h.box.cell 0 (by simp[cgC]),h.box.cell 1 (by simp[cgC]),h.box.cell 2 (by simp[cgC]),h.box.cell 3 (by simp[cgC]),h.box.cell 4 (by simp[cgC]),h.box.cell 5 (by simp[cgC]),h.box.cell 6 (by simp[cgC])⟩,⟨h.box.frozen 0,h.box.frozen 1,h.box.frozen 2,h.box.frozen 3,h.box.frozen 4,h.box.frozen 5,h.box.frozen 6⟩,h.box.lt⟩
theorem DC.rcells (h:DC w tv R c v X):(X.cell? ⟨w.heap.size+1,0,none⟩=some (.int .i64 0)∧X.cell? ⟨w.heap.size+1,1,none⟩=some (.int .i64 0)∧X.cell? ⟨w.heap.size+1,2,none⟩=some (.string ⟨#[]⟩)∧X.cell? ⟨w.heap.size+1,3,none⟩=some (.string ⟨#[]⟩)∧X.cell? ⟨w.heap.size+1,4,none⟩=some (.int .i64 0)∧X.cell? ⟨w.heap.size+1,5,none⟩=some (.slice none 0 0)∧X.cell? ⟨w.heap.size+1,6,none⟩=some (.int .i64 0)) ∧
  (X.frozen? ⟨w.heap.size+1,0,none⟩=false∧X.frozen? ⟨w.heap.size+1,1,none⟩=false∧X.frozen? ⟨w.heap.size+1,2,none⟩=false∧X.frozen? ⟨w.heap.size+1,3,none⟩=false∧X.frozen? ⟨w.heap.size+1,4,none⟩=false∧X.frozen? ⟨w.heap.size+1,5,none⟩=false∧X.frozen? ⟨w.heap.size+1,6,none⟩=false)∧w.heap.size+1<X.heap.size :=
 ⟨⟨h.res.cell 0 (by simp[cgZ]),h.res.cell 1 (by simp[cgZ]),h.res.cell 2 (by simp[cgZ]),h.res.cell 3 (by simp[cgZ]),h.res.cell 4 (by simp[cgZ]),h.res.cell 5 (by simp[cgZ]),h.res.cell 6 (by simp[cgZ])⟩,⟨h.res.frozen 0,h.res.frozen 1,h.res.frozen 2,h.res.frozen 3,h.res.frozen 4,h.res.frozen 5,h.res.frozen 6⟩,h.res.lt⟩
theorem DC.done (h:DC w tv R c v X) (hl:c.rows.length≤9223372036854775807) (hz:∀s∈c.rows,s.size≤9223372036854775807) (x0 x1 x2 x3 x4 x5 x6:Value) :
  StrsAt w.heap.size (((((((X.setCell ⟨w.heap.size+1,0,none⟩ x0).setCell ⟨w.heap.size+1,1,none⟩ x1).setCell ⟨w.heap.size+1,2,none⟩ x2).setCell ⟨w.heap.size+1,3,none⟩ x3).setCell ⟨w.heap.size+1,4,none⟩ x4).setCell ⟨w.heap.size+1,5,none⟩ x5).setCell ⟨w.heap.size+1,6,none⟩ x6) v c.rows ∧
  Below w.heap.size w (((((((X.setCell ⟨w.heap.size+1,0,none⟩ x0).setCell ⟨w.heap.size+1,1,none⟩ x1).setCell ⟨w.heap.size+1,2,none⟩ x2).setCell ⟨w.heap.size+1,3,none⟩ x3).setCell ⟨w.heap.size+1,4,none⟩ x4).setCell ⟨w.heap.size+1,5,none⟩ x5).setCell ⟨w.heap.size+1,6,none⟩ x6):=by
 have hlt:=h.lt
 refine⟨At.mono mono_str (tC_strs (h.row.keep fun b hb=>blk_fill7 X _ _ _ _ _ _ _ _ b (by have:=(h.row.own b hb).1;omega)) hl hz) (by omega),Below.fill7 h.bel (by omega) _ _ _ _ _ _ _⟩
theorem DC.more {n:Nat} (h:DC w tv R c v X) (s:ByteArray) (hn:c.rows.length=n) (hl:n≤100000) :
  ∃a' c' w',(Builtin.append_ #[26,26] 26 #[v,.slice (some ⟨X.heap.size,0,none⟩) 1 1]).run Tryz.prog (X.alloc (.cells #[.string s] 9))=.ok (.slice a' (n+1) c') w' ∧
   DC w tv R { c with rows:=c.rows++[s] } (.slice a' (n+1) c') (w'.setCell ⟨R,5,none⟩ (.slice a' (n+1) c'))∧w'.cell? ⟨R,5,none⟩=some v∧w'.frozen? ⟨R,5,none⟩=false∧R<w'.heap.size∧Below w.heap.size w w':=by
 subst hn
 have hlt:=h.lt
 have hRX:R<X.heap.size:=h.box.lt
 obtain⟨v',Z',hr2,hF',hOn,hat⟩:=app1 (C:=tC) (c:=1) (bytes:=16) (z:=.string ByteArray.empty) Tryz.underlying26 info_string rfl (by decide) (fun _=>rfl) (fun x u hu=>by rw[List.mem_singleton.1 hu];rfl) h.row 26 s (by omega) (by omega) (by decide)
 have hown:=h.row.own
 have hRn:R ∉ v.ownBlock.toList:=fun hm=>by have:=(hown R hm).1;omega
 have hBn:w.heap.size ∉ v.ownBlock.toList:=fun hm=>by have:=(hown _ hm).1;omega
 have hBn1:w.heap.size+1 ∉ v.ownBlock.toList:=fun hm=>by have:=(hown _ hm).1;omega
 have hBX':=h.box.only hOn hRn
 have hRS':=h.res.only hOn hBn1
 have hTB':=h.tbl.only hOn hBn
 have hwX:w.heap.size≤X.heap.size:=h.bel.size
 have hbel:Below w.heap.size w Z':=h.bel.trans (hOn.below hwX fun d hd=>by have:=(hown d hd).1;omega)
 obtain⟨a8,c8,e8,_,_⟩:=hF'.form
 rw[List.length_append,List.length_singleton] at e8
 subst e8
 refine⟨a8,c8,Z',hr2,⟨hTB'.other (by simp;omega) _,hRS'.other (by simp;omega) _,?_,?_,hbel.setCell (p:=⟨R,5,none⟩) (by show w.heap.size≤R;omega) _,h.lt⟩,hBX'.cell 5 (by simp[cgC]),hBX'.frozen 5,hBX'.lt,hbel⟩
 ·have:=hBX'.set 5 (.slice a8 (c.rows.length+1) c8)
  simpa [cgC] using this
 ·exact hF'.keep fun b hb=>Deep.blk_setCell_other _ ⟨R,5,none⟩ _ b (by have:=(hF'.own b hb).1;dsimp only;omega)
end
def drCount (L per lo hi:Nat):Nat:=if hi<lo+L / per then hi else lo+L / per
set_option maxHeartbeats 1000000 in
theorem count_any (L:Nat) (a:Option Addr) (cap per lo hi:Nat) (w:World) (hl:L≤1048576) (hp:1≤per) (hlo:lo≤1000) (hhi:hi≤1000) (hper:per≤1000) :
  Calls Tryz.prog 45 #[.slice a L cap,.int .i64 (per:Int),.int .i64 (lo:Int),.int .i64 (hi:Int)] w fun e w'=>e=.returned (.int .i64 ((drCount L per lo hi:Nat):Int))∧w'=w:=by
 obtain⟨q,hq⟩:∃q,L / per=q:=⟨_,rfl⟩
 have hql:q≤L:=by rw[←hq];exact Nat.div_le_self _ _
 have m1:(L:Int).tdiv (per:Int)=(q:Int):=by rw[Int.tdiv_eq_ediv_of_nonneg (by omega),←hq];exact(Int.natCast_ediv _ _).symm
 have m2:(L:Int) / (per:Int)=(q:Int):=by rw[←hq];exact(Int.natCast_ediv _ _).symm
 have h0:¬(per:Int)=0:=by omega
 have h0b:((per:Int) == 0)=false:=by simpa using h0
 by_cases hh:(hi:Int)<(lo:Int)+(q:Int)
 ·have HX:Hid (drCount L per lo hi=hi):=by unfold drCount;rw[hq,if_pos (by omega)];exact rfl
  clear hq
  go_enter Tryz.func45,Tryz.ntmps45
  go_wp2_with fail
  go_ret
  exact⟨by rw[HX.out];rfl,rfl⟩
 ·have HX:Hid (((drCount L per lo hi:Nat):Int)=(lo:Int)+(q:Int)):=by unfold drCount;rw[hq,if_neg (by omega)];show ((lo+q:Nat):Int)=_;omega
  clear hq
  go_enter Tryz.func45,Tryz.ntmps45
  go_wp2_with fail
  go_ret
  exact⟨by rw[HX.out];rfl,rfl⟩
def rB:ByteArray:=⟨#[114]⟩
def spS (a:Nat) (s:Sess):Sess :=
 if a=0 then { s with client:=4 } else if a=1 then { s with tag:=⟨#[]⟩ } else if a=2 then { s with state:=5 } else if a=3 then { s with cursor:=(s.rows.length:Int)+1 }
 else if a=4 then { s with page:=51 } else if a=5 then { s with state:=3,rows:=s.rows++[rB] } else if a=6 then s else if a=7 then { s with rows:=s.rows++[⟨#[97,10,98]⟩] }
 else { s with rows:=s.rows++List.replicate (201 - s.rows.length) rB }
def spoilT (a i:Nat) (xs:List Sess):List Sess :=
 if xs.length=0 then [⟨0,⟨#[116]⟩,⟨#[]⟩,0,0,[],0⟩] else ((if a=6 then xs++[xs.getD i sess0] else xs).set i (spS a (xs.getD i sess0)))
structure SPW (A:Prop) (w:World) (base BO BS:Nat) (tv:Value) (ps:List (Sess × Value)) (i:Nat) (s:Sess) (u:Value) (X:World):Prop where
 res:Box X (w.heap.size+1) 25 #[.slice none 0 0]
 out:Box X BO 25 #[tv]
 ses:Box X BS 41 #[.int .i64 s.client,.string s.tag,.string s.query,.int .i64 s.page,.int .i64 s.state,u,.int .i64 s.cursor]
 row:FB tsC 7 41 base X tv ps
 oth:∀j (h:j<ps.length),j≠i→SmS ps[j].1∧FB tC 1 9 base X ps[j].2 ps[j].1.rows
 rows:FB tC 1 9 base X u s.rows
 apart:A→∀b,u.ownBlock=some b→∀j (h:j<ps.length),j≠i→ps[j].2.ownBlock≠some b
 nb:tv.ownBlock≠some BS
 bel:Below w.heap.size w X
 lo:w.heap.size+2≤base
 hi:base≤BS
section
variable {A:Prop} {w X Y:World} {base BO BS:Nat} {tv:Value} {ps:List (Sess × Value)} {i:Nat} {s:Sess} {u:Value}
theorem FB.strNe {α:Type} {C:α→List Value} {c base:Nat} {X:World} {v:Value} {xs:List α} (h:FB C c 9 base X v xs) {b:Nat} {t:TypeId} {cs:Array Value} (hb:Box X b t cs) (ht:t≠9):v.ownBlock≠some b:=fun e=>by
 obtain⟨c1,e1⟩:=h.blk e
 have e2:X.heap[b]?=some (.cells cs t (0,0)):=hb
 rw[e1] at e2
 injection e2 with e2
 injection e2 with _ e2 _
 exact ht e2.symm
theorem SPW.turn (h:SPW A w base BO BS tv ps i s u X) (hY:∀d,d≠BS→Y.heap[d]?=X.heap[d]?) (hb:Below w.heap.size w Y) (s':Sess) (hr:s'.rows=s.rows)
  (hS:Box Y BS 41 #[.int .i64 s'.client,.string s'.tag,.string s'.query,.int .i64 s'.page,.int .i64 s'.state,u,.int .i64 s'.cursor]):SPW A w base BO BS tv ps i s' u Y:=by
 have h1:=h.lo
 have h2:=h.hi
 refine⟨h.res.keep (hY _ (by omega)),h.out.keep (hY _ (blk_ne h.out h.ses (by decide))),hS,h.row.keep fun b hb'=>hY b fun e=>h.nb (by rw[←e];simpa using hb'),fun j hj hne=>⟨(h.oth j hj hne).1,(h.oth j hj hne).2.keep fun b hb'=>hY b fun e=>(h.oth j hj hne).2.strNe h.ses (by decide) (by rw[←e];simpa using hb')⟩,?_,h.apart,h.nb,hb,h.lo,h.hi⟩
 rw[hr]
 exact h.rows.keep fun b hb'=>hY b fun e=>h.rows.strNe h.ses (by decide) (by rw[←e];simpa using hb')
theorem SPW.set (h:SPW A w base BO BS tv ps i s u X) (k:Nat) (x:Value) (s':Sess) (hr:s'.rows=s.rows) (e:(#[.int .i64 s.client,.string s.tag,.string s.query,.int .i64 s.page,.int .i64 s.state,u,.int .i64 s.cursor]:Array Value).setIfInBounds k x=#[.int .i64 s'.client,.string s'.tag,.string s'.query,.int .i64 s'.page,.int .i64 s'.state,u,.int .i64 s'.cursor]) :
  SPW A w base BO BS tv ps i s' u (X.setCell ⟨BS,k,none⟩ x) :=
 h.turn (fun d hd=>Deep.blk_setCell_other _ ⟨BS,k,none⟩ _ d (by dsimp only;exact hd)) (h.bel.setCell (p:=⟨BS,k,none⟩) (by have:=h.lo;have:=h.hi;show w.heap.size≤BS;omega) x) s' hr (by rw[←e];exact h.ses.set k x)
theorem SPW.more {n:Nat} (h:SPW A w base BO BS tv ps i s u X) (hA:A) (r:ByteArray) (hn:s.rows.length=n) (hl:n≤100000) :
  ∃a' c' w',(Builtin.append_ #[26,26] 26 #[u,.slice (some ⟨X.heap.size,0,none⟩) 1 1]).run Tryz.prog (X.alloc (.cells #[.string r] 9))=.ok (.slice a' (n+1) c') w' ∧
   SPW A w base BO BS tv ps i { s with rows:=s.rows++[r] } (.slice a' (n+1) c') (w'.setCell ⟨BS,5,none⟩ (.slice a' (n+1) c'))∧w'.cell? ⟨BS,5,none⟩=some u∧w'.frozen? ⟨BS,5,none⟩=false∧BS<w'.heap.size:=by
 subst hn
 have h1:=h.lo
 have h2:=h.hi
 have hsl:=h.ses.lt
 obtain⟨v',Z',hr2,hF',hOn,hat⟩:=app1 (C:=tC) (c:=1) (bytes:=16) (z:=.string ByteArray.empty) Tryz.underlying26 info_string rfl (by decide) (fun _=>rfl) (fun x u hu=>by rw[List.mem_singleton.1 hu];rfl) h.rows 26 r (by omega) (by omega) (by decide)
 have nS:BS ∉ u.ownBlock.toList:=fun hm=>h.rows.strNe h.ses (by decide) (by simpa using hm)
 have nR:w.heap.size+1 ∉ u.ownBlock.toList:=fun hm=>h.rows.strNe h.res (by decide) (by simpa using hm)
 have nO:BO ∉ u.ownBlock.toList:=fun hm=>h.rows.strNe h.out (by decide) (by simpa using hm)
 have hS':=h.ses.only hOn nS
 have hbel:Below w.heap.size w Z':=h.bel.trans (hOn.below h.bel.size fun d hd=>by have:=(h.rows.own d hd).1;omega)
 have hrow:FB tsC 7 41 base Z' tv ps:=h.row.only hOn fun b hb' hm=>by
  obtain⟨c1,e1⟩:=h.row.blk (b:=b) (by simpa using hb')
  obtain⟨c2,e2⟩:=h.rows.blk (b:=b) (by simpa using hm)
  rw[e1] at e2
  injection e2 with e2
  injection e2 with _ e2 _
  exact absurd e2 (by decide)
 have hoth:∀j (hj:j<ps.length),j≠i→FB tC 1 9 base Z' ps[j].2 ps[j].1.rows:=fun j hj hne=>(h.oth j hj hne).2.only hOn fun b hb' hm=>h.apart hA b (by simpa using hm) j hj hne (by simpa using hb')
 obtain⟨a8,c8,e8,_,_⟩:=hF'.form
 rw[List.length_append,List.length_singleton] at e8
 subst e8
 have hset:∀d,d≠BS→(Z'.setCell ⟨BS,5,none⟩ (.slice a8 (s.rows.length+1) c8)).heap[d]?=Z'.heap[d]?:=fun d hd=>Deep.blk_setCell_other _ ⟨BS,5,none⟩ _ d (by dsimp only;exact hd)
 refine⟨a8,c8,Z',hr2,⟨(h.res.only hOn nR).keep (hset _ (by omega)),(h.out.only hOn nO).keep (hset _ (blk_ne h.out h.ses (by decide))),?_,hrow.keep fun b hb'=>hset b fun e=>h.nb (by rw[←e];simpa using hb'),fun j hj hne=>⟨(h.oth j hj hne).1,(hoth j hj hne).keep fun b hb'=>hset b fun e=>(hoth j hj hne).strNe hS' (by decide) (by rw[←e];simpa using hb')⟩,hF'.keep fun b hb'=>hset b fun e=>hF'.strNe hS' (by decide) (by rw[←e];simpa using hb'),fun _ b hb' j hj hne e=>?_,h.nb,hbel.setCell (p:=⟨BS,5,none⟩) (by show w.heap.size≤BS;omega) _,h.lo,h.hi⟩,hS'.cell 5 (by simp),hS'.frozen 5,hS'.lt⟩
 ·have:=hS'.set 5 (.slice a8 (s.rows.length+1) c8)
  simpa using this
 ·rcases hat with h9|⟨g,h9,hg⟩
  ·exact h.apart hA b (by rw[←h9];exact hb') j hj hne e
  ·rw[h9] at hb'
   injection hb' with hb'
   have:=((h.oth j hj hne).2.own b (by rw[e];simp)).2
   omega
theorem sesss_put {g n cap:Nat} (row:FB tsC 7 41 base X (.slice (some ⟨g,0,none⟩) n cap) ps) (hi:i<ps.length) (hz:ps.length≤100000) (oth:∀j (h:j<ps.length),j≠i→SmS ps[j].1∧FB tC 1 9 base X ps[j].2 ps[j].1.rows) (hs:SmS s) (rows:FB tC 1 9 base X u s.rows) :
  SesssAt base (put7 X g (i * 7) s u) (.slice (some ⟨g,0,none⟩) n cap) ((ps.map Prod.fst).set i s):=by
 have hgb:=row.blk (b:=g) (by simp[Value.ownBlock])
 have keyF:∀(q:Value) (xs:List ByteArray),FB tC 1 9 base X q xs→FB tC 1 9 base (put7 X g (i * 7) s u) q xs:=fun q xs hq=>hq.only (put7_only _ _ _ _ _) fun b hb' hm=>by
  obtain⟨c1,e1⟩:=hq.blk (b:=b) (by simpa using hb')
  obtain⟨c2,e2⟩:=hgb
  rw[List.mem_singleton.1 hm,e2] at e1
  injection e1 with e1
  injection e1 with _ e1 _
  exact absurd e1 (by decide)
 have hrow:=row.put7 hi s u rfl
 have e:(ps.map Prod.fst).set i s=(ps.set i (s,u)).map Prod.fst:=by rw[List.map_set]
 rw[e]
 obtain⟨h0,hA⟩:=FB.at (C:=tsC) (c:=7) (Z:=fun _=>True) tsC_len hrow (by rw[List.length_set];omega) (fun _ _=>trivial)
 refine⟨by rw[List.length_map,List.length_set];omega,?_⟩
 rcases hA with⟨a,cap,e,e2⟩|⟨b,off,cap,e,hbb,hA⟩
 ·cases e
  have:(ps.set i (s,u)).length=0:=by rw[e2];rfl
  rw[List.length_set] at this
  omega
 ·refine .inr ⟨b,off,cap,by rw[List.length_map];exact e,hbb,fun j hj=>?_⟩
  have hj1:j<(ps.set i (s,u)).length:=by rw[List.length_map] at hj;exact hj
  have hj2:j<ps.length:=by rw[List.length_set] at hj1;exact hj1
  have hE:SmS (ps.set i (s,u))[j].1∧FB tC 1 9 base (put7 X g (i * 7) s u) (ps.set i (s,u))[j].2 (ps.set i (s,u))[j].1.rows:=by
   by_cases ej:j=i
   ·subst ej
    rw[List.getElem_set_self]
    exact⟨hs,keyF _ _ rows⟩
   ·rw[List.getElem_set_ne (Ne.symm ej)]
    exact⟨(oth j hj2 ej).1,keyF _ _ (oth j hj2 ej).2⟩
  obtain⟨⟨z1,z2,z3,z4⟩,hF⟩:=hE
  have c0:=(hA j hj1).1 0 (by simp[tsC])
  have c1:=(hA j hj1).1 1 (by simp[tsC])
  have c2:=(hA j hj1).1 2 (by simp[tsC])
  have c3:=(hA j hj1).1 3 (by simp[tsC])
  have c4:=(hA j hj1).1 4 (by simp[tsC])
  have c5:=(hA j hj1).1 5 (by simp[tsC])
  have c6:=(hA j hj1).1 6 (by simp[tsC])
  rw[List.getElem_map]
  exact⟨by simpa [tsC] using c0,by simpa [tsC] using c1,by simpa [tsC] using c2,by simpa [tsC] using c3,by simpa [tsC] using c4,by simpa [tsC] using c6,z1,z2,_,by simpa [tsC] using c5,tC_strs hF (by omega) z4⟩
end
end Go.Proofs.YtglcdcekkglmiaaGreatDoor.Msg
namespace Go.Proofs.YtglcdcekkglmiaaGreatDoor.Msg
set_option linter.unusedVariables false
set_option linter.unusedSimpArgs false
theorem first_rest (img:ByteArray) (a:Nat):firstB (img.extract a img.size)=firstL (img.data.toList.drop a):=by
 unfold firstL
 congr 1
 apply bytes_ext
 rw[rest_list]
def imgL (ts:List (List UInt8)):List UInt8:=ts.flatMap recL
theorem imgL_snoc (ts:List (List UInt8)) (t:List UInt8):imgL (ts++[t])=imgL ts++recL t:=by simp[imgL]
theorem imgL_cons (t:List UInt8) (ts:List (List UInt8)):imgL (t :: ts)=recL t++imgL ts:=by simp[imgL]
theorem imgL_split (ts:List (List UInt8)) (i:Nat):imgL ts=imgL (ts.take i)++imgL (ts.drop i):=by
 unfold imgL
 rw[←List.flatMap_append,List.take_append_drop]
def endL (ts:List (List UInt8)) (i:Nat):Nat:=(imgL (ts.take i)).length
theorem endL_zero (ts:List (List UInt8)):endL ts 0=0:=by simp[endL,imgL]
theorem endL_succ (ts:List (List UInt8)) (i:Nat) (h:i<ts.length):endL ts (i+1)=endL ts i+32 * sectN ts[i].length:=by
 unfold endL
 rw[List.take_succ_eq_append_getElem h,imgL_snoc,List.length_append,recL_length]
theorem endL_all (ts:List (List UInt8)):endL ts ts.length=(imgL ts).length:=by unfold endL;rw[List.take_length]
theorem endL_mod (ts:List (List UInt8)):∀i,i≤ts.length→endL ts i % 32=0
 | 0,_=>by rw[endL_zero]
 | i+1,h=>by
  have ih:=endL_mod ts i (by omega)
  rw[endL_succ ts i (by omega)]
  omega
def recAt (ts:List (List UInt8)) (j:Nat):ByteArray × Nat:=(⟨(ts.getD j []).toArray⟩,endL ts (j+1))
theorem endOf_range (ts:List (List UInt8)) (i:Nat):endOf ((List.range i).map (recAt ts))=endL ts i:=by
 cases i with
 | zero=>rw[endL_zero];rfl
 | succ i=>rw[List.range_succ,List.map_append];exact endOf_snoc _ _ _
theorem recsK_img {ts:List (List UInt8)} {img:ByteArray} (hL:img.data.toList=imgL ts) (hs:∀t∈ts,t.length≤60000):∀i,i≤ts.length→recsK img i=(List.range i).map (recAt ts)
 | 0,_=>rfl
 | i+1,h=>by
  have ih:=recsK_img hL hs i (by omega)
  have hf:firstB (img.extract (endOf (recsK img i)) img.size)=some (⟨(ts[i]'(by omega)).toArray⟩,32 * sectN (ts[i]'(by omega)).length):=by
   rw[ih,endOf_range,first_rest,hL,imgL_split ts i]
   unfold endL
   rw[List.drop_append_of_le_length (leR _),List.drop_length,List.nil_append,List.drop_eq_getElem_cons (by omega),imgL_cons]
   exact firstL_rec _ _ (hs _ (List.getElem_mem _))
  rw[recsK_yes hf,ih,endOf_range,←endL_succ ts i (by omega),List.range_succ,List.map_append]
  congr 1
  simp[recAt,List.getD_eq_getElem?_getD,show i<ts.length by omega]
theorem recsA_img {ts:List (List UInt8)} {img:ByteArray} (hL:img.data.toList=imgL ts) (hs:∀t∈ts,t.length≤60000):recsA img=(List.range ts.length).map (recAt ts):=by
 have h:=recsK_img hL hs ts.length (leR _)
 have hsz:img.size=(imgL ts).length:=by rw[←hL];simp
 have hlen:(recsK img ts.length).length=ts.length:=by rw[h];simp
 rw[←h]
 refine recsA_of (by have:=recsK_full hlen;omega) ?_
 rw[h,endOf_range,endL_all,←hsz]
 exact firstB_at_end img img.size (by omega)
end Go.Proofs.YtglcdcekkglmiaaGreatDoor.Msg
