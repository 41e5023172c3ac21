import Derived.Test.YtglcdcekkglmiaaGreatDoorG3
import Derived.Lib.Join
namespace Go.Proofs.YtglcdcekkglmiaaGreatDoor.Msg
open Go.ChangeShapes Go.WideShapes Go.ChangeAt Go.RowKit
set_option linter.unusedVariables false
set_option linter.unusedSimpArgs false
def txt (l:List UInt8):ByteArray:=⟨l.toArray⟩
theorem txt_data (l:List UInt8):(txt l).data.toList=l:=by simp[txt]
theorem txt_size (l:List UInt8):(txt l).size=l.length:=by simp[txt,ByteArray.size]
theorem txt_of (s:ByteArray):txt s.data.toList=s:=by cases s;simp[txt]
def cutGo (c:UInt8) (cur:List UInt8):List UInt8→List (List UInt8)
 | []=>[cur]
 | x :: xs=>if x=c then cur :: cutGo c [] xs else cutGo c (cur++[x]) xs
def cutL (c:UInt8) (l:List UInt8):List (List UInt8):=cutGo c [] l
def SBuf (base:Nat) (w:World) (v:Value) (xs:List ByteArray):Prop:=w.ownsRow base 9 1 v xs.length (xs.map Value.string)
theorem str_facts:∃i,Tryz.prog.info? 9=some i∧i.zero=some (.string ByteArray.empty)∧i.size=1∧i.bytes=16:=by
 have h:=info_string
 cases hi:Tryz.prog.info? 9 with
 | none=>rw[hi] at h;cases h
 | some i =>
  rw[hi] at h
  simp only[Option.map_some,Option.some.injEq,Prod.mk.injEq] at h
  exact⟨i,rfl,h.1,h.2.1,h.2.2⟩
theorem own_cells {base:Nat} {e:TypeId} {w:World} {v:Value} {cs:List Value} (h:w.ownsRow base e 1 v cs.length cs) :
  (cs=[]∧v=.slice none 0 0)∨∃g cap,v=.slice (some ⟨g,0,none⟩) cs.length cap∧base≤g∧g<w.heap.size∧(∀i (hi:i<cs.length),w.cell? ⟨g,i,none⟩=some cs[i]∧w.frozen? ⟨g,i,none⟩=false):=by
 obtain⟨hlen,⟨rfl,h0⟩|⟨g,cap,cur,rfl,hg,hs,hcap,hm,hsz,htk⟩⟩:=h
 ·exact .inl ⟨List.length_eq_zero_iff.1 h0,rfl⟩
 ·refine .inr ⟨g,cap,rfl,hg,?_,fun i hi=>⟨?_,?_⟩⟩
  ·rw[Array.getElem?_eq_some_iff] at hs;exact hs.1
  ·have h3:(cur.toList.take (cs.length * 1))[i]?=some cs[i]:=by rw[htk];simp[hi]
   rw[List.getElem?_take,if_pos (by omega)] at h3
   simp only[World.cell?,hs]
   rw[←Array.getElem?_toList,h3]
   rfl
  ·simp[World.frozen?,hs]
theorem Only.setCell {bs:List Nat} {w w1:World} (h:Only bs w w1) {b o:Nat} (hb:b∈bs) (v:Value):Only bs w (w1.setCell ⟨b,o,none⟩ v) :=
 ⟨h.os,h.tape,h.output,by rw[Deep.nblk_setCell];exact h.size,fun k h1 h2=>by rw[Deep.blk_setCell_other _ _ _ _ (fun e=>h2 (by rw[e];exact hb))];exact h.block k h1 h2⟩
structure Sess where
 client:Int
 tag:ByteArray
 query:ByteArray
 page:Int
 state:Int
 rows:List ByteArray
 cursor:Int
def sessV (x:Sess) (v:Value):Value:=.agg #[.int .i64 x.client,.string x.tag,.string x.query,.int .i64 x.page,.int .i64 x.state,v,.int .i64 x.cursor]
def SessR (lo:Nat) (w:World) (b off:Nat) (x:Sess):Prop :=
 w.cell? ⟨b,off,none⟩=some (.int .i64 x.client)∧w.cell? ⟨b,off+1,none⟩=some (.string x.tag)∧w.cell? ⟨b,off+2,none⟩=some (.string x.query)∧w.cell? ⟨b,off+3,none⟩=some (.int .i64 x.page)∧w.cell? ⟨b,off+4,none⟩=some (.int .i64 x.state)∧w.cell? ⟨b,off+6,none⟩=some (.int .i64 x.cursor) ∧
  x.tag.size≤9223372036854775807∧x.query.size≤9223372036854775807∧∃v,w.cell? ⟨b,off+5,none⟩=some v∧StrsAt lo w v x.rows
def SesssAt:Nat→World→Value→List Sess→Prop:=At 7 SessR
theorem kept_sess:Kept SessR:=fun lo w w' b off x h h1 h2 hb=>by
 obtain⟨g0,g1,g2,g3,g4,g6,z1,z2,v,g5,gs⟩:=h
 exact⟨by rw[hb.cell h1 h2];exact g0,by rw[hb.cell h1 h2];exact g1,by rw[hb.cell h1 h2];exact g2,by rw[hb.cell h1 h2];exact g3,by rw[hb.cell h1 h2];exact g4,by rw[hb.cell h1 h2];exact g6,z1,z2,v,by rw[hb.cell h1 h2];exact g5,At.same kept_str gs hb⟩
theorem mono_sess:Mono SessR:=fun _ _ _ _ _ _ h hl=>let ⟨g0,g1,g2,g3,g4,g6,z1,z2,v,g5,gs⟩:=h;⟨g0,g1,g2,g3,g4,g6,z1,z2,v,g5,At.mono mono_str gs hl⟩
structure Chg where
 kind:Int
 client:Int
 tag:ByteArray
 query:ByteArray
 page:Int
 rows:List ByteArray
 n:Int
def chgV (c:Chg) (v:Value):Value:=.agg #[.int .i64 c.kind,.int .i64 c.client,.string c.tag,.string c.query,.int .i64 c.page,v,.int .i64 c.n]
def clientB (c:Int):Bool:=decide (0≤c) && decide (c<4)
def cursorB (n:Int):Bool:=decide (0≤n) && decide (n≤200)
def noQB (c:Chg):Bool:=decide (c.query.size=0) && decide (c.page=0)
def noRowsB (c:Chg):Bool:=decide (c.rows.length=0)
def noNB (c:Chg):Bool:=decide (c.n=0)
def kindB (c:Chg):Bool :=
 if c.kind=1 then (textB c.query && pageB c.page) && (noRowsB c && noNB c)
 else if c.kind=2 then rowsB c.rows 200 && (noQB c && noNB c)
 else if c.kind=4 then cursorB c.n && (noQB c && noRowsB c)
 else if c.kind=3∨c.kind=5∨c.kind=6 then noQB c && (noRowsB c && noNB c)
 else false
def chgB (c:Chg):Bool:=(clientB c.client && tagB c.tag) && kindB c
def chgMore (c:Chg):List (List UInt8) :=
 if c.kind=1 then [c.query.data.toList,Lib.decDigits c.page.toNat]
 else if c.kind=2 then c.rows.map (·.data.toList)
 else if c.kind=4 then [Lib.decDigits c.n.toNat]
 else []
def chgParts (c:Chg):List (List UInt8):=Lib.decDigits c.kind.toNat :: Lib.decDigits c.client.toNat :: c.tag.data.toList :: chgMore c
def encL (c:Chg):List UInt8:=Lib.join (chgParts c) [10]
def encB (c:Chg):ByteArray:=if chgB c then ⟨(encL c).toArray⟩ else ⟨#[]⟩
def tailNL (ps:List (List UInt8)):List UInt8:=Lib.joinTail [10] ps
theorem encL_eq (c:Chg):encL c=Lib.decDigits c.kind.toNat++(10 :: Lib.decDigits c.client.toNat)++(10 :: c.tag.data.toList)++tailNL (chgMore c):=by
 unfold encL chgParts tailNL
 rw[Lib.join_cons]
 simp[Lib.joinTail]
theorem chgB_kind {c:Chg} (h:chgB c=true):1≤c.kind∧c.kind≤6:=by
 unfold chgB at h
 rw[Bool.and_eq_true] at h
 have h:=h.2
 unfold kindB at h
 split at h
 ·omega
 split at h
 ·omega
 split at h
 ·omega
 split at h
 ·omega
 ·cases h
theorem chgB_client {c:Chg} (h:chgB c=true):0≤c.client∧c.client<4:=by
 unfold chgB at h
 rw[Bool.and_eq_true,Bool.and_eq_true] at h
 have:=h.1.1
 simpa [clientB] using this
theorem chgB_tag {c:Chg} (h:chgB c=true):tagB c.tag=true:=by
 unfold chgB at h
 rw[Bool.and_eq_true,Bool.and_eq_true] at h
 exact h.1.2
theorem textB_size {s:ByteArray} (h:textB s=true):s.size≤200:=by
 unfold textB boundB at h
 simp at h
 omega
theorem tagB_size {s:ByteArray} (h:tagB s=true):s.size≤16:=by
 unfold tagB boundB at h
 simp at h
 omega
theorem rowsB_size {rows:List ByteArray} {m:Nat} (h:rowsB rows m=true):rows.length≤m∧∀r∈rows,r.size≤200:=by
 unfold rowsB at h
 simp at h
 exact⟨h.1,fun r hr=>textB_size (h.2 r hr)⟩
theorem chgB_cases {c:Chg} (h:chgB c=true) :
  (c.kind=1∧c.query.size≤200∧1≤c.page∧c.page≤50∧c.rows=[]∧c.n=0) ∨
  (c.kind=2∧c.query.size=0∧c.page=0∧c.rows.length≤200∧(∀r∈c.rows,r.size≤200)∧c.n=0) ∨
  (c.kind=4∧c.query.size=0∧c.page=0∧c.rows=[]∧0≤c.n∧c.n≤200) ∨
  ((c.kind=3∨c.kind=5∨c.kind=6)∧c.query.size=0∧c.page=0∧c.rows=[]∧c.n=0):=by
 unfold chgB at h
 rw[Bool.and_eq_true] at h
 have h:=h.2
 unfold kindB at h
 split at h
 ·simp only[Bool.and_eq_true,pageB,noRowsB,noNB,decide_eq_true_eq] at h
  exact .inl ⟨by assumption,textB_size h.1.1,h.1.2.1,h.1.2.2,List.length_eq_zero_iff.1 h.2.1,h.2.2⟩
 split at h
 ·simp only[Bool.and_eq_true,noQB,noNB,decide_eq_true_eq] at h
  exact .inr (.inl ⟨by assumption,h.2.1.1,h.2.1.2,(rowsB_size h.1).1,(rowsB_size h.1).2,h.2.2⟩)
 split at h
 ·simp only[Bool.and_eq_true,cursorB,noQB,noRowsB,decide_eq_true_eq] at h
  exact .inr (.inr (.inl ⟨by assumption,h.2.1.1,h.2.1.2,List.length_eq_zero_iff.1 h.2.2,h.1.1,h.1.2⟩))
 split at h
 ·simp only[Bool.and_eq_true,noQB,noRowsB,noNB,decide_eq_true_eq] at h
  exact .inr (.inr (.inr ⟨by assumption,h.1.1,h.1.2,List.length_eq_zero_iff.1 h.2.1,h.2.2⟩))
 ·cases h
set_option maxHeartbeats 400000 in
theorem l5Client_any (n:Int) (w:World) :
  Calls Tryz.prog 50 #[.int .i64 n] w fun e w'=>e=.returned (.bool (clientB n))∧w'=w:=by
 by_cases h1:(0:Int)≤n
 ·by_cases h2:n<4
  ·have HX:Hid (clientB n=true):=by unfold clientB;rw[decide_eq_true h1,decide_eq_true h2];exact rfl
   go_enter Tryz.func50,Tryz.ntmps50
   go_wp2_with fail
   go_ret
   exact⟨ret_bool HX.out.symm,rfl⟩
  ·have HX:Hid (clientB n=false):=by unfold clientB;rw[decide_eq_true h1,decide_eq_false h2];exact rfl
   go_enter Tryz.func50,Tryz.ntmps50
   go_wp2_with fail
   go_ret
   exact⟨ret_bool HX.out.symm,rfl⟩
 ·have HX:Hid (clientB n=false):=by unfold clientB;rw[decide_eq_false h1];exact rfl
  go_enter Tryz.func50,Tryz.ntmps50
  go_wp2_with fail
  go_ret
  exact⟨ret_bool HX.out.symm,rfl⟩
set_option maxHeartbeats 1000000 in
theorem rowsOk_any (rows:List ByteArray) (v:Value) (w:World) {lo:Nat} (hv:StrsAt lo w v rows) :
  Calls Tryz.prog 53 #[v] w fun e w'=>e=.returned (.bool (rowsB rows 200))∧w'=w:=by
 have hl:=hv.1
 obtain⟨a,cap,hf,hc⟩:=hv.form
 subst hf
 have HC:=hide hc
 clear hc hv
 by_cases hlen:(200:Int)<(rows.length:Int)
 ·have HX:Hid (rowsB rows 200=false):=by unfold rowsB;rw[decide_eq_false (p:=rows.length≤200) (by omega)];exact rfl
  go_enter Tryz.func53,Tryz.ntmps53
  go_wp2_with fail
  go_ret
  exact⟨ret_bool HX.out.symm,rfl⟩
 have HX:Hid (rowsB rows 200=rows.all textB):=by unfold rowsB;rw[decide_eq_true (p:=rows.length≤200) (by omega)];exact rfl
 go_enter Tryz.func53,Tryz.ntmps53
 go_wp2_with fail
 go_loopg [3] rows.length (fun q i wr=>∃k:Nat,k≤rows.length∧q=rows.length - k∧i=.int .i64 (k:Int)∧(rows.take k).all textB=true∧wr=w)
 case atStart=>exact⟨0,zrL _,rfl,rfl,rfl,rfl⟩
 case round =>
  obtain⟨k,hk,rfl,rfl,hall,rfl⟩:=hrel
  have HA:=hide hall
  clear hall
  by_cases hlt:k<rows.length
  ·have hki:(k:Int)<(rows.length:Int):=by omega
   obtain⟨b,off,rfl,_,hbl,hcell,hsz⟩:=HC.out k hlt
   rw[Nat.mul_one] at hcell
   obtain⟨x,hx⟩:∃x,rows[k]=x:=⟨_,rfl⟩
   rw[hx] at hcell hsz
   have HR:=hide (fun W=>textSpec_any x W hsz)
   cases hxb:textB x
   ·rw[hxb] at HR
    have HN:Hid (rows.all textB=false):=by
     show _=_
     rw[List.all_eq_false]
     exact⟨rows[k],List.getElem_mem _,by rw[hx,hxb];decide⟩
    clear hx
    go_wp2_with (first|(go_at_call 52;refine(HR.out _).mono ?_;rintro e w2 ⟨rfl,rfl⟩))
    go_ret
    exact⟨ret_bool (by rw[HX.out,HN.out]),rfl⟩
   ·rw[hxb] at HR
    have HN:Hid ((rows.take (k+1)).all textB=true):=by
     show _=_
     rw[List.take_succ_eq_append_getElem hlt,List.all_append,HA.out,hx]
     simp[hxb]
    clear hx
    go_wp2_with (first|(go_at_call 52;refine(HR.out _).mono ?_;rintro e w2 ⟨rfl,rfl⟩))
    go_roundg (rows.length - (k+1))
    case measure=>omega
    case rel=>exact⟨k+1,by omega,rfl,by go_num,HN.out,rfl⟩
  ·obtain rfl:k=rows.length:=by omega
   have hki:¬(rows.length:Int)<(rows.length:Int):=by omega
   have HN:Hid (rows.all textB=true):=by have:=HA.out;rw[List.take_length] at this;exact this
   go_wp2_with fail
   go_ret
   exact⟨ret_bool (by rw[HX.out,HN.out]),rfl⟩
set_option maxHeartbeats 400000 in
theorem isClient_any (n:Int) (w:World) :
  Calls Tryz.prog 63 #[.int .i64 n] w fun e w'=>e=.returned (.bool (clientB n))∧w'=w:=by
 by_cases h1:(0:Int)≤n
 ·by_cases h2:n<4
  ·have HX:Hid (clientB n=true):=by unfold clientB;rw[decide_eq_true h1,decide_eq_true h2];exact rfl
   go_enter Tryz.func63,Tryz.ntmps63
   go_wp2_with fail
   go_ret
   exact⟨ret_bool HX.out.symm,rfl⟩
  ·have HX:Hid (clientB n=false):=by unfold clientB;rw[decide_eq_true h1,decide_eq_false h2];exact rfl
   go_enter Tryz.func63,Tryz.ntmps63
   go_wp2_with fail
   go_ret
   exact⟨ret_bool HX.out.symm,rfl⟩
 ·have HX:Hid (clientB n=false):=by unfold clientB;rw[decide_eq_false h1];exact rfl
  go_enter Tryz.func63,Tryz.ntmps63
  go_wp2_with fail
  go_ret
  exact⟨ret_bool HX.out.symm,rfl⟩
structure Req where
 kind:Int
 control:ByteArray
 tag:ByteArray
 query:ByteArray
 page:Int
 pointer:ByteArray
end Go.Proofs.YtglcdcekkglmiaaGreatDoor.Msg
