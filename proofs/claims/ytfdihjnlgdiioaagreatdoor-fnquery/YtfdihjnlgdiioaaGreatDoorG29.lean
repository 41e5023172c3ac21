import Derived.Test.YtfdihjnlgdiioaaGreatDoorG27
import Derived.Test.YtfdihjnlgdiioaaGreatDoorG25
import Derived.Shelf.Abstract
import Derived.BigQuiet
import Derived.Test.YtfdihjnlgdiioaaGreatDoorG28
import Derived.Test.YtfdihjnlgdiioaaGreatDoorG18
namespace Go.Proofs.YtfdihjnlgdiioaaGreatDoor.dB
open Go.ChangeShapes Go.WideShapes Go.ChangeAt Go.RowKit Go.Shelf
set_option linter.unusedVariables false
set_option linter.unusedSimpArgs false
def cK (r:pK):List Seg :=
 if r.kind=1 then (if r.pointer.toList=[] then (match newL r.control r.tag r.query r.page with|none=>mg r.control r.tag r.query (bR r.page.toNat)|some _=>[]) else [])
 else if r.kind=2 then (if r.page=0 then (match gJ r.control r.tag r.query r.pointer with|none=>iC r.control r.tag r.query r.pointer|some _=>[]) else [])
 else if r.kind=3 then (if r.query.toList=[]∧r.page=0∧r.pointer.toList=[] then (if aL r.control && fH r.tag then fI r.control r.tag else []) else [])
 else []
theorem ltC (a b:Value) (w:World):(Go.method 350 100 (.agg #[a,b]) "loop.example/s01639/impl.lacks").run Tryz.prog w=.ok (201,.agg #[a,b]) w:=by kernel_rfl
theorem wtC (a b:Value) (w:World):(Go.method 350 100 (.agg #[a,b]) "loop.example/s01639/impl.write").run Tryz.prog w=.ok (203,.agg #[a,b]) w:=by kernel_rfl
theorem ltX (a b c d:Value) (w:World):(Go.method 350 98 (.agg #[a,b,c,d]) "loop.example/s01639/impl.lacks").run Tryz.prog w=.ok (198,.agg #[a,b,c,d]) w:=by kernel_rfl
theorem wtX (a b c d:Value) (w:World):(Go.method 350 98 (.agg #[a,b,c,d]) "loop.example/s01639/impl.write").run Tryz.prog w=.ok (200,.agg #[a,b,c,d]) w:=by kernel_rfl
theorem ltN (a b c d:Value) (w:World):(Go.method 350 96 (.agg #[a,b,c,d]) "loop.example/s01639/impl.lacks").run Tryz.prog w=.ok (190,.agg #[a,b,c,d]) w:=by kernel_rfl
theorem wtN (a b c d:Value) (w:World):(Go.method 350 96 (.agg #[a,b,c,d]) "loop.example/s01639/impl.write").run Tryz.prog w=.ok (192,.agg #[a,b,c,d]) w:=by kernel_rfl
theorem abZ:∀args w,(callFunc 201 args).run Tryz.prog w=.ok (.enter 201 args) w:=enters_of Tryz.func201 (by kernel_rfl) rfl
theorem aeU:∀args w,(callFunc 203 args).run Tryz.prog w=.ok (.enter 203 args) w:=enters_of Tryz.func203 (by kernel_rfl) rfl
theorem ab0:∀args w,(callFunc 198 args).run Tryz.prog w=.ok (.enter 198 args) w:=enters_of Tryz.func198 (by kernel_rfl) rfl
theorem aeV:∀args w,(callFunc 200 args).run Tryz.prog w=.ok (.enter 200 args) w:=enters_of Tryz.func200 (by kernel_rfl) rfl
theorem ab1:∀args w,(callFunc 190 args).run Tryz.prog w=.ok (.enter 190 args) w:=enters_of Tryz.func190 (by kernel_rfl) rfl
theorem aeW:∀args w,(callFunc 192 args).run Tryz.prog w=.ok (.enter 192 args) w:=enters_of Tryz.func192 (by kernel_rfl) rfl
set_option maxRecDepth 100000 in
set_option maxHeartbeats 2000000 in
theorem Gr (kind page:Int) (control tag query pointer:ByteArray) (w:World) (h1:kind≠1) (h2:kind≠2) (h3:kind≠3) :
  Calls Tryz.prog 5 #[bY ⟨kind,control,tag,query,page,pointer⟩] w (fA w []):=by
 have HR:Hid (∀W,Calls Tryz.prog 21 #[.agg #[.int .i64 kind,.string control,.string tag,.string query,.int .i64 page,.string pointer]] W fun e w'=>e=.returned .nilIface∧Below W.heap.size W w'):=fun W=>(iI ⟨kind,control,tag,query,page,pointer⟩ W).mono fun e w' ⟨h,hb⟩=>⟨by rw[h];unfold ng;rw[if_neg h1,if_neg h2,if_neg h3],hb⟩
 show Calls Tryz.prog 5 #[.agg #[.int .i64 kind,.string control,.string tag,.string query,.int .i64 page,.string pointer]] w _
 obtain⟨x1,hx1⟩:∃x1,w.alloc (Obj.cells #[.int .i64 kind,.string control,.string tag,.string query,.int .i64 page,.string pointer] 24)=x1:=⟨_,rfl⟩
 obtain⟨w1,hw1⟩:∃w1,x1.alloc (Obj.cells #[.slice none 0 0] 28)=w1:=⟨_,rfl⟩
 have bN:x1.heap.size=w.heap.size+1:=by rw[←hx1];simp
 have bx1:Below w.heap.size w x1:=by rw[←hx1];exact aO _ _
 have dV:Below x1.heap.size x1 w1:=by rw[←hw1];exact aO _ _
 have dG:w1.heap.size=w.heap.size+1+1:=by rw[←hw1];simp[bN]
 have cr:w1.cell? ⟨w.heap.size+1,0,none⟩=some (.slice none 0 0):=by rw[←hw1,←bN];simp
 have fr:w1.frozen? ⟨w.heap.size+1,0,none⟩=false:=by rw[←hw1,←bN];simp
 have HB1:=hide (aJ dV bx1)
 have HW1:Hid ((w.alloc (Obj.cells #[.int .i64 kind,.string control,.string tag,.string query,.int .i64 page,.string pointer] 24)).alloc (Obj.cells #[.slice none 0 0] 28)=w1):=by rw[hx1];exact hw1
 have c0:∀i,w1.cell? ⟨w.heap.size,i,none⟩=x1.cell? ⟨w.heap.size,i,none⟩:=fun i=>dV.cell (p:=⟨w.heap.size,i,none⟩) (by rw[bN];simp)
 have hlr:w.heap.size+1<w1.heap.size:=by omega
 clear hx1 hw1 bN bx1 dV dG h1 h2 h3
 go_enter Tryz.func5,Tryz.ntmps5
 go_wp2_with fail
 rw[HW1.out]
 refine(HR.out _).mono ?_
 rintro e w2 ⟨rfl,hb2⟩
 have r0:w2.cell? ⟨w.heap.size+1,0,none⟩=some (.slice none 0 0):=(hb2.cell (p:=⟨w.heap.size+1,0,none⟩) hlr).trans cr
 have rf:w2.frozen? ⟨w.heap.size+1,0,none⟩=false:=(hb2.frozen (p:=⟨w.heap.size+1,0,none⟩) hlr).trans fr
 have rl:w.heap.size+1<w2.heap.size:=by have:=hb2.size;omega
 have jH:Hid (∀k x,Below w.heap.size w ((w2.drewN k).setCell ⟨w.heap.size+1,0,none⟩ x)):=fun k x=>(below_drewN (aj hb2 HB1.out) k).setCell (p:=⟨w.heap.size+1,0,none⟩) (Nat.le_succ _) x
 clear hb2
 go_wp2_with fail
 go_quiet (fail)
 go_wp2_with fail
 exact bodyPost_ret (v:=.agg #[.slice none 0 0]) (by simp[results,Tryz.results5,go_sem,r0,rl]) rfl (jg _ _ _ _ (jH.out _ _))
theorem zf (u:Nat) (h:u<100):dI (bR u)=true∧(bR u).size≤20:=by
 obtain⟨_,h2,_⟩:=rJ u
 have h3:=AP 1 u (by omega)
 refine⟨?_,?_⟩
 ·unfold dI bR
  rw[List.all_eq_true]
  intro c hc
  have:=List.all_eq_true.1 h2 c (by simpa using hc)
  simp only[dU,Bool.and_eq_true,decide_eq_true_eq] at this
  simp only[bZ,Bool.and_eq_true,decide_eq_true_eq]
  omega
 ·show (Lib.decDigits u).toArray.size≤20
  simp
  omega
set_option maxHeartbeats 1000000 in
theorem zh (r:pK) (w:World) (hc:r.control.size≤1048576) (ht:r.tag.size≤1048576) (hq:r.query.size≤1048576) (hp:r.pointer.size≤1048576)
  (hI:∀u:Nat,u<100→∀W,Calls Tryz.prog 100 #[.int .i64 (u:Int)] W fun e w'=>e=.returned (.string (bR u))∧w'=W) :
  Calls Tryz.prog 5 #[bY r] w (fA w (cK r)):=by
 obtain⟨kind,control,tag,query,page,pointer⟩:=r
 simp only at hc ht hq hp
 by_cases k1:kind=1
 ·subst k1
  by_cases hz:pointer.toList=[]
  ·have e:cK ⟨1,control,tag,query,page,pointer⟩=match newL control tag query page with|none=>mg control tag query (bR page.toNat)|some _=>[]:=by simp[cK,hz]
   rw[e]
   cases hl:newL control tag query page with
   | some c=>exact vW control tag query pointer page [] w hz fun W=>o9 _ _ _ c W (ltN _ _ _ _) (fun W=>(rQ control tag query page W (by omega) (by omega) (by omega)).mono fun e w' ⟨h,hb⟩=>⟨by rw[h,hl];rfl,hb⟩) ab1
   | none =>
    have hok:(aL control=true∧fH tag=true)∧aW query=true∧1≤page∧page≤50:=by
     unfold newL at hl
     split at hl
     ·rename_i h1
      split at hl
      ·rename_i h2
       simp only[Bool.and_eq_true,decide_eq_true_eq] at h1 h2
       exact⟨h1,h2⟩
      ·cases hl
     ·cases hl
    obtain⟨u,rfl⟩:=Int.eq_ofNat_of_zero_le (show 0≤page by omega)
    have hu:u<100:=by omega
    obtain⟨d1,d2⟩:=zf u hu
    have hB:=M9 control tag query (bR u) hok.1.1 hok.1.2 hok.2.1 d1 d2
    exact vW control tag query pointer u _ w hz fun W=>nT _ _ _ _ _ W (ltN _ _ _ _) (wtN _ _ _ _) (fun W=>(rQ control tag query u W (by omega) (by omega) (by omega)).mono fun e w' ⟨h,hb⟩=>⟨by rw[h,hl];rfl,hb⟩) (fun W=>F8 control tag query (bR u) u W hc ht hq (by omega) (hI u hu)) hB.1 hB.2 ab1 aeW
  ·have e:cK ⟨1,control,tag,query,page,pointer⟩=[]:=by simp[cK,hz]
   rw[e]
   exact Gp control tag query pointer page w hz
 by_cases k2:kind=2
 ·subst k2
  by_cases hz:page=0
  ·have e:cK ⟨2,control,tag,query,page,pointer⟩=match gJ control tag query pointer with|none=>iC control tag query pointer|some _=>[]:=by simp[cK,hz]
   rw[e]
   cases hl:gJ control tag query pointer with
   | some c=>exact vV control tag query pointer page [] w hz fun W=>o9 _ _ _ c W (ltX _ _ _ _) (fun W=>(qo control tag query pointer W (by omega) (by omega) (by omega) (by omega)).mono fun e w' ⟨h,hb⟩=>⟨by rw[h,hl];rfl,hb⟩) ab0
   | none =>
    have hok:(aL control=true∧fH tag=true)∧aW query=true∧aW pointer=true∧0<pointer.size:=by
     unfold gJ at hl
     split at hl
     ·rename_i h1
      split at hl
      ·rename_i h2
       simp only[Bool.and_eq_true,decide_eq_true_eq] at h1 h2
       exact⟨h1,h2⟩
      ·cases hl
     ·cases hl
    have hB:=Jr control tag query pointer hok.1.1 hok.1.2 hok.2.1 hok.2.2.1
    exact vV control tag query pointer page _ w hz fun W=>nT _ _ _ _ _ W (ltX _ _ _ _) (wtX _ _ _ _) (fun W=>(qo control tag query pointer W (by omega) (by omega) (by omega) (by omega)).mono fun e w' ⟨h,hb⟩=>⟨by rw[h,hl];rfl,hb⟩) (fun W=>Ec control tag query pointer W hc ht hq hp) hB.1 hB.2 ab0 aeV
  ·have e:cK ⟨2,control,tag,query,page,pointer⟩=[]:=by simp[cK,hz]
   rw[e]
   exact Gn control tag query pointer page w hz
 by_cases k3:kind=3
 ·subst k3
  by_cases hz:query.toList=[]∧page=0∧pointer.toList=[]
  ·have e:cK ⟨3,control,tag,query,page,pointer⟩=if aL control && fH tag then fI control tag else []:=by
    show (if (3:Int)=1 then _ else _)=_
    rw[if_neg (by decide)]
    show (if (3:Int)=2 then _ else _)=_
    rw[if_neg (by decide)]
    show (if (3:Int)=3 then _ else _)=_
    rw[if_pos rfl]
    exact if_pos hz
   rw[e]
   cases hl:(aL control && fH tag)
   ·exact vU control tag query pointer page [] w hz.1 hz.2.1 hz.2.2 fun W=>o9 _ _ _ 101 W (ltC _ _) (fun W=>(nR control tag W (by omega) (by omega)).mono fun e w' ⟨h,hb⟩=>⟨by rw[h,hl];rfl,hb⟩) abZ
   ·have hl':=hl
    rw[Bool.and_eq_true] at hl'
    have hB:=CJ control tag hl'.1 hl'.2
    exact vU control tag query pointer page _ w hz.1 hz.2.1 hz.2.2 fun W=>nT _ _ _ _ _ W (ltC _ _) (wtC _ _) (fun W=>(nR control tag W (by omega) (by omega)).mono fun e w' ⟨h,hb⟩=>⟨by rw[h,hl];rfl,hb⟩) (fun W=>Ao control tag W hc ht) hB.1 hB.2 abZ aeU
  ·have e:cK ⟨3,control,tag,query,page,pointer⟩=[]:=by
    show (if (3:Int)=1 then _ else _)=_
    rw[if_neg (by decide)]
    show (if (3:Int)=2 then _ else _)=_
    rw[if_neg (by decide)]
    show (if (3:Int)=3 then _ else _)=_
    rw[if_pos rfl]
    exact if_neg hz
   rw[e]
   exact Gj control tag query pointer page w hz
 ·have e:cK ⟨kind,control,tag,query,page,pointer⟩=[]:=by simp[cK,k1,k2,k3]
  rw[e]
  exact Gr kind page control tag query pointer w k1 k2 k3
end Go.Proofs.YtfdihjnlgdiioaaGreatDoor.dB
namespace Go.Proofs.YtfdihjnlgdiioaaGreatDoor.dB
open Go.ChangeShapes Go.WideShapes Go.ChangeAt Go.RowKit
set_option linter.unusedVariables false
set_option linter.unusedSimpArgs false
def pE (w:World) (xs:List Seg) (e:Ending) (w':World):Prop:=∃u,e=.returned (.agg #[u])∧aX w.heap.size w' u xs∧Below w.heap.size w w'
theorem uD {base lo:Nat} {w:World} {v:Value} (xs:List Seg) (us:List Value) (hl:us.length=xs.length) (hrow:w.ownsRow base 54 2 v xs.length (dw xs us)) (hlo:lo≤base) (hn:∀x∈xs,x.name.size≤9223372036854775807) (hx:xs.length≤9223372036854775807)
  (hel:∀i (h:i<xs.length) (h':i<us.length),aG lo w us[i] xs[i].fields):aX lo w v xs:=by
 obtain⟨hlen,⟨rfl,h0⟩|⟨g,cap,cur,rfl,hg,hs,hcap,hm,hsz,htk⟩⟩:=hrow
 ·have:xs=[]:=List.length_eq_zero_iff.1 h0
  subst this
  exact⟨by simp,.inl ⟨_,_,rfl,rfl⟩⟩
 ·have Qg:g<w.heap.size:=by rw[Array.getElem?_eq_some_iff] at hs;exact hs.1
  have hcell:∀j (u:Value),j<xs.length * 2→(dw xs us)[j]?=some u→w.cell? ⟨g,j,none⟩=some u:=by
   intro j u hj hu
   rw[←htk,List.getElem?_take,if_pos hj] at hu
   simp only[World.cell?,hs]
   rw[←Array.getElem?_toList]
   exact hu
  refine⟨hx,.inr ⟨g,0,cap,rfl,⟨by omega,Qg⟩,fun i hi=>?_⟩⟩
  obtain⟨c1,c2⟩:=pY xs us i hl hi
  exact⟨by have:=hcell _ _ (by omega) c1;simpa using this,hn _ (List.getElem_mem hi),us[i]'(by omega),by have:=hcell _ _ (by omega) c2;simpa using this,hel i hi (by omega)⟩
theorem gN {lo:Nat} {w:World} {v:Value} {xs:List Field} (h:aG lo w v xs):∃a c,v=.slice a xs.length c:=by
 obtain⟨a,c,e,_⟩:=h.form
 exact⟨a,c,e⟩
theorem uE (w:World) (s:ByteArray) (hs:s.size≤1048576):bq 0 (w.alloc (Obj.cells #[.string s] 9)) (.slice (some ⟨w.heap.size,0,none⟩) 1 1) [s] :=
 xX w [s] (by intro x hx;simp at hx;subst hx;omega) (by simp)
theorem one_le {s:ByteArray}:[s].length≤1000:=by simp
theorem CV {s:ByteArray} (h:s.size≤1048576):∀t∈[s],t.size≤1048576:=fun t ht=>by rw[List.mem_singleton.1 ht];exact h
theorem gP {lo lo':Nat} {w:World} {v:Value} {xs:List Field} (h:aG lo w v xs) (hl:lo'≤lo):aG lo' w v xs:=At.mono wB h hl
theorem vk {lo:Nat} {w w':World} {v:Value} {xs:List ByteArray} (h:bq lo w v xs) (hb:Below w.heap.size w w'):bq lo w' v xs:=At.kept bE h hb
theorem CW {w W X:World} {v x:Value} {xs:List Seg} (hr:w.heap.size+1<W.heap.size) (h:aX W.heap.size X v xs):aX w.heap.size (X.setCell ⟨w.heap.size+1,0,none⟩ x) v xs :=
 At.mono qy (At.same bA h ⟨by rw[Deep.nblk_setCell];exact aS _,fun b h1 h2=>Deep.blk_setCell_other _ ⟨w.heap.size+1,0,none⟩ _ b (by dsimp only;omega)⟩) (by omega)
theorem AY (lo:Nat) (w:World) (x y:Seg) (a b:Value) (hlo:lo≤w.heap.size):(w.alloc (Obj.cells #[.string x.name,a,.string y.name,b] 54)).ownsRow lo 54 2 (.slice (some ⟨w.heap.size,0,none⟩) 2 2) 2 (dw [x,y] [a,b]) :=
 World.ownsRow_lit (base:=lo) (e:=54) (size:=2) w #[.string x.name,a,.string y.name,b] 2 hlo (by unfold maxLen;omega) rfl
theorem Sr (lo:Nat) (w:World) (x y:Seg) {a b:Value} (hlo:lo≤w.heap.size) (ha:aG lo w a x.fields) (hb:aG lo w b y.fields) (hx:x.name.size≤9223372036854775807) (hy:y.name.size≤9223372036854775807) :
  aX lo (w.alloc (Obj.cells #[.string x.name,a,.string y.name,b] 54)) (.slice (some ⟨w.heap.size,0,none⟩) 2 2) [x,y]:=by
 have q:Below w.heap.size w (w.alloc (Obj.cells #[.string x.name,a,.string y.name,b] 54)):=aO _ _
 refine uD [x,y] [a,b] rfl (AY lo w x y a b hlo) (aS _) ?_ (by simp) ?_
 ·intro z hz
  simp only[List.mem_cons,List.not_mem_nil,or_false] at hz
  rcases hz with rfl|rfl <;> assumption
 ·intro i h h'
  match i,h with
  | 0,_=>exact At.kept aP ha q
  | 1,_=>exact At.kept aP hb q
theorem gY (ts:List ByteArray) {base:Nat} {w:World} {v:Value} (h:jS bP (fun d=>base≤d) 57 base w v (trimF (ts.map ah))) (hl:ts.length≤1000):aG base w v (ay List.isEmpty (ts.map ah)):=by
 rw[zW] at h
 exact jS.fields h (fun b h=>h) (by unfold ay;rw[List.length_take,List.length_map];omega)
set_option maxRecDepth 100000 in
set_option maxHeartbeats 2000000 in
theorem LK (r:pK) (w:World) (h1:r.control.size≤1048576) (h2:r.tag.size≤1048576) (h3:r.query.size≤1048576) (h4:r.pointer.size≤1048576) (hok:nM r=false) :
  Calls Tryz.prog 7 #[bY r] w (pE w []):=by
 obtain⟨kind,control,tag,query,page,pointer⟩:=r
 simp only at h1 h2 h3 h4
 unfold bY
 obtain⟨x1,hx1⟩:∃x1,w.alloc (Obj.cells #[.int .i64 kind,.string control,.string tag,.string query,.int .i64 page,.string pointer] 24)=x1:=⟨_,rfl⟩
 obtain⟨w1,hw1⟩:∃w1,x1.alloc (Obj.cells #[.slice none 0 0] 28)=w1:=⟨_,rfl⟩
 have bN:x1.heap.size=w.heap.size+1:=by rw[←hx1];simp
 have dG:w1.heap.size=w.heap.size+1+1:=by rw[←hw1];simp[bN]
 have bx1:Below w.heap.size w x1:=by rw[←hx1];exact aO _ _
 have dV:Below x1.heap.size x1 w1:=by rw[←hw1];exact aO _ _
 have HC:Hid (w1.cell? ⟨w.heap.size,0,none⟩=some (.int .i64 kind)∧w1.cell? ⟨w.heap.size,1,none⟩=some (.string control)∧w1.cell? ⟨w.heap.size,2,none⟩=some (.string tag)∧w1.cell? ⟨w.heap.size,3,none⟩=some (.string query)∧w1.cell? ⟨w.heap.size,4,none⟩=some (.int .i64 page)∧w1.cell? ⟨w.heap.size,5,none⟩=some (.string pointer)):=by
  refine⟨?_,?_,?_,?_,?_,?_⟩ <;> exact(dV.cell (by rw[bN];simp)).trans (by rw[←hx1];simp)
 obtain⟨k0,k1,k2,k3,k4,k5⟩:=HC.out
 have c2:w1.cell? ⟨w.heap.size+1,0,none⟩=some (.slice none 0 0):=by rw[←hw1,←bN];simp
 have f2:w1.frozen? ⟨w.heap.size+1,0,none⟩=false:=by rw[←hw1,←bN];simp
 have HB1:=hide (aJ dV bx1)
 go_enter Tryz.func7,Tryz.ntmps7
 go_wp2_with fail
 refine(xR ⟨kind,control,tag,query,page,pointer⟩ _ (by simp only;omega) (by simp only;omega) (by simp only;omega) (by simp only;omega)).mono ?_
 rintro e W ⟨rfl,hb⟩
 rw[hok]
 have r0:W.cell? ⟨w.heap.size+1,0,none⟩=some (.slice none 0 0):=(hb.cell (p:=⟨w.heap.size+1,0,none⟩) (by rw[dG];simp)).trans c2
 have rf:W.frozen? ⟨w.heap.size+1,0,none⟩=false:=(hb.frozen (p:=⟨w.heap.size+1,0,none⟩) (by rw[dG];simp)).trans f2
 have rl:w.heap.size+1<W.heap.size:=by have:=hb.size;omega
 go_wp2_with fail
 refine bodyPost_ret (v:=.agg #[.slice none 0 0]) (by simp[results,Tryz.results7,go_sem,r0,rl]) rfl ⟨_,rfl,⟨by simp,.inl ⟨_,_,rfl,rfl⟩⟩,(aJ hb HB1.out).setCell (by simp) _⟩
set_option maxRecDepth 100000 in
set_option maxHeartbeats 4000000 in
theorem Ej (control tag query pointer:ByteArray) (page:Int) (w:World) (h1:control.size≤1048576) (h2:tag.size≤1048576) (h3:query.size≤1048576) (h4:pointer.size≤1048576) (hok:nM ⟨3,control,tag,query,page,pointer⟩=true) :
  Calls Tryz.prog 7 #[bY ⟨3,control,tag,query,page,pointer⟩] w (pE w (fI control tag)):=by
 unfold bY
 obtain⟨x1,hx1⟩:∃x1,w.alloc (Obj.cells #[.int .i64 3,.string control,.string tag,.string query,.int .i64 page,.string pointer] 24)=x1:=⟨_,rfl⟩
 obtain⟨w1,hw1⟩:∃w1,x1.alloc (Obj.cells #[.slice none 0 0] 28)=w1:=⟨_,rfl⟩
 have bN:x1.heap.size=w.heap.size+1:=by rw[←hx1];simp
 have dG:w1.heap.size=w.heap.size+1+1:=by rw[←hw1];simp[bN]
 have bx1:Below w.heap.size w x1:=by rw[←hx1];exact aO _ _
 have dV:Below x1.heap.size x1 w1:=by rw[←hw1];exact aO _ _
 have HC:Hid (w1.cell? ⟨w.heap.size,0,none⟩=some (.int .i64 3)∧w1.cell? ⟨w.heap.size,1,none⟩=some (.string control)∧w1.cell? ⟨w.heap.size,2,none⟩=some (.string tag)∧w1.cell? ⟨w.heap.size,3,none⟩=some (.string query)∧w1.cell? ⟨w.heap.size,4,none⟩=some (.int .i64 page)∧w1.cell? ⟨w.heap.size,5,none⟩=some (.string pointer)):=by
  refine⟨?_,?_,?_,?_,?_,?_⟩ <;> exact(dV.cell (by rw[bN];simp)).trans (by rw[←hx1];simp)
 obtain⟨k0,k1,k2,k3,k4,k5⟩:=HC.out
 have c2:w1.cell? ⟨w.heap.size+1,0,none⟩=some (.slice none 0 0):=by rw[←hw1,←bN];simp
 have f2:w1.frozen? ⟨w.heap.size+1,0,none⟩=false:=by rw[←hw1,←bN];simp
 have HB1:=hide (aJ dV bx1)
 go_enter Tryz.func7,Tryz.ntmps7
 go_wp2_with fail
 refine(xR ⟨3,control,tag,query,page,pointer⟩ _ (by simp only;omega) (by simp only;omega) (by simp only;omega) (by simp only;omega)).mono ?_
 rintro e W ⟨rfl,hb⟩
 rw[hok]
 have g0:W.cell? ⟨w.heap.size,0,none⟩=some (.int .i64 3):=(hb.cell (p:=⟨w.heap.size,0,none⟩) (by rw[dG];simp;omega)).trans k0
 have r0:W.cell? ⟨w.heap.size+1,0,none⟩=some (.slice none 0 0):=(hb.cell (p:=⟨w.heap.size+1,0,none⟩) (by rw[dG];simp)).trans c2
 have rf:W.frozen? ⟨w.heap.size+1,0,none⟩=false:=(hb.frozen (p:=⟨w.heap.size+1,0,none⟩) (by rw[dG];simp)).trans f2
 have rl:w.heap.size+1<W.heap.size:=by have:=hb.size;omega
 have KEEP:Hid (∀X,Below W.heap.size W X→X.cell? ⟨w.heap.size,1,none⟩=some (.string control)∧X.cell? ⟨w.heap.size,2,none⟩=some (.string tag)∧Below w.heap.size w X):=fun X h =>
  ⟨(h.cell (p:=⟨w.heap.size,1,none⟩) (by dsimp only;omega)).trans ((hb.cell (p:=⟨w.heap.size,1,none⟩) (by rw[dG];simp;omega)).trans k1),(h.cell (p:=⟨w.heap.size,2,none⟩) (by dsimp only;omega)).trans ((hb.cell (p:=⟨w.heap.size,2,none⟩) (by rw[dG];simp;omega)).trans k2),aJ h (aJ hb HB1.out)⟩
 have jL:Hid (∀X,Below W.heap.size W X→X.cell? ⟨w.heap.size+1,0,none⟩=some (.slice none 0 0)∧X.frozen? ⟨w.heap.size+1,0,none⟩=false∧w.heap.size+1<X.heap.size):=fun X h =>
  ⟨(h.cell (p:=⟨w.heap.size+1,0,none⟩) rl).trans r0,(h.frozen (p:=⟨w.heap.size+1,0,none⟩) rl).trans rf,by have:=h.size;omega⟩
 have n1:(⟨w.heap.size+1,0,none⟩:Addr).block≠w.heap.size:=by dsimp only;omega
 have HST:Hid (∀X,Below W.heap.size W X→∀x,(X.setCell ⟨w.heap.size+1,0,none⟩ x).cell? ⟨w.heap.size,1,none⟩=some (.string control)∧(X.setCell ⟨w.heap.size+1,0,none⟩ x).cell? ⟨w.heap.size,2,none⟩=some (.string tag)∧Below w.heap.size w (X.setCell ⟨w.heap.size+1,0,none⟩ x)):=fun X h x=>by
  obtain⟨g1,g2,g3⟩:=KEEP.out X h
  exact⟨(World.cell?_setCell_far _ ⟨w.heap.size+1,0,none⟩ ⟨w.heap.size,1,none⟩ _ n1).trans g1,(World.cell?_setCell_far _ ⟨w.heap.size+1,0,none⟩ ⟨w.heap.size,2,none⟩ _ n1).trans g2,g3.setCell (p:=⟨w.heap.size+1,0,none⟩) (Nat.le_succ _) x⟩
 obtain⟨wd,hwd⟩:∃wd,W.drew=wd:=⟨_,rfl⟩
 have hbd:Below W.heap.size W wd:=by rw[←hwd];exact(Below.refl _ _).drew
 have DW:Hid (wd.heap.size=W.heap.size):=by rw[←hwd];exact rfl
 have qc:=hide rl
 have K9:=hide hwd
 have uh:=(Below.refl W.heap.size W).drew
 clear k0 k1 k2 k3 k4 k5 hx1 hw1 bN dG bx1 dV c2 f2 hb r0 rf hwd n1 hok h3 h4 HC rl
 go_wp2_with fail
 have hwd:=K9.out
 clear g0
 go_region_held3 (fun X=>X.cell? ⟨w.heap.size,1,none⟩=some (.string control)∧X.cell? ⟨w.heap.size,2,none⟩=some (.string tag)∧Below w.heap.size w X)
  (first|with_reducible exact KEEP.out _ uh|with_reducible exact KEEP.out _ hbd|with_reducible exact KEEP.out _ (hbd.alloc hbd.size _)|with_reducible exact KEEP.out _ gI|with_reducible exact KEEP.out _ (gI.alloc gI.size _)|with_reducible exact KEEP.out _ l7|with_reducible exact KEEP.out _ (l7.alloc l7.size _)|with_reducible exact HST.out _ (l7.alloc l7.size _) _)
  (first
   | (go_at_call 25;refine(vg ⟨#[81,67,78]⟩ ⟨#[74,48,49]⟩ control _ (by decide) (by decide) h1).mono ?_;rintro e w2 ⟨u1,rfl,hF1,hb2⟩;obtain⟨a1,c1,rfl⟩:=gN hF1;
      first
      | (have gI:Below W.heap.size W w2:=by with_reducible exact aj hb2 hbd
         have hG1:aG W.heap.size w2 _ _:=gP hF1 (by rw[DW.out];exact Nat.le_succ _))
      | (have gI:Below W.heap.size W w2:=by with_reducible exact aj hb2 (hbd.alloc hbd.size _)
         have hG1:aG W.heap.size w2 _ _:=gP hF1 (by rw[Deep.nblk_alloc,DW.out];omega)))
   | (go_at_call 26;
      first
      | (with_reducible refine(iO ⟨#[81,73,68]⟩ [tag] (.slice (some ⟨w2.heap.size,0,none⟩) 1 1) (w2.alloc (Obj.cells #[.string tag] 9)) (uE w2 tag h2) one_le (CV h2)).mono ?_;rintro e w3 ⟨u2,rfl,hR2,hb3⟩
         have hF2:aG W.heap.size w3 u2 (ay List.isEmpty [ah tag]):=gP (gY [tag] hR2 one_le) (by rw[Deep.nblk_alloc];have:=gI.size;omega)
         have l7:=aj hb3 (gI.alloc gI.size _)
         have hG2:aG W.heap.size w3 _ _:=At.kept aP (At.kept aP hG1 (aO _ _)) hb3
         clear hR2;obtain⟨a2,c2,rfl⟩:=gN hF2;obtain⟨r0,rf,rl⟩:=jL.out _ (l7.alloc l7.size (Obj.cells #[.string ⟨#[77,83,72]⟩,.slice a1 (aI [⟨#[81,67,78]⟩,⟨#[74,48,49]⟩] control).length c1,.string ⟨#[81,73,68]⟩,.slice a2 (ay List.isEmpty [ah tag]).length c2] 54)))
      | (with_reducible refine(iO ⟨#[81,73,68]⟩ [tag] (.slice (some ⟨wd.heap.size,0,none⟩) 1 1) w2 (vk (uE wd tag h2) hb2) one_le (CV h2)).mono ?_;rintro e w3 ⟨u2,rfl,hR2,hb3⟩
         have hF2:aG W.heap.size w3 u2 (ay List.isEmpty [ah tag]):=gP (gY [tag] hR2 one_le) (by have:=gI.size;omega)
         have l7:=aj hb3 gI
         have hG2:aG W.heap.size w3 _ _:=At.kept aP hG1 hb3
         clear hR2;obtain⟨a2,c2,rfl⟩:=gN hF2;obtain⟨r0,rf,rl⟩:=jL.out _ (l7.alloc l7.size (Obj.cells #[.string ⟨#[77,83,72]⟩,.slice a1 (aI [⟨#[81,67,78]⟩,⟨#[74,48,49]⟩] control).length c1,.string ⟨#[81,73,68]⟩,.slice a2 (ay List.isEmpty [ah tag]).length c2] 54)))))
 all_goals
  have xV:=hide (Sr W.heap.size w3 ⟨⟨#[77,83,72]⟩,aI [⟨#[81,67,78]⟩,⟨#[74,48,49]⟩] control⟩ ⟨⟨#[81,73,68]⟩,ay List.isEmpty [ah tag]⟩ l7.size hG2 hF2 (by dsimp only;decide) (by dsimp only;decide))
  have Ct:Hid (∀X v x,aX W.heap.size X v (fI control tag)→aX w.heap.size (X.setCell ⟨w.heap.size+1,0,none⟩ x) v (fI control tag)):=fun X v x h=>CW qc.out h
  have jH:Hid (∀o x,Below w.heap.size w ((w3.alloc o).setCell ⟨w.heap.size+1,0,none⟩ x)):=fun o x=>(HST.out _ (l7.alloc l7.size o) x).2.2
  clear hG1 hG2 hF1 hF2 hb2 hb3
  go_wp2_with fail
  exact bodyPost_ret (v:=.agg #[.slice (some ⟨w3.heap.size,0,none⟩) 2 2]) (by simp[results,Tryz.results7,go_sem,r0,rl]) rfl ⟨_,rfl,Ct.out _ _ _ xV.out,jH.out _ _⟩
end Go.Proofs.YtfdihjnlgdiioaaGreatDoor.dB
