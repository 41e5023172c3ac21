import Derived.Deep.RegionHeld3
import Derived.Deep.DeepCutAuto
import Derived.Test.YtglcdcekkglmiaaGreatDoorG46
import Derived.Test.YtglcdcekkglmiaaGreatDoorG37
import Derived.Test.YtglcdcekkglmiaaGreatDoorG45
namespace Go.Proofs.YtglcdcekkglmiaaGreatDoor.Msg
open Go.ChangeShapes Go.WideShapes Go.ChangeAt Go.RowKit
set_option linter.unusedVariables false
set_option linter.unusedSimpArgs false
set_option maxRecDepth 100000 in
set_option maxHeartbeats 8000000 in
theorem wSess_yes (x:Sess) (v u:Value) (w:World) {lo lo2:Nat} (hv:StrsAt lo w v x.rows) (hu:StrsAt lo2 w u x.rows) :
  Calls Tryz.prog 15 #[sessV x v,sessV x u] w fun e w'=>e=.returned (.bool true)∧Below w.heap.size w w':=by
 obtain⟨client,tag,query,page,state,rows,cursor⟩:=x
 unfold sessV
 dsimp only at hv hu ⊢
 obtain⟨w1,hw1⟩:∃x,w.alloc (Obj.cells #[.int .i64 client,.string tag,.string query,.int .i64 page,.int .i64 state,v,.int .i64 cursor] 41)=x:=⟨_,rfl⟩
 obtain⟨w2,hw2⟩:∃x,w1.alloc (Obj.cells #[.int .i64 client,.string tag,.string query,.int .i64 page,.int .i64 state,u,.int .i64 cursor] 41)=x:=⟨_,rfl⟩
 have b1:Below w.heap.size w w1:=by rw[←hw1];exact alcB _ _
 have s1:w1.heap.size=w.heap.size+1:=by rw[←hw1];simp
 have b2':Below w1.heap.size w1 w2:=by rw[←hw2];exact alcB _ _
 have b2:Below w.heap.size w w2:=bjoin b2' b1
 have o1:Box w2 w.heap.size 41 #[.int .i64 client,.string tag,.string query,.int .i64 page,.int .i64 state,v,.int .i64 cursor]:=by rw[←hw2,←hw1];exact(Box.new _ _ _).alloc _
 have o2:Box w2 (w.heap.size+1) 41 #[.int .i64 client,.string tag,.string query,.int .i64 page,.int .i64 state,u,.int .i64 cursor]:=by rw[←s1,←hw2];exact Box.new _ _ _
 have HT:=hide (wTexts_yes rows v u w2 (At.kept kept_str hv b2) (At.kept kept_str hu b2))
 have HB:=hide b2
 obtain⟨va,vc,rfl,_⟩:=At.form hv
 obtain⟨ua,uc,rfl,_⟩:=At.form hu
 have hw2':(w.alloc (Obj.cells #[.int .i64 client,.string tag,.string query,.int .i64 page,.int .i64 state,.slice va rows.length vc,.int .i64 cursor] 41)).alloc (Obj.cells #[.int .i64 client,.string tag,.string query,.int .i64 page,.int .i64 state,.slice ua rows.length uc,.int .i64 cursor] 41)=w2:=by rw[hw1];exact hw2
 have c0:w2.cell? ⟨w.heap.size,0,none⟩=some (.int .i64 client):=o1.cell 0 (by simp)
 have c1:w2.cell? ⟨w.heap.size,1,none⟩=some (.string tag):=o1.cell 1 (by simp)
 have c2:w2.cell? ⟨w.heap.size,2,none⟩=some (.string query):=o1.cell 2 (by simp)
 have c3:w2.cell? ⟨w.heap.size,3,none⟩=some (.int .i64 page):=o1.cell 3 (by simp)
 have c4:w2.cell? ⟨w.heap.size,4,none⟩=some (.int .i64 state):=o1.cell 4 (by simp)
 have c5:w2.cell? ⟨w.heap.size,5,none⟩=some (.slice va rows.length vc):=o1.cell 5 (by simp)
 have c6:w2.cell? ⟨w.heap.size,6,none⟩=some (.int .i64 cursor):=o1.cell 6 (by simp)
 have d0:w2.cell? ⟨w.heap.size+1,0,none⟩=some (.int .i64 client):=o2.cell 0 (by simp)
 have d1:w2.cell? ⟨w.heap.size+1,1,none⟩=some (.string tag):=o2.cell 1 (by simp)
 have d2:w2.cell? ⟨w.heap.size+1,2,none⟩=some (.string query):=o2.cell 2 (by simp)
 have d3:w2.cell? ⟨w.heap.size+1,3,none⟩=some (.int .i64 page):=o2.cell 3 (by simp)
 have d4:w2.cell? ⟨w.heap.size+1,4,none⟩=some (.int .i64 state):=o2.cell 4 (by simp)
 have d5:w2.cell? ⟨w.heap.size+1,5,none⟩=some (.slice ua rows.length uc):=o2.cell 5 (by simp)
 have d6:w2.cell? ⟨w.heap.size+1,6,none⟩=some (.int .i64 cursor):=o2.cell 6 (by simp)
 clear hv hu hw1 hw2 b1 b2' b2 s1 o1 o2
 go_enter Tryz.func15,Tryz.ntmps15
 go_upto_region 1 with fail
 (try rw[hw2'])
 clear hw2'
 go_wp2_with fail
 refine HT.out.mono ?_
 rintro e y ⟨rfl,hb⟩
 have HBY:=hide (bjoin hb HB.out)
 clear hb
 go_wp2_with fail
 go_ret
 exact⟨rfl,HBY.out⟩
set_option maxRecDepth 100000 in
set_option maxHeartbeats 8000000 in
theorem wChg_yes (x:Chg) (v u:Value) (w:World) {lo lo2:Nat} (hv:StrsAt lo w v x.rows) (hu:StrsAt lo2 w u x.rows) :
  Calls Tryz.prog 11 #[chgV x v,chgV x u] w fun e w'=>e=.returned (.bool true)∧Below w.heap.size w w':=by
 obtain⟨kind,client,tag,query,page,rows,n0⟩:=x
 unfold chgV
 dsimp only at hv hu ⊢
 obtain⟨w1,hw1⟩:∃x,w.alloc (Obj.cells #[.int .i64 kind,.int .i64 client,.string tag,.string query,.int .i64 page,v,.int .i64 n0] 28)=x:=⟨_,rfl⟩
 obtain⟨w2,hw2⟩:∃x,w1.alloc (Obj.cells #[.int .i64 kind,.int .i64 client,.string tag,.string query,.int .i64 page,u,.int .i64 n0] 28)=x:=⟨_,rfl⟩
 have b1:Below w.heap.size w w1:=by rw[←hw1];exact alcB _ _
 have s1:w1.heap.size=w.heap.size+1:=by rw[←hw1];simp
 have b2':Below w1.heap.size w1 w2:=by rw[←hw2];exact alcB _ _
 have b2:Below w.heap.size w w2:=bjoin b2' b1
 have o1:Box w2 w.heap.size 28 #[.int .i64 kind,.int .i64 client,.string tag,.string query,.int .i64 page,v,.int .i64 n0]:=by rw[←hw2,←hw1];exact(Box.new _ _ _).alloc _
 have o2:Box w2 (w.heap.size+1) 28 #[.int .i64 kind,.int .i64 client,.string tag,.string query,.int .i64 page,u,.int .i64 n0]:=by rw[←s1,←hw2];exact Box.new _ _ _
 have HT:=hide (wTexts_yes rows v u w2 (At.kept kept_str hv b2) (At.kept kept_str hu b2))
 have HB:=hide b2
 obtain⟨va,vc,rfl,_⟩:=At.form hv
 obtain⟨ua,uc,rfl,_⟩:=At.form hu
 have hw2':(w.alloc (Obj.cells #[.int .i64 kind,.int .i64 client,.string tag,.string query,.int .i64 page,.slice va rows.length vc,.int .i64 n0] 28)).alloc (Obj.cells #[.int .i64 kind,.int .i64 client,.string tag,.string query,.int .i64 page,.slice ua rows.length uc,.int .i64 n0] 28)=w2:=by rw[hw1];exact hw2
 have c0:w2.cell? ⟨w.heap.size,0,none⟩=some (.int .i64 kind):=o1.cell 0 (by simp)
 have c1:w2.cell? ⟨w.heap.size,1,none⟩=some (.int .i64 client):=o1.cell 1 (by simp)
 have c2:w2.cell? ⟨w.heap.size,2,none⟩=some (.string tag):=o1.cell 2 (by simp)
 have c3:w2.cell? ⟨w.heap.size,3,none⟩=some (.string query):=o1.cell 3 (by simp)
 have c4:w2.cell? ⟨w.heap.size,4,none⟩=some (.int .i64 page):=o1.cell 4 (by simp)
 have c5:w2.cell? ⟨w.heap.size,5,none⟩=some (.slice va rows.length vc):=o1.cell 5 (by simp)
 have c6:w2.cell? ⟨w.heap.size,6,none⟩=some (.int .i64 n0):=o1.cell 6 (by simp)
 have d0:w2.cell? ⟨w.heap.size+1,0,none⟩=some (.int .i64 kind):=o2.cell 0 (by simp)
 have d1:w2.cell? ⟨w.heap.size+1,1,none⟩=some (.int .i64 client):=o2.cell 1 (by simp)
 have d2:w2.cell? ⟨w.heap.size+1,2,none⟩=some (.string tag):=o2.cell 2 (by simp)
 have d3:w2.cell? ⟨w.heap.size+1,3,none⟩=some (.string query):=o2.cell 3 (by simp)
 have d4:w2.cell? ⟨w.heap.size+1,4,none⟩=some (.int .i64 page):=o2.cell 4 (by simp)
 have d5:w2.cell? ⟨w.heap.size+1,5,none⟩=some (.slice ua rows.length uc):=o2.cell 5 (by simp)
 have d6:w2.cell? ⟨w.heap.size+1,6,none⟩=some (.int .i64 n0):=o2.cell 6 (by simp)
 clear hv hu hw1 hw2 b1 b2' b2 s1 o1 o2
 go_enter Tryz.func11,Tryz.ntmps11
 go_upto_region 1 with fail
 (try rw[hw2'])
 clear hw2'
 go_wp2_with fail
 refine HT.out.mono ?_
 rintro e y ⟨rfl,hb⟩
 have HBY:=hide (bjoin hb HB.out)
 clear hb
 go_wp2_with fail
 go_ret
 exact⟨rfl,HBY.out⟩
set_option maxRecDepth 100000 in
set_option maxHeartbeats 8000000 in
theorem wTbl_yes (xs:List Sess) (v u:Value) (w:World) {lo lo2:Nat} (hv:SesssAt lo w v xs) (hu:SesssAt lo2 w u xs) :
  Calls Tryz.prog 7 #[.agg #[v],.agg #[u]] w fun e w'=>e=.returned (.bool true)∧Below w.heap.size w w':=by
 obtain⟨a1,cap,rfl,_⟩:=At.form hv
 obtain⟨a2,cap2,rfl,_⟩:=At.form hu
 obtain⟨w0,hw0⟩:∃x,(w.alloc (Obj.cells #[.slice a1 xs.length cap] 25)).alloc (Obj.cells #[.slice a2 xs.length cap2] 25)=x:=⟨_,rfl⟩
 have hb0:Below w.heap.size w w0:=by
  rw[←hw0]
  have h1:=(Below.refl w.heap.size w).alloc (leR _) (Obj.cells #[.slice a1 xs.length cap] 25)
  exact h1.alloc h1.size _
 have HA:Hid (Box w0 w.heap.size 25 #[.slice a1 xs.length cap]):=by rw[←hw0];exact(Box.new _ _ _).alloc _
 have HB:Hid (Box w0 (w.heap.size+1) 25 #[.slice a2 xs.length cap2]):=by
  rw[←hw0]
  have:=Box.new (w.alloc (Obj.cells #[.slice a1 xs.length cap] 25)) 25 #[.slice a2 xs.length cap2]
  rw[Deep.nblk_alloc] at this
  exact this
 have hv0:=At.kept kept_sess hv hb0
 have hu0:=At.kept kept_sess hu hb0
 have HV:=hide hv0
 have HU:=hide hu0
 have HB0:=hide hb0
 obtain⟨n,hn⟩:∃n,xs.length=n:=⟨_,rfl⟩
 rw[hn] at HA HB hw0 HV HU ⊢
 have HN:=hide hn
 have HW0:=hide hw0
 have hnl:n≤9223372036854775807:=by rw[←hn];exact hv.1
 have p0:w0.cell? ⟨w.heap.size,0,none⟩=some (.slice a1 n cap):=HA.out.cell 0 (by simp)
 have p1:w0.cell? ⟨w.heap.size+1,0,none⟩=some (.slice a2 n cap2):=HB.out.cell 0 (by simp)
 clear hv hu hv0 hu0 hb0 hw0 hn
 go_enter Tryz.func7,Tryz.ntmps7
 go_wp2_with (rw[HW0.out])
 (try rw[HW0.out])
 go_loopw [5] (fun i w1=>∃k:Nat,k≤n∧i=.int .i64 k∧Below w0.heap.size w0 w1) (fun i _=>n - (intOf i).toNat)
 case atStart=>exact⟨0,zrL _,rfl,Below.refl _ _⟩
 case round =>
  obtain⟨k,hk,rfl,hb⟩:=hrel
  clear p0 p1
  have p0:wr.cell? ⟨w.heap.size,0,none⟩=some (.slice a1 n cap):=(HA.out.below hb).cell 0 (by simp)
  have p1:wr.cell? ⟨w.heap.size+1,0,none⟩=some (.slice a2 n cap2):=(HB.out.below hb).cell 0 (by simp)
  by_cases hk2:k<n
  ·have hkx:k<xs.length:=by rw[HN.out];exact hk2
   obtain⟨x,hxk⟩:∃x,xs[k]=x:=⟨_,rfl⟩
   obtain⟨a',cap',ea,hel⟩:=At.form HV.out
   rw[HN.out] at ea
   injection ea with e1 _ e3
   subst e1 e3
   obtain⟨b,off,rfl,_,hlt,g⟩:=hel k hkx
   obtain⟨a'',cap'',ea,hel2⟩:=At.form HU.out
   rw[HN.out] at ea
   injection ea with e1 _ e3
   subst e1 e3
   obtain⟨b2,off2,rfl,_,hlt2,g2⟩:=hel2 k hkx
   obtain⟨p,hp⟩:∃p,off+k * 7=p:=⟨_,rfl⟩
   obtain⟨p2,hp2⟩:∃p2,off2+k * 7=p2:=⟨_,rfl⟩
   rw[hxk,hp] at g
   rw[hxk,hp2] at g2
   obtain⟨c0,c1,c2,c3,c4,c6,_,_,ve,c5,hr1⟩:=g
   obtain⟨d0,d1,d2,d3,d4,d6,_,_,ue,d5,hr2⟩:=g2
   have HEL:=hide hr1
   have HEL2:=hide hr2
   obtain⟨ae,ce,hfe⟩:∃a c,ve=.slice a x.rows.length c:=by obtain⟨a,c,e,_⟩:=hr1.form;exact⟨a,c,e⟩
   obtain⟨au,cu,hfu⟩:∃a c,ue=.slice a x.rows.length c:=by obtain⟨a,c,e,_⟩:=hr2.form;exact⟨a,c,e⟩
   subst hfe hfu
   have KS:Hid (∀X,Below w0.heap.size w0 X→(X.cell? ⟨w.heap.size,0,none⟩=some (.slice (some ⟨b,off,none⟩) n cap)∧X.cell? ⟨w.heap.size+1,0,none⟩=some (.slice (some ⟨b2,off2,none⟩) n cap2))∧(X.cell? ⟨b,p,none⟩=some (.int .i64 x.client)∧X.cell? ⟨b,p+1,none⟩=some (.string x.tag)∧X.cell? ⟨b,p+2,none⟩=some (.string x.query)∧X.cell? ⟨b,p+3,none⟩=some (.int .i64 x.page)∧X.cell? ⟨b,p+4,none⟩=some (.int .i64 x.state)∧X.cell? ⟨b,p+5,none⟩=some (.slice ae x.rows.length ce)∧X.cell? ⟨b,p+6,none⟩=some (.int .i64 x.cursor))∧(X.cell? ⟨b2,p2,none⟩=some (.int .i64 x.client)∧X.cell? ⟨b2,p2+1,none⟩=some (.string x.tag)∧X.cell? ⟨b2,p2+2,none⟩=some (.string x.query)∧X.cell? ⟨b2,p2+3,none⟩=some (.int .i64 x.page)∧X.cell? ⟨b2,p2+4,none⟩=some (.int .i64 x.state)∧X.cell? ⟨b2,p2+5,none⟩=some (.slice au x.rows.length cu)∧X.cell? ⟨b2,p2+6,none⟩=some (.int .i64 x.cursor))∧Below w0.heap.size w0 X):=fun X h =>
    ⟨⟨(HA.out.below h).cell 0 (by simp),(HB.out.below h).cell 0 (by simp)⟩,⟨(h.cell (by exact hlt)).trans c0,(h.cell (by exact hlt)).trans c1,(h.cell (by exact hlt)).trans c2,(h.cell (by exact hlt)).trans c3,(h.cell (by exact hlt)).trans c4,(h.cell (by exact hlt)).trans c5,(h.cell (by exact hlt)).trans c6⟩,⟨(h.cell (by exact hlt2)).trans d0,(h.cell (by exact hlt2)).trans d1,(h.cell (by exact hlt2)).trans d2,(h.cell (by exact hlt2)).trans d3,(h.cell (by exact hlt2)).trans d4,(h.cell (by exact hlt2)).trans d5,(h.cell (by exact hlt2)).trans d6⟩,h⟩
   have hi:(k:Int)<(n:Int):=by omega
   have hi0:(0:Int)≤(k:Int):=by omega
   have HBW:=hide hb
   clear hel hel2 c0 c1 c2 c3 c4 c5 c6 d0 d1 d2 d3 d4 d5 d6 hr1 hr2 hxk hb
   go_wp2_with fail
   clear p0 p1
   obtain⟨D,hwd⟩:∃D,wr.drew=D:=⟨_,rfl⟩
   have hbd0:Below w0.heap.size w0 wr.drew:=bjoin (Below.refl _ _).drew HBW.out
   have hD:Below w0.heap.size w0 D:=by rw[←hwd];exact hbd0
   go_region_held3 (fun X:World=>(X.cell? ⟨w.heap.size,0,none⟩=some (.slice (some ⟨b,off,none⟩) n cap)∧X.cell? ⟨w.heap.size+1,0,none⟩=some (.slice (some ⟨b2,off2,none⟩) n cap2))∧(X.cell? ⟨b,p,none⟩=some (.int .i64 x.client)∧X.cell? ⟨b,p+1,none⟩=some (.string x.tag)∧X.cell? ⟨b,p+2,none⟩=some (.string x.query)∧X.cell? ⟨b,p+3,none⟩=some (.int .i64 x.page)∧X.cell? ⟨b,p+4,none⟩=some (.int .i64 x.state)∧X.cell? ⟨b,p+5,none⟩=some (.slice ae x.rows.length ce)∧X.cell? ⟨b,p+6,none⟩=some (.int .i64 x.cursor))∧(X.cell? ⟨b2,p2,none⟩=some (.int .i64 x.client)∧X.cell? ⟨b2,p2+1,none⟩=some (.string x.tag)∧X.cell? ⟨b2,p2+2,none⟩=some (.string x.query)∧X.cell? ⟨b2,p2+3,none⟩=some (.int .i64 x.page)∧X.cell? ⟨b2,p2+4,none⟩=some (.int .i64 x.state)∧X.cell? ⟨b2,p2+5,none⟩=some (.slice au x.rows.length cu)∧X.cell? ⟨b2,p2+6,none⟩=some (.int .i64 x.cursor))∧Below w0.heap.size w0 X)
    (first|with_reducible exact KS.out _ hbd0|with_reducible exact KS.out _ hD|with_reducible exact KS.out _ hb9)
    (first|(go_at_call 15;refine(wSess_yes x (.slice ae x.rows.length ce) (.slice au x.rows.length cu) _ (At.kept kept_str HEL.out hD) (At.kept kept_str HEL2.out hD)).mono ?_;rintro e w2 ⟨rfl,hb2⟩;have hb9:Below w0.heap.size w0 w2:=bjoin hb2 hD))
   go_wp2_with fail
   go_roundw
   case rel=>exact⟨k+1,by omega,by go_num,hb9⟩
   case measure=>simp[intOf];omega
  ·have hki:¬(k:Int)<(n:Int):=by omega
   have HE:=hide (bjoin hb HB0.out)
   go_wp2_with fail
   go_ret
   exact⟨rfl,HE.out⟩
theorem drCh_sm (cs:List UInt8) (p:Nat) (xs:List Sess) (h:∀s∈xs,s.tag.size≤1048576):(drCh cs p xs).tag.size≤1048576∧(drCh cs p xs).query.size≤1048576:=by
 unfold drCh
 split
 ·refine⟨?_,Nat.le_trans (drTxt_sz cs (p+3)) (by decide)⟩
  show (if 40<tk cs (p+1) 60 then chN (tk cs (p+1) 60) else drTag cs (p+2)).size≤_
  split
  ·unfold chN
   rw[ByteArray.size_append]
   have h1:=tk_lt cs (p+1) 60 (by decide)
   have h2:=decT_small (tk cs (p+1) 60) (by omega)
   have e1:(⟨#[110]⟩:ByteArray).size=1:=rfl
   omega
  ·exact Nat.le_trans (drTag_sz cs (p+2)) (by decide)
 ·rename_i h0
  have hx:0<xs.length:=by omega
  have hm:=Nat.mod_lt (tk cs (p+1) 60) hx
  have hg:xs.getD (tk cs (p+1) 60 % xs.length) sess0∈xs:=by rw[List.getD_eq_getElem?_getD,List.getElem?_eq_getElem hm];exact List.getElem_mem hm
  exact⟨h _ hg,by show (⟨#[]⟩:ByteArray).size≤_;decide⟩
theorem apT1_tag (cs:List UInt8):∀s∈apT1 cs,s.tag.size≤1048576:=fun s hs=>by
 unfold apT1 at hs
 split at hs
 ·unfold fullT at hs
  obtain⟨i,hi,rfl⟩:=List.mem_map.1 hs
  have hi':=List.mem_range.1 hi
  have:=fS_sz i (by omega)
  unfold fullS
  split
  ·show (fS i).size≤_;omega
  ·show (fS i).size≤_;omega
 ·have h1:=((tblB_iff _).1 (drTable_tbl cs)).2.1 s hs
  have h2:=(sess_parts h1).2.1
  have h3:s.tag.size≤16:=by
   unfold tagB at h2
   first|exact bnd_sz h2|(simp only[Bool.and_eq_true] at h2;exact bnd_sz h2.1)|(simp only[Bool.and_eq_true] at h2;exact bnd_sz h2.2)
  omega
theorem apC_sm (cs:List UInt8):(apC cs).tag.size≤1048576∧(apC cs).query.size≤1048576:=by
 unfold apC
 split
 ·exact⟨by show (⟨#[109]⟩:ByteArray).size≤_;decide,by show (⟨#[]⟩:ByteArray).size≤_;decide⟩
 ·unfold apC1
  split
  ·exact⟨by show (fS (apX cs % 20)).size≤_;have:=fS_sz (apX cs % 20) (by omega);omega,by show (⟨#[]⟩:ByteArray).size≤_;decide⟩
  ·exact drCh_sm cs 2 (apT1 cs) (apT1_tag cs)
theorem te_form {base:Nat} {X:World} {v:Value} {ps:List (Sess × Value)} {xs:List Sess} (h:TE base X v ps) (he:ps.map Prod.fst=xs) (hl:xs.length≤100000):∃a cp,v=.slice a xs.length cp∧SesssAt 0 X v xs:=by
 obtain⟨a,cp,e,_⟩:=h.form
 exact⟨a,cp,by rw[e,←he,List.length_map],At.mono mono_sess (h.reads he hl) (zrL _)⟩
def ApR (w:World) (ys:List Sess) (ac:Int) (e:Ending) (w':World):Prop:=∃a cp,e=.returned (.tuple #[.agg #[.slice a ys.length cp],.int .i64 ac])∧SesssAt 0 w' (.slice a ys.length cp) ys∧Below w.heap.size w w'
theorem ApPost.reads {w w':World} {R:List Sess × Int} {e:Ending} (h:ApPost w R e w') (hl:R.1.length≤17):ApR w R.1 R.2 e w':=by
 obtain⟨t,rfl,⟨qs,hte,hq⟩,hb⟩:=h
 obtain⟨a,cp,rfl,hs⟩:=te_form hte hq (by omega)
 exact⟨a,cp,rfl,hs,hb⟩
def TblR (w:World) (ys:List Sess) (e:Ending) (w':World):Prop:=∃a cp,e=.returned (.agg #[.slice a ys.length cp])∧SesssAt 0 w' (.slice a ys.length cp) ys∧Below w.heap.size w w'
theorem RcPost.reads {w w':World} {img:ByteArray} {ys:List Sess} {e:Ending} (h:RcPost w img e w') (hy:recovP img=ys) (hl:ys.length≤100000):TblR w ys e w':=by
 obtain⟨t,rfl,⟨qs,hte,hq⟩,hb⟩:=h
 obtain⟨a,cp,rfl,hs⟩:=te_form hte (hq.trans hy) hl
 exact⟨a,cp,rfl,hs,hb⟩
theorem apS (xs:List Sess) (tv:Value) (c:Chg) (au:Option Addr) (nu cu:Nat) (W:World) (h1:c.tag.size≤1048576) (h2:c.query.size≤1048576) (hs:SesssAt 0 W tv xs) (hr:StrsAt 0 W (.slice au nu cu) c.rows) :
  Calls Tryz.prog 5 #[.agg #[tv],chgV c (.slice au nu cu)] W (ApR W (applyP xs c).1 (applyP xs c).2) :=
 (applyS_any xs tv c au nu cu W hs (by omega) (by omega) hr).mono fun e w' h=>h.reads (applyP_len xs c)
theorem apI (xs:List Sess) (tv:Value) (c:Chg) (au:Option Addr) (nu cu:Nat) (W:World) (h1:c.tag.size≤1048576) (h2:c.query.size≤1048576) (hs:SesssAt 0 W tv xs) (hr:StrsAt 0 W (.slice au nu cu) c.rows) :
  Calls Tryz.prog 6 #[.agg #[tv],chgV c (.slice au nu cu)] W (ApR W (applyP xs c).1 (applyP xs c).2) :=
 (applyI_any xs tv c au nu cu W hs (by omega) (by omega) hr).mono fun e w' h=>h.reads (applyP_len xs c)
theorem enc_chg {c:Chg} (h:(encB c).size≠0):chgB c=true:=by
 unfold encB at h
 split at h
 ·assumption
 ·exact absurd rfl h
theorem decI_enc (c:Chg) (W:World) (h:(encB c).size≠0) (hE:Env W) (hM:Mx W) :
  Calls Tryz.prog 9 #[.string (encB c)] W fun e w'=>∃a cp,e=.returned (.tuple #[chgV c (.slice a c.rows.length cp),.bool true])∧StrsAt 0 w' (.slice a c.rows.length cp) c.rows∧Below W.heap.size W w':=by
 have hz:=encB_size c
 have h1:=decI_any (encB c) W (by omega) hE hM
 rw[dec_same,dec_enc (enc_chg h)] at h1
 refine h1.mono ?_
 rintro e w' ⟨u,rfl,⟨bs,hO,_,_⟩,hb⟩
 have hs:StrsAt 0 w' u c.rows:=OAt.toAt toAt_str hO (fun _ _=>zrL _)
 obtain⟨a,cp,rfl,_⟩:=At.form hs
 exact⟨a,cp,rfl,hs,hb⟩
theorem failT_len (xs:List Sess):(failT xs).length=xs.length:=by unfold failT;rw[List.length_map]
theorem rcSnap (xs:List Sess) (W:World) (h:tblB xs=true) (hE:Env W) (hM:Mx W) :
  Calls Tryz.prog 14 #[.string (snapB xs)] W (TblR W (failT xs)) :=
 (recovI_any (snapB xs) W (snap_le xs) hE hM).mono fun e w' hp=>hp.reads (recov_snap h) (by rw[failT_len];have:=((tblB_iff xs).1 h).1;omega)
theorem rcTwice (xs:List Sess) (W:World) (h:tblB xs=true) (hE:Env W) (hM:Mx W) :
  Calls Tryz.prog 14 #[.string (snapB (failT xs))] W (TblR W (failT xs)) :=
 (recovI_any (snapB (failT xs)) W (snap_le _) hE hM).mono fun e w' hp=>hp.reads (recov_twice h) (by rw[failT_len];have:=((tblB_iff xs).1 h).1;omega)
structure LT (w:World) (xs:List Sess) (c:Chg) (B1 B2 B3 B4:Nat) (tv u tv2 u2:Value) (X:World):Prop where
 b1:Box X B1 25 #[tv]
 b2:Box X B2 28 (cgC c u)
 b3:Box X B3 25 #[tv2]
 b4:Box X B4 28 (cgC c u2)
 s1:SesssAt 0 X tv xs
 r1:StrsAt 0 X u c.rows
 s2:SesssAt 0 X tv2 xs
 r2:StrsAt 0 X u2 c.rows
 bel:Below w.heap.size w X
theorem LT.below {w X Y:World} {xs:List Sess} {c:Chg} {B1 B2 B3 B4:Nat} {tv u tv2 u2:Value} (h:LT w xs c B1 B2 B3 B4 tv u tv2 u2 X) (hb:Below X.heap.size X Y):LT w xs c B1 B2 B3 B4 tv u tv2 u2 Y :=
 ⟨h.b1.below hb,h.b2.below hb,h.b3.below hb,h.b4.below hb,At.kept kept_sess h.s1 hb,At.kept kept_str h.r1 hb,At.kept kept_sess h.s2 hb,At.kept kept_str h.r2 hb,bjoin hb h.bel⟩
end Go.Proofs.YtglcdcekkglmiaaGreatDoor.Msg
