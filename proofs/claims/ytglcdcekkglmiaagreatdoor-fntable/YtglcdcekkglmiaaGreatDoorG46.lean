import Derived.Test.YtglcdcekkglmiaaGreatDoorG42
import Derived.Test.YtglcdcekkglmiaaGreatDoorG43
import Derived.Deep.Slices
import Derived.ChangeOld
namespace Go.Proofs.YtglcdcekkglmiaaGreatDoor.Msg
open Go.ChangeShapes Go.WideShapes Go.ChangeAt Go.RowKit
set_option linter.unusedVariables false
set_option linter.unusedSimpArgs false
def drTb (cs:List UInt8):Nat→List Sess × Nat
 | 0=>([],0)
 | k+1=>((applyP (drTb cs k).1 (drCh cs (drTb cs k).2 (drTb cs k).1)).1,drChQ cs (drTb cs k).2 (drTb cs k).1)
theorem drTb_pos (cs:List UInt8):∀k,(drTb cs k).2≤16 * k
 | 0=>leR _
 | k+1=>by
  have h:=drTb_pos cs k
  have h2:=drChQ_le cs (drTb cs k).2 (drTb cs k).1
  show drChQ cs (drTb cs k).2 (drTb cs k).1≤_
  omega
theorem drTb_tbl (cs:List UInt8):∀k,tblB (drTb cs k).1=true
 | 0=>tblB_nil
 | k+1=>applyP_tbl _ _
def drTable (cs:List UInt8):List Sess:=(drTb cs (drCount cs.length 3 6 60)).1
theorem drTable_tbl (cs:List UInt8):tblB (drTable cs)=true:=drTb_tbl cs _
theorem tbl_rows {xs:List Sess} (h:tblB xs=true):∀s∈xs,s.rows.length≤1000000:=fun s hs=>Nat.le_trans ((tbl_sm h).2 s hs).2.2.1 (by decide)
theorem tbl_tags {xs:List Sess} (h:tblB xs=true):∀s∈xs,s.tag.size≤9223372036854775807:=fun s hs=>((tbl_sm h).2 s hs).1
set_option maxRecDepth 100000 in
set_option maxHeartbeats 8000000 in
theorem drawTb_any (cs:List UInt8) (v:Value) (w:World) {lo:Nat} (hv:CodeAt lo w v cs) (hl:cs.length≤1048576) :
  Calls Tryz.prog 17 #[v] w fun e w'=>∃t,e=.returned (.agg #[t])∧SesssAt w.heap.size w' t (drTable cs)∧Below w.heap.size w w':=by
 obtain⟨n,hn⟩:∃n,drCount cs.length 3 6 60=n:=⟨_,rfl⟩
 have hn60:n≤60:=by rw[←hn];unfold drCount;split <;> omega
 have HFIN:Hid (drTable cs=(drTb cs n).1):=by show _=_;unfold drTable;rw[hn]
 have HC0:=hide (fun(a:Option Addr) (cap:Nat) (W:World)=>count_any cs.length a cap 3 6 60 W hl (by decide) (by decide) (by decide) (by decide))
 rw[hn] at HC0
 have HDR:=hide (fun(k:Nat) (hk:k≤60) (tv:Value) (W:World) (l9:Nat) (hb:Below w.heap.size w W) (h:SesssAt l9 W tv (drTb cs k).1)=>drawCh_any cs v (drTb cs k).2 (drTb cs k).1 tv W (At.kept kept_code hv hb) hl (by have:=drTb_pos cs k;omega) h (tbl_rows (drTb_tbl cs k)))
 have HAP:=hide (fun(k:Nat) (tv:Value) (au:Option Addr) (cu:Nat) (W:World) (l8 l9:Nat) (h:SesssAt l8 W tv (drTb cs k).1) (h2:StrsAt l9 W (.slice au (drCh cs (drTb cs k).2 (drTb cs k).1).rows.length cu) (drCh cs (drTb cs k).2 (drTb cs k).1).rows)=>applyS_any (drTb cs k).1 tv (drCh cs (drTb cs k).2 (drTb cs k).1) au (drCh cs (drTb cs k).2 (drTb cs k).1).rows.length cu W h (drCh_sz cs _ _ (tbl_tags (drTb_tbl cs k))).1 (drCh_sz cs _ _ (tbl_tags (drTb_tbl cs k))).2.1 h2)
 obtain⟨aa,cap,rfl,_⟩:=code_form hv
 obtain⟨X0,hX0⟩:∃x,(w.alloc (Obj.cells #[.slice none 0 0] 25)).alloc (Obj.cells #[.slice none 0 0] 25)=x:=⟨_,rfl⟩
 have HR:Hid (Box X0 w.heap.size 25 #[.slice none 0 0]):=by rw[←hX0];exact(Box.new _ _ _).alloc _
 have HT:Hid (Box X0 (w.heap.size+1) 25 #[.slice none 0 0]):=by
  rw[←hX0]
  have:=Box.new (w.alloc (Obj.cells #[.slice none 0 0] 25)) 25 #[.slice none 0 0]
  rw[Deep.nblk_alloc] at this
  exact this
 have HB0:Hid (Below w.heap.size w X0):=by
  rw[←hX0]
  have h1:=(Below.refl w.heap.size w).alloc (leR _) (Obj.cells #[.slice none 0 0] 25)
  exact h1.alloc h1.size _
 have HS0:Hid (X0.heap.size=w.heap.size+2):=by show _=_;rw[←hX0];simp
 have HX0:=hide hX0
 clear hn hX0 hv
 go_enter Tryz.func17,Tryz.ntmps17
 go_wp2_with fail
 (try rw[HX0.out])
 refine(HC0.out _ _ _).mono ?_
 rintro e w2 ⟨rfl,hw2⟩
 rw[hw2]
 clear hw2 w2
 go_wp2_with fail
 go_loopg [4,6] n (fun z pv i wr=>∃(k:Nat) (a:Option Addr) (c m:Nat),k≤n∧z=n - k∧pv=.int .i64 (((drTb cs k).2:Nat):Int)∧i=.int .i64 (k:Int)∧Box wr w.heap.size 25 #[.slice none 0 0]∧Box wr (w.heap.size+1) 25 #[.slice a m c]∧(∃ps,TE (w.heap.size+2) wr (.slice a m c) ps∧ps.map Prod.fst=(drTb cs k).1)∧Below w.heap.size w wr)
 case atStart=>exact⟨0,none,0,0,zrL _,rfl,rfl,rfl,HR.out,HT.out,⟨[],TE.nil _ _,rfl⟩,HB0.out⟩
 case round =>
  obtain⟨k,ak,ck,mk,hk,rfl,rfl,rfl,hr,htb,hte,hb⟩:=hrel
  obtain⟨Y,rfl⟩:∃x,x=wr:=⟨_,rfl⟩
  have HRY:=hide hr
  have HTY:=hide htb
  have HTE:=hide hte
  have HBY:=hide hb
  clear hr htb hte hb
  have d0:Y.cell? ⟨w.heap.size+1,0,none⟩=some (.slice ak mk ck):=HTY.out.cell 0 (by simp)
  by_cases hlt:k<n
  ·have hki:(k:Int)<(n:Int):=by omega
   have hpos:=drTb_pos cs k
   have HRD:Hid (SesssAt (w.heap.size+2) Y (.slice ak mk ck) (drTb cs k).1):=by
    obtain⟨ps,h,he⟩:=HTE.out
    exact h.reads he (by have:=((tblB_iff _).1 (drTb_tbl cs k)).1;omega)
   have HCH:=hide (HDR.out k (by omega) (.slice ak mk ck) Y _ HBY.out HRD.out)
   have HAK:=hide (HAP.out k (.slice ak mk ck))
   have HNX:Hid (drTb cs (k+1)=((applyP (drTb cs k).1 (drCh cs (drTb cs k).2 (drTb cs k).1)).1,drChQ cs (drTb cs k).2 (drTb cs k).1)):=rfl
   have HPQ:=drChQ_le cs (drTb cs k).2 (drTb cs k).1
   obtain⟨xs,hxs⟩:∃q,(drTb cs k).1=q:=⟨_,rfl⟩
   obtain⟨pk,hpk⟩:∃q,(drTb cs k).2=q:=⟨_,rfl⟩
   rw[hxs] at HCH HAK HNX HRD HTE HPQ
   rw[hpk] at HCH HAK HNX hpos HPQ
   rw[hpk]
   obtain⟨c,hc⟩:∃c,drCh cs pk xs=c:=⟨_,rfl⟩
   obtain⟨qk,hqk⟩:∃c,drChQ cs pk xs=c:=⟨_,rfl⟩
   rw[hc] at HCH HAK HNX
   rw[hqk] at HCH HNX HPQ
   obtain⟨nu,hnu⟩:∃q,c.rows.length=q:=⟨_,rfl⟩
   rw[hnu] at HAK
   obtain⟨Rr,hRr⟩:∃q,applyP xs c=q:=⟨_,rfl⟩
   rw[hRr] at HAK HNX
   have HNU:=hide hnu
   obtain⟨R1,R2⟩:=Rr
   unfold ApPost at HAK
   unfold chgV at HCH HAK
   dsimp only at HAK HNX
   clear hxs hpk hc hqk hnu hRr
   go_wp2_with fail
   refine HCH.out.mono ?_
   rintro e V1 ⟨u,rfl,hu,hb1⟩
   obtain⟨au,cu,eu,_⟩:=At.form hu
   rw[HNU.out] at eu
   subst eu
   obtain⟨kind,client,tag,query,page,rows,n0⟩:=c
   dsimp only at HAK hu ⊢
   obtain⟨V2,hV2⟩:∃x,V1.alloc (Obj.cells #[.int .i64 kind,.int .i64 client,.string tag,.string query,.int .i64 page,.slice au nu cu,.int .i64 n0] 28)=x:=⟨_,rfl⟩
   have hbV:Below V1.heap.size V1 V2:=by rw[←hV2];exact alcB _ _
   have HBV:=hide (bjoin hbV hb1)
   have HCX:Hid (Box V2 V1.heap.size 28 #[.int .i64 kind,.int .i64 client,.string tag,.string query,.int .i64 page,.slice au nu cu,.int .i64 n0]):=by rw[←hV2];exact Box.new _ _ _
   have HAV:=hide (HAK.out au cu V2 _ _ (At.kept kept_sess HRD.out HBV.out) (At.kept kept_str hu hbV))
   have p2:V2.cell? ⟨w.heap.size+1,0,none⟩=some (.slice ak mk ck):=(HTY.out.below HBV.out).cell 0 (by simp)
   have q0:V2.cell? ⟨V1.heap.size,0,none⟩=some (.int .i64 kind):=HCX.out.cell 0 (by simp)
   have q1:V2.cell? ⟨V1.heap.size,1,none⟩=some (.int .i64 client):=HCX.out.cell 1 (by simp)
   have q2:V2.cell? ⟨V1.heap.size,2,none⟩=some (.string tag):=HCX.out.cell 2 (by simp)
   have q3:V2.cell? ⟨V1.heap.size,3,none⟩=some (.string query):=HCX.out.cell 3 (by simp)
   have q4:V2.cell? ⟨V1.heap.size,4,none⟩=some (.int .i64 page):=HCX.out.cell 4 (by simp)
   have q5:V2.cell? ⟨V1.heap.size,5,none⟩=some (.slice au nu cu):=HCX.out.cell 5 (by simp)
   have q6:V2.cell? ⟨V1.heap.size,6,none⟩=some (.int .i64 n0):=HCX.out.cell 6 (by simp)
   have HV2:=hide hV2
   clear hu hb1 hbV hV2 d0
   go_wp2_with (rw[HV2.out])
   (try rw[HV2.out])
   refine HAV.out.mono ?_
   rintro e V3 ⟨t,rfl,⟨qs,hteq,hqs⟩,hb3⟩
   obtain⟨at3,ct3,et3,_⟩:=hteq.form
   obtain⟨m3,hm3⟩:∃q,qs.length=q:=⟨_,rfl⟩
   rw[hm3] at et3
   subst et3
   have hbY3:Below Y.heap.size Y V3:=bjoin hb3 HBV.out
   have hTY3:=HTY.out.below hbY3
   have hRY3:=HRY.out.below hbY3
   have r0:V3.cell? ⟨w.heap.size+1,0,none⟩=some (.slice ak mk ck):=hTY3.cell 0 (by simp)
   have rf:=hTY3.frozen 0
   have rl:=hTY3.lt
   have hsz:w.heap.size+2≤V2.heap.size:=by have:=HTY.out.lt;have:=HBV.out.size;omega
   have hT4:Box (V3.setCell ⟨w.heap.size+1,0,none⟩ (.slice at3 m3 ct3)) (w.heap.size+1) 25 #[.slice at3 m3 ct3]:=by have:=hTY3.set 0 (.slice at3 m3 ct3);simpa using this
   have HNEW:Hid (Box (V3.setCell ⟨w.heap.size+1,0,none⟩ (.slice at3 m3 ct3)) w.heap.size 25 #[.slice none 0 0]∧Box (V3.setCell ⟨w.heap.size+1,0,none⟩ (.slice at3 m3 ct3)) (w.heap.size+1) 25 #[.slice at3 m3 ct3]∧(∃ps,TE (w.heap.size+2) (V3.setCell ⟨w.heap.size+1,0,none⟩ (.slice at3 m3 ct3)) (.slice at3 m3 ct3) ps∧ps.map Prod.fst=(drTb cs (k+1)).1)∧Below w.heap.size w (V3.setCell ⟨w.heap.size+1,0,none⟩ (.slice at3 m3 ct3))) :=
    ⟨hRY3.other (by simp) _,hT4,⟨qs,(hteq.low (by omega)).setBox hTY3 _,by rw[HNX.out];exact hqs⟩,(bjoin hbY3 HBY.out).setCell (p:=⟨w.heap.size+1,0,none⟩) (by show w.heap.size≤w.heap.size+1;omega) _⟩
   have HQE:Hid ((drTb cs (k+1)).2=qk):=by show _=_;rw[HNX.out]
   clear hteq hqs hb3 hm3 hbY3 hTY3 hRY3 hT4 p2 q0 q1 q2 q3 q4 q5 q6 hsz
   go_wp2_with fail
   go_roundg (n - (k+1))
   case measure=>omega
   case rel=>exact⟨k+1,at3,ct3,m3,by omega,rfl,by rw[HQE.out],by go_num,HNEW.out⟩
  ·obtain rfl:k=n:=by omega
   have hki:¬(k:Int)<(k:Int):=by omega
   have r0:Y.cell? ⟨w.heap.size,0,none⟩=some (.slice none 0 0):=HRY.out.cell 0 (by simp)
   have rf:=HRY.out.frozen 0
   have rl:=HRY.out.lt
   have HRES:Hid (SesssAt w.heap.size (Y.setCell ⟨w.heap.size,0,none⟩ (.slice ak mk ck)) (.slice ak mk ck) (drTable cs)∧Below w.heap.size w (Y.setCell ⟨w.heap.size,0,none⟩ (.slice ak mk ck))):=by
    obtain⟨ps,h,he⟩:=HTE.out
    refine⟨?_,HBY.out.setCell (p:=⟨w.heap.size,0,none⟩) (leR _) _⟩
    rw[HFIN.out]
    exact((h.low (by omega)).setBox HRY.out _).reads he (by have:=((tblB_iff _).1 (drTb_tbl cs k)).1;omega)
   obtain⟨pk,hpk⟩:∃q,(drTb cs k).2=q:=⟨_,rfl⟩
   rw[hpk]
   clear hpk
   go_wp2_with fail
   exact bodyPost_ret (v:=.agg #[.slice ak mk ck]) (by simp[results,Tryz.results17,go_sem,r0,rl]) rfl ⟨_,rfl,HRES.out.1,HRES.out.2⟩
def apH (cs:List UInt8):Nat:=tk cs 0 24
def apX (cs:List UInt8):Nat:=tk cs 1 32
def apT1 (cs:List UInt8):List Sess:=if 20≤apH cs∧apH cs<22 then fullT (apX cs) else drTable cs
def apZ (cs:List UInt8):Nat:=drChQ cs 2 (apT1 cs)
def apC1 (cs:List UInt8):Chg:=if apH cs=20 then ⟨1,((apX cs % 4:Nat):Int),fS (apX cs % 20),⟨#[]⟩,1,[],0⟩ else drCh cs 2 (apT1 cs)
def apT2 (cs:List UInt8):List Sess:=if apH cs=22 then spoilT (tk cs (apZ cs) 9) (tk cs (apZ cs+1) (apT1 cs).length) (apT1 cs) else apT1 cs
def mS:Sess:=⟨0,⟨#[109]⟩,⟨#[]⟩,1,1,List.replicate 199 ⟨#[114]⟩,0⟩
def mC (x:Nat):Chg:=⟨2,0,⟨#[109]⟩,⟨#[]⟩,0,([⟨#[120]⟩,⟨#[121]⟩]:List ByteArray).take (1+x % 2),0⟩
def apT (cs:List UInt8):List Sess:=if apH cs=23∧0<(apT2 cs).length then [mS] else apT2 cs
def apC (cs:List UInt8):Chg:=if apH cs=23∧0<(apT2 cs).length then mC (apX cs) else apC1 cs
theorem apX_lt (cs:List UInt8):apX cs<32:=tk_lt cs 1 32 (by decide)
theorem apH_lt (cs:List UInt8):apH cs<24:=tk_lt cs 0 24 (by decide)
theorem apZ_le (cs:List UInt8):apZ cs≤18:=drChQ_le cs 2 (apT1 cs)
theorem fullT_len (d:Nat):(fullT d).length=16:=by unfold fullT;rw[List.length_map,List.length_range]
theorem fullT_sm (d:Nat):∀s∈fullT d,SmS s∧s.rows.length≤200:=fun s hs=>by
 unfold fullT at hs
 obtain⟨i,hi,rfl⟩:=List.mem_map.1 hs
 have hi':=List.mem_range.1 hi
 refine⟨fullS_sm d i (by omega),?_⟩
 unfold fullS
 split
 ·exact zrL _
 ·show ([⟨#[97]⟩,⟨#[98]⟩]:List ByteArray).length≤200;decide
theorem tbl_sm2 {xs:List Sess} (h:tblB xs=true):∀s∈xs,SmS s∧s.rows.length≤200:=fun s hs=>by
 refine⟨(tbl_sm h).2 s hs,?_⟩
 have h1:=((tblB_iff xs).1 h).2.1 s hs
 unfold sessB at h1
 simp only[Bool.and_eq_true] at h1
 exact(rowsB_size h1.1.2.2.2.2).1
theorem apT1_ok (cs:List UInt8):(apT1 cs).length≤16∧∀s∈apT1 cs,SmS s∧s.rows.length≤200:=by
 unfold apT1
 split
 ·exact⟨by rw[fullT_len];exact leR _,fullT_sm _⟩
 ·exact⟨((tblB_iff _).1 (drTable_tbl cs)).1,tbl_sm2 (drTable_tbl cs)⟩
def Apart (n BT BC:Nat) (X Y:World):Prop:=X.heap.size≤Y.heap.size∧∀d,d<X.heap.size→n+2≤d→d≠BT→d≠BC→Y.heap[d]?=X.heap[d]?
theorem Apart.refl (n BT BC:Nat) (X:World):Apart n BT BC X X:=⟨leR _,fun _ _ _ _ _=>rfl⟩
theorem Apart.trans {n BT BC:Nat} {X Y Z:World} (h:Apart n BT BC X Y) (h2:Apart n BT BC Y Z):Apart n BT BC X Z :=
 ⟨Nat.le_trans h.1 h2.1,fun d hd h3 h4 h5=>(h2.2 d (Nat.lt_of_lt_of_le hd h.1) h3 h4 h5).trans (h.2 d hd h3 h4 h5)⟩
theorem Apart.below {n BT BC:Nat} {X Y:World} (h:Below X.heap.size X Y):Apart n BT BC X Y:=⟨h.size,fun d hd _ _ _=>h.block d hd⟩
theorem Apart.set {n BT BC b o:Nat} {X:World} (hb:b=BT∨b=BC∨b<n+2) (x:Value):Apart n BT BC X (X.setCell ⟨b,o,none⟩ x) :=
 ⟨by rw[Deep.nblk_setCell];exact leR _,fun d _ h1 h2 h3=>Deep.blk_setCell_other _ ⟨b,o,none⟩ _ d (by dsimp only;rcases hb with rfl|rfl|hb;exact h2;exact h3;omega)⟩
theorem Apart.of {n BT BC b:Nat} {X Y:World} (hb:b=BT∨b=BC∨b<n+2) (hs:X.heap.size≤Y.heap.size) (h:∀d,d≠b→Y.heap[d]?=X.heap[d]?):Apart n BT BC X Y :=
 ⟨hs,fun d _ h1 h2 h3=>h d (by rcases hb with rfl|rfl|hb;exact h2;exact h3;omega)⟩
def TS (n BT BC:Nat) (X:World) (tv:Value) (xs:List Sess):Prop:=∀Y,Apart n BT BC X Y→SesssAt (n+2) Y tv xs
def RS (n BT BC:Nat) (X:World) (u:Value) (rs:List ByteArray):Prop:=∀Y,Apart n BT BC X Y→StrsAt (n+2) Y u rs
section
variable {n BT BC:Nat} {V X Y:World} {tv u:Value} {xs:List Sess} {rs:List ByteArray}
theorem TS.turn (h:TS n BT BC X tv xs) (hY:Apart n BT BC X Y):TS n BT BC Y tv xs:=fun Z hZ=>h Z (hY.trans hZ)
theorem RS.turn (h:RS n BT BC X u rs) (hY:Apart n BT BC X Y):RS n BT BC Y u rs:=fun Z hZ=>h Z (hY.trans hZ)
theorem TS.old {L:Nat} (h:SesssAt L V tv xs) (hL:n+2≤L) (h1:V.heap.size≤BT) (h2:V.heap.size≤BC) (hb:Below V.heap.size V X):TS n BT BC X tv xs:=fun Y hY =>
 At.mono mono_sess (At.same kept_sess h ⟨Nat.le_trans hb.size hY.1,fun d h3 h4=>(hY.2 d (Nat.lt_of_lt_of_le h4 hb.size) (by omega) (by omega) (by omega)).trans (hb.block d h4)⟩) hL
theorem RS.old {L:Nat} (h:StrsAt L V u rs) (hL:n+2≤L) (h1:V.heap.size≤BC) (h2:BT<L) (hb:Below V.heap.size V X):RS n BT BC X u rs:=fun Y hY =>
 At.mono mono_str (At.same kept_str h ⟨Nat.le_trans hb.size hY.1,fun d h3 h4=>(hY.2 d (Nat.lt_of_lt_of_le h4 hb.size) (by omega) (by omega) (by omega)).trans (hb.block d h4)⟩) hL
theorem TS.new {L:Nat} (h:SesssAt L X tv xs) (hL:n+2≤L) (h1:BT<L) (h2:BC<L):TS n BT BC X tv xs:=fun Y hY =>
 At.mono mono_sess (At.same kept_sess h ⟨hY.1,fun d h3 h4=>hY.2 d h4 (by omega) (by omega) (by omega)⟩) hL
theorem RS.new {L:Nat} (h:StrsAt L X u rs) (hL:n+2≤L) (h1:BT<L) (h2:BC<L):RS n BT BC X u rs:=fun Y hY =>
 At.mono mono_str (At.same kept_str h ⟨hY.1,fun d h3 h4=>hY.2 d h4 (by omega) (by omega) (by omega)⟩) hL
theorem RS.none:RS n BT BC X (.slice none 0 0) []:=fun _ _=>⟨by simp,.inl ⟨_,_,rfl,rfl⟩⟩
theorem TS.mid {L:Nat} (h:SesssAt L V tv xs) (hL:n+2≤L) (h1:BT<L) (h2:V.heap.size≤BC) (hb:∀d,d<V.heap.size→d≠BT→X.heap[d]?=V.heap[d]?) (hs:V.heap.size≤X.heap.size):TS n BT BC X tv xs:=fun Y hY =>
 At.mono mono_sess (At.same kept_sess h ⟨Nat.le_trans hs hY.1,fun d h3 h4=>(hY.2 d (Nat.lt_of_lt_of_le h4 hs) (by omega) (by omega) (by omega)).trans (hb d h4 (by omega))⟩) hL
end
structure AP (w:World) (BT BC:Nat) (tv:Value) (xs:List Sess) (c:Chg) (cv:Value) (X:World):Prop where
 resT:Box X w.heap.size 25 #[.slice none 0 0]
 resC:Box X (w.heap.size+1) 28 cgZ
 bt:Box X BT 25 #[tv]
 bc:Box X BC 28 (cgC c cv)
 st:TS w.heap.size BT BC X tv xs
 sr:RS w.heap.size BT BC X cv c.rows
 bel:Below w.heap.size w X
 lt:w.heap.size+2≤BT
 ltc:BT<BC
section
variable {w X Y:World} {BT BC:Nat} {tv:Value} {xs:List Sess} {c:Chg} {cv:Value}
theorem AP.below (h:AP w BT BC tv xs c cv X) (hb:Below X.heap.size X Y):AP w BT BC tv xs c cv Y :=
 ⟨h.resT.below hb,h.resC.below hb,h.bt.below hb,h.bc.below hb,h.st.turn (Apart.below hb),h.sr.turn (Apart.below hb),bjoin hb h.bel,h.lt,h.ltc⟩
theorem AP.setT (h:AP w BT BC tv xs c cv X) {tv':Value} {xs':List Sess} {L:Nat} (ht:SesssAt L X tv' xs') (hL:BC<L):AP w BT BC tv' xs' c cv (X.setCell ⟨BT,0,none⟩ tv'):=by
 have h1:=h.lt
 have h2:=h.ltc
 exact⟨h.resT.other (by simp;omega) _,h.resC.other (by simp;omega) _,by have:=h.bt.set 0 tv';simpa using this,h.bc.other (by simp;omega) _,(TS.new ht (by omega) (by omega) hL).turn (Apart.set (.inl rfl) _),h.sr.turn (Apart.set (.inl rfl) _),h.bel.setCell (p:=⟨BT,0,none⟩) (by show w.heap.size≤BT;omega) _,h1,h2⟩
theorem AP.fillC (h:AP w BT BC tv xs c cv X) (x0 x1 x2 x3 x4 x5 x6:Value) (c':Chg) (cv':Value) (e:#[x0,x1,x2,x3,x4,x5,x6]=cgC c' cv') (hr:RS w.heap.size BT BC X cv' c'.rows) :
  AP w BT BC tv xs c' cv' (((((((X.setCell ⟨BC,0,none⟩ x0).setCell ⟨BC,1,none⟩ x1).setCell ⟨BC,2,none⟩ x2).setCell ⟨BC,3,none⟩ x3).setCell ⟨BC,4,none⟩ x4).setCell ⟨BC,5,none⟩ x5).setCell ⟨BC,6,none⟩ x6):=by
 have h1:=h.lt
 have h2:=h.ltc
 have hA:Apart w.heap.size BT BC X (((((((X.setCell ⟨BC,0,none⟩ x0).setCell ⟨BC,1,none⟩ x1).setCell ⟨BC,2,none⟩ x2).setCell ⟨BC,3,none⟩ x3).setCell ⟨BC,4,none⟩ x4).setCell ⟨BC,5,none⟩ x5).setCell ⟨BC,6,none⟩ x6):=Apart.of (.inr (.inl rfl)) (by simp only[Deep.nblk_setCell];exact leR _) fun d hd=>blk_fill7 X BC _ _ _ _ _ _ _ d hd
 exact⟨h.resT.keep (blk_fill7 X BC _ _ _ _ _ _ _ _ (by omega)),h.resC.keep (blk_fill7 X BC _ _ _ _ _ _ _ _ (by omega)),h.bt.keep (blk_fill7 X BC _ _ _ _ _ _ _ _ (by omega)),by rw[←e];exact Box.fill7 (show Box X BC 28 #[.int .i64 c.kind,.int .i64 c.client,.string c.tag,.string c.query,.int .i64 c.page,cv,.int .i64 c.n] from h.bc) _ _ _ _ _ _ _,h.st.turn hA,hr.turn hA,Below.fill7 h.bel (by omega) _ _ _ _ _ _ _,h1,h2⟩
end
structure MR (Y:World) (k:Nat) (v:Value) (X:World):Prop where
 box:Box X Y.heap.size 41 #[.int .i64 0,.string ⟨#[109]⟩,.string ⟨#[]⟩,.int .i64 1,.int .i64 1,v,.int .i64 0]
 row:FB tC 1 9 (Y.heap.size+1) X v (List.replicate k (⟨#[114]⟩:ByteArray))
 bel:Below Y.heap.size Y X
theorem MR.new (Y:World):MR Y 0 (.slice none 0 0) (Y.alloc (.cells #[.int .i64 0,.string ⟨#[109]⟩,.string ⟨#[]⟩,.int .i64 1,.int .i64 1,.slice none 0 0,.int .i64 0] 41)) :=
 ⟨Box.new _ _ _,FB.nil _ _ _ _ _,alcB _ _⟩
theorem MR.more {Y X:World} {k:Nat} {v:Value} (h:MR Y k v X) (hk:k≤100000) :
  ∃a' c' w',(Builtin.append_ #[26,26] 26 #[v,.slice (some ⟨X.heap.size,0,none⟩) 1 1]).run Tryz.prog (X.alloc (.cells #[.string ⟨#[114]⟩] 9))=.ok (.slice a' (k+1) c') w' ∧
   MR Y (k+1) (.slice a' (k+1) c') (w'.setCell ⟨Y.heap.size,5,none⟩ (.slice a' (k+1) c'))∧w'.cell? ⟨Y.heap.size,5,none⟩=some v∧w'.frozen? ⟨Y.heap.size,5,none⟩=false∧Y.heap.size<w'.heap.size:=by
 have hRX:Y.heap.size<X.heap.size:=h.box.lt
 obtain⟨v',Z',hr2,hF',hOn,hat⟩:=app1 (C:=tC) (c:=1) (bytes:=16) (z:=.string ByteArray.empty) Tryz.underlying26 info_string rfl (by decide) (fun _=>rfl) (fun x u hu=>by rw[List.mem_singleton.1 hu];rfl) h.row 26 (⟨#[114]⟩:ByteArray) (by omega) (by rw[List.length_replicate];omega) (by decide)
 have hown:=h.row.own
 have hRn:Y.heap.size ∉ v.ownBlock.toList:=fun hm=>by have:=(hown _ hm).1;omega
 have hBX':=h.box.only hOn hRn
 have hbel:Below Y.heap.size Y Z':=h.bel.trans (hOn.below (by omega) fun d hd=>by have:=(hown d hd).1;omega)
 obtain⟨a8,c8,e8,_,_⟩:=hF'.form
 rw[List.length_append,List.length_singleton,List.length_replicate] at e8
 subst e8
 rw[←List.replicate_succ'] at hF'
 refine⟨a8,c8,Z',hr2,⟨?_,?_,hbel.setCell (p:=⟨Y.heap.size,5,none⟩) (leR _) _⟩,hBX'.cell 5 (by simp),hBX'.frozen 5,hBX'.lt⟩
 ·have:=hBX'.set 5 (.slice a8 (k+1) c8)
  simpa using this
 ·exact hF'.keep fun b hb=>Deep.blk_setCell_other _ ⟨Y.heap.size,5,none⟩ _ b (by have:=(hF'.own b hb).1;dsimp only;omega)
theorem mS_sm:SmS mS:=⟨by show (⟨#[109]⟩:ByteArray).size≤_;decide,by show (⟨#[]⟩:ByteArray).size≤_;decide,by show (List.replicate 199 (⟨#[114]⟩:ByteArray)).length≤_;rw[List.length_replicate];decide,fun r hr=>by rw[List.eq_of_mem_replicate (show r∈List.replicate 199 (⟨#[114]⟩:ByteArray) from hr)];decide⟩
theorem MR.tbl {Y X:World} {v:Value} (h:MR Y 199 v X) :
  SesssAt (Y.heap.size+1) (X.alloc (.cells #[.int .i64 0,.string ⟨#[109]⟩,.string ⟨#[]⟩,.int .i64 1,.int .i64 1,v,.int .i64 0] 41)) (.slice (some ⟨X.heap.size,0,none⟩) 1 1) [mS]:=by
 have hlt:=h.box.lt
 have hr:FB tsC 7 41 (Y.heap.size+1) (X.alloc (.cells #[.int .i64 0,.string ⟨#[109]⟩,.string ⟨#[]⟩,.int .i64 1,.int .i64 1,v,.int .i64 0] 41)) (.slice (some ⟨X.heap.size,0,none⟩) 1 1) [(mS,v)] :=
  World.ownsRow_lit (base:=Y.heap.size+1) (e:=41) (size:=7) X #[.int .i64 0,.string ⟨#[109]⟩,.string ⟨#[]⟩,.int .i64 1,.int .i64 1,v,.int .i64 0] 1 hlt (by unfold maxLen;omega) rfl
 have hb:Below X.heap.size X (X.alloc (.cells #[.int .i64 0,.string ⟨#[109]⟩,.string ⟨#[]⟩,.int .i64 1,.int .i64 1,v,.int .i64 0] 41)):=alcB _ _
 have hT:TE (Y.heap.size+1) (X.alloc (.cells #[.int .i64 0,.string ⟨#[109]⟩,.string ⟨#[]⟩,.int .i64 1,.int .i64 1,v,.int .i64 0] 41)) (.slice (some ⟨X.heap.size,0,none⟩) 1 1) [(mS,v)] :=
  ⟨hr,fun p hp=>by rw[List.mem_singleton.1 hp];exact⟨mS_sm,h.row.below hb⟩,by
   simp only[List.map_cons,List.map_nil]
   cases e:v.ownBlock <;> simp[List.filterMap_cons,e]⟩
 exact hT.reads rfl (by simp)
theorem two_take (V:World) (s1 s2:ByteArray) (k:Nat) (hk:k=1∨k=2) (h1:s1.size≤9223372036854775807) (h2:s2.size≤9223372036854775807) :
  StrsAt V.heap.size (V.alloc (.cells #[.string s1,.string s2] 9)) (.slice (some ⟨V.heap.size,0,none⟩) k 2) ([s1,s2].take k):=by
 have hb:Box (V.alloc (.cells #[.string s1,.string s2] 9)) V.heap.size 9 #[.string s1,.string s2]:=Box.new _ _ _
 have c0:(V.alloc (.cells #[.string s1,.string s2] 9)).cell? ⟨V.heap.size,0,none⟩=some (.string s1):=hb.cell 0 (by simp)
 have c1:(V.alloc (.cells #[.string s1,.string s2] 9)).cell? ⟨V.heap.size,1,none⟩=some (.string s2):=hb.cell 1 (by simp)
 rcases hk with rfl|rfl
 ·refine⟨by simp,.inr ⟨V.heap.size,0,2,rfl,⟨leR _,hb.lt⟩,fun i hi=>?_⟩⟩
  obtain rfl:i=0:=by simp at hi;omega
  exact⟨c0,h1⟩
 ·refine⟨by simp,.inr ⟨V.heap.size,0,2,rfl,⟨leR _,hb.lt⟩,fun i hi=>?_⟩⟩
  have hi':i<2:=by simpa using hi
  rcases(by omega:i=0∨i=1) with rfl|rfl
  ·exact⟨c0,h1⟩
  ·exact⟨c1,h2⟩
theorem dec_enc {c:Chg} (h:chgB c=true):decS (encB c)=some c:=by
 unfold decS
 have e:(encB c).data.toList=encL c:=by unfold encB;rw[if_pos h]
 rw[e,cut_enc h,if_neg (by unfold chgParts;simp),looseS_parts h,if_pos rfl]
theorem step_enc {xs ys:List Sess} {c:Chg} (hc:chgB c=true) (h:applyP xs c=(ys,0)):stepR xs (encB c)=some ys:=by
 rw[stepR_good (dec_enc hc) (by rw[h]),h]
theorem runF_app:∀(ts us:List ByteArray) (xs ys:List Sess),runF xs ts=some ys→runF xs (ts++us)=runF ys us
 | [],us,xs,ys,h=>by
  injection h with h
  subst h
  rfl
 | u :: ts,us,xs,ys,h=>by
  unfold runF at h
  show (match stepR xs u with|some ys=>runF ys (ts++us)|none=>none)=_
  cases e:stepR xs u with
  | none=>rw[e] at h;cases h
  | some zs=>rw[e] at h;exact runF_app ts us zs ys h
theorem open_last {pre:List Sess} {c:Chg} (hp:tblB pre=true) (hl:pre.length<16) (hc:chgB c=true) (hk:c.kind=1) (hn:∀x∈pre,keyB c.client c.tag x=false):applyP pre c=(pre++[newS c],0):=by
 unfold applyP
 rw[if_pos ⟨hp,hc⟩,if_pos hk]
 unfold openP
 have e:pre.findIdx? (keyB c.client c.tag)=none:=by
  rw[List.findIdx?_eq_none_iff]
  exact hn
 rw[e]
 dsimp only
 unfold openFin
 have er:roomP pre=pre:=by unfold roomP;rw[if_pos hl]
 rw[er,if_neg (by omega)]
theorem step_last {pre:List Sess} {x x':Sess} {c:Chg} (hx:tblB (pre++[x])=true) (hc:chgB c=true) (hk:c.kind≠1) (h1:c.client=x.client) (h2:c.tag=x.tag) (hs:stepS x c=.ok x'):applyP (pre++[x]) c=(pre++[x'],0):=by
 have hl:pre.length<(pre++[x]).length:=by simp
 have hat:(pre++[x])[pre.length]=x:=by simp
 have hf:(pre++[x]).findIdx? (keyB c.client c.tag)=some pre.length:=by
  rw[List.findIdx?_eq_some_iff_getElem]
  refine⟨hl,(keyB_key _ _ _).2 (by rw[hat,h1,h2];rfl),fun j hj=>?_⟩
  have hj2:j<(pre++[x]).length:=by omega
  have h3:=((tblB_iff _).1 hx).2.2
  rw[List.pairwise_map,List.pairwise_iff_getElem] at h3
  have h4:=h3 j pre.length hj2 hl hj
  cases e:keyB c.client c.tag (pre++[x])[j]
  ·simp
  ·exfalso
   apply h4
   rw[(keyB_key _ _ _).1 e,hat,h1,h2]
   rfl
 unfold applyP
 rw[if_pos ⟨hx,hc⟩,if_neg hk,hf]
 dsimp only
 have hg:(pre++[x]).getD pre.length sess0=x:=by rw[List.getD_eq_getElem?_getD,List.getElem?_eq_getElem hl,hat];rfl
 rw[hg,hs]
 show ((pre++[x]).set pre.length x',(0:Int))=_
 congr 1
 rw[List.set_append_right _ _ (leR _),Nat.sub_self]
 rfl
theorem run_one {xs ys:List Sess} {c:Chg} (hc:chgB c=true) (h:applyP xs c=(ys,0)):runF xs [encB c]=some ys:=by
 show (match stepR xs (encB c) with|some ys=>runF ys []|none=>none)=_
 rw[step_enc hc h]
 rfl
theorem sess_parts {s:Sess} (h:sessB s=true):clientB s.client=true∧tagB s.tag=true∧textB s.query=true∧pageB s.page=true∧rowsB s.rows 200=true∧stateB s=true:=by
 unfold sessB at h
 simp only[Bool.and_eq_true] at h
 exact⟨h.1.1,h.1.2.1,h.1.2.2.1,h.1.2.2.2.1,h.1.2.2.2.2,h.2⟩
theorem chO_ok {s:Sess} (h:sessB s=true):chgB (chO s)=true:=by
 obtain⟨a1,a2,a3,a4,_,_⟩:=sess_parts h
 unfold chgB chO kindB
 simp only[Bool.and_eq_true]
 exact⟨⟨a1,a2⟩,by rw[if_pos trivial];simp only[Bool.and_eq_true];exact⟨⟨a3,a4⟩,by first|rfl|decide,by first|rfl|decide⟩⟩
theorem chR_ok {s:Sess} (h:sessB s=true):chgB (chR s)=true:=by
 obtain⟨a1,a2,_,_,a5,_⟩:=sess_parts h
 unfold chgB chR kindB
 simp only[Bool.and_eq_true]
 exact⟨⟨a1,a2⟩,by rw[if_neg (by decide),if_pos trivial];simp only[Bool.and_eq_true];exact⟨a5,by first|rfl|decide,by first|rfl|decide⟩⟩
theorem chC_ok {s:Sess} (h:sessB s=true) (h0:0≤s.cursor) (h2:s.cursor≤200):chgB (chC s)=true:=by
 obtain⟨a1,a2,_,_,a5,_⟩:=sess_parts h
 unfold chgB chC kindB
 simp only[Bool.and_eq_true]
 exact⟨⟨a1,a2⟩,by rw[if_neg (by decide),if_neg (by decide),if_pos trivial];simp only[Bool.and_eq_true];exact⟨by unfold cursorB;simp only[Bool.and_eq_true,decide_eq_true_eq];exact⟨h0,h2⟩,by first|rfl|decide,by first|rfl|decide⟩⟩
theorem ch0_ok {s:Sess} (h:sessB s=true) {k:Int} (hk:k=3∨k=5∨k=6):chgB (ch0 k s)=true:=by
 obtain⟨a1,a2,_,_,a5,_⟩:=sess_parts h
 unfold chgB ch0 kindB
 simp only[Bool.and_eq_true]
 refine⟨⟨a1,a2⟩,?_⟩
 rw[if_neg (by rcases hk with rfl|rfl|rfl <;> decide),if_neg (by rcases hk with rfl|rfl|rfl <;> decide),if_neg (by rcases hk with rfl|rfl|rfl <;> decide),if_pos hk]
 simp only[Bool.and_eq_true]
 exact⟨by first|rfl|decide,by first|rfl|decide,by first|rfl|decide⟩
theorem rows_le {s:Sess} (h:sessB s=true):s.rows.length≤200:=(rowsB_size (sess_parts h).2.2.2.2.1).1
theorem run_pS1 {pre:List Sess} {s:Sess} (hp:tblB pre=true) (hl:pre.length<16) (hs:sessB s=true) (hn:∀x∈pre,keyB s.client s.tag x=false) :
  runF pre ((pS1 s).map encB)=some (pre++[⟨s.client,s.tag,s.query,s.page,1,s.rows,0⟩]):=by
 have h1:=open_last hp hl (chO_ok hs) rfl hn
 have r1:=run_one (chO_ok hs) h1
 have t1:tblB (pre++[newS (chO s)])=true:=by have:=applyP_tbl pre (chO s);rw[h1] at this;exact this
 unfold pS1 pS0
 split
 ·rw[List.map_append]
  show runF pre ([encB (chO s)]++[encB (chR s)])=_
  rw[runF_app _ _ _ _ r1]
  refine run_one (chR_ok hs) (step_last t1 (chR_ok hs) (show ¬(2:Int)=1 by decide) rfl rfl ?_)
  unfold stepS
  rw[if_pos (show (chR s).kind=2 from rfl),if_pos (show (newS (chO s)).state=1 from rfl),if_neg (show ¬200<(newS (chO s)).rows.length+(chR s).rows.length from by have:=rows_le hs;show ¬200<0+s.rows.length;omega)]
  rfl
 ·have e:s.rows=[]:=List.length_eq_zero_iff.1 (by omega)
  show runF pre [encB (chO s)]=_
  rw[r1,e]
  rfl
theorem run_past {pre:List Sess} {s:Sess} (hp:tblB (pre++[s])=true):runF pre ((pastS s).map encB)=some (pre++[s]):=by
 obtain⟨b1,b2,b3⟩:=(tblB_iff _).1 hp
 have hs:sessB s=true:=b2 s (by simp)
 have hpre:tblB pre=true:=tbl_sub hp (List.sublist_append_left _ _)
 have hl:pre.length<16:=by simp at b1;omega
 have hn:∀x∈pre,keyB s.client s.tag x=false:=fun x hx=>by
  rw[List.map_append,List.pairwise_append] at b3
  have h4:=b3.2.2 (keyS x) (List.mem_map_of_mem hx) (keyS s) (by simp)
  cases e:keyB s.client s.tag x
  ·rfl
  ·exact absurd ((keyB_key _ _ _).1 e) h4
 have r1:=run_pS1 hpre hl hs hn
 have t1:tblB (pre++[⟨s.client,s.tag,s.query,s.page,1,s.rows,0⟩])=true:=runF_tbl _ _ _ hpre r1
 have hst:=(sess_parts hs).2.2.2.2.2
 unfold stateB at hst
 split at hst
 ·rename_i e1
  have ec:s.cursor=0:=by simpa using hst
  have e:pastS s=pS1 s:=by
   unfold pastS pS4 pS3 pS2
   rw[if_neg (by rw[e1];decide),if_neg (by rw[e1];decide),if_neg (by rw[ec];simp),if_neg (by rw[e1];decide)]
  rw[e,r1]
  obtain⟨_,_,_,_,_,_,_⟩:=s
  dsimp only at e1 ec ⊢
  rw[e1,ec]
 split at hst
 ·rename_i e1 e2
  simp only[Bool.and_eq_true,decide_eq_true_eq] at hst
  have hd:=step_last (c:=ch0 3 s) t1 (ch0_ok hs (.inl rfl)) (show ¬(3:Int)=1 by decide) rfl rfl (x':=⟨s.client,s.tag,s.query,s.page,2,s.rows,0⟩) (by
   simp[stepS,ch0])
  have r2:runF pre ((pS2 s).map encB)=some (pre++[⟨s.client,s.tag,s.query,s.page,2,s.rows,0⟩]):=by
   unfold pS2
   rw[if_pos e2,List.map_append,runF_app _ _ _ _ r1]
   exact run_one (ch0_ok hs (.inl rfl)) hd
  have t2:tblB (pre++[⟨s.client,s.tag,s.query,s.page,2,s.rows,0⟩])=true:=runF_tbl _ _ _ hpre r2
  have e:pastS s=pS3 s:=by
   unfold pastS pS4
   rw[if_neg (by rw[e2];decide),if_neg (by rw[e2];decide)]
  rw[e]
  unfold pS3
  split
  ·have hc9:=chC_ok hs hst.1 (by have:=rows_le hs;omega)
   rw[List.map_append,runF_app _ _ _ _ r2]
   refine run_one hc9 (step_last t2 hc9 (show ¬(4:Int)=1 by decide) rfl rfl ?_)
   have h9:¬((s.rows.length:Nat):Int)<s.cursor:=by omega
   obtain⟨_,_,_,_,_,_,_⟩:=s
   dsimp only at e2 h9
   subst e2
   simp[stepS,chC,h9]
  ·rename_i ec
   have ec:s.cursor=0:=Decidable.not_not.1 ec
   rw[r2]
   obtain⟨_,_,_,_,_,_,_⟩:=s
   dsimp only at e2 ec ⊢
   rw[e2,ec]
 split at hst
 ·rename_i e1 e2 e3
  simp only[Bool.and_eq_true,decide_eq_true_eq] at hst
  have er:s.rows=[]:=List.length_eq_zero_iff.1 hst.2
  have e0:pS3 s=pS1 s:=by
   unfold pS3 pS2
   rw[if_neg (by rw[hst.1];simp),if_neg e2]
  rcases e3 with e3|e3
  ·have e:pastS s=pS1 s++[ch0 5 s]:=by
    unfold pastS pS4
    rw[if_neg (by rw[e3];decide),if_pos e3,e0]
   rw[e,List.map_append,runF_app _ _ _ _ r1]
   refine run_one (ch0_ok hs (.inr (.inl rfl))) (step_last t1 (ch0_ok hs (.inr (.inl rfl))) (show ¬(5:Int)=1 by decide) rfl rfl ?_)
   obtain⟨_,_,_,_,_,_,_⟩:=s
   dsimp only at e3 er hst
   subst e3 er
   simp[stepS,ch0,hst.1]
  ·have e:pastS s=pS1 s++[ch0 6 s]:=by
    unfold pastS pS4
    rw[if_pos e3,if_neg (by rw[e3];decide),e0]
   rw[e,List.map_append,runF_app _ _ _ _ r1]
   refine run_one (ch0_ok hs (.inr (.inr rfl))) (step_last t1 (ch0_ok hs (.inr (.inr rfl))) (show ¬(6:Int)=1 by decide) rfl rfl ?_)
   obtain⟨_,_,_,_,_,_,_⟩:=s
   dsimp only at e3 er hst
   subst e3 er
   simp[stepS,ch0,liveB,hst.1]
 ·cases hst
def allC (xs:List Sess):List Chg:=xs.flatMap pastS
theorem run_all {xs:List Sess} (h:tblB xs=true):∀k,k≤xs.length→runF [] ((allC (xs.take k)).map encB)=some (xs.take k)
 | 0,_=>by simp[allC,runF]
 | k+1,hk=>by
  have ih:=run_all h k (by omega)
  rw[List.take_succ_eq_append_getElem (by omega)]
  unfold allC at *
  rw[List.flatMap_append,List.map_append,runF_app _ _ _ _ ih]
  rw[show List.flatMap pastS [xs[k]]=pastS xs[k] by simp]
  refine run_past ?_
  rw[←List.take_succ_eq_append_getElem (by omega)]
  exact tbl_sub h (List.take_sublist _ _)
theorem recC_eq (c:Chg):recC c=recL (encB c).data.toList:=by
 unfold recC recB
 rw[if_pos (encB_size c)]
theorem snapL_img (cs:List Chg):snapL cs=imgL (cs.map fun c=>(encB c).data.toList):=by
 unfold snapL imgL
 rw[List.flatMap_map,List.flatMap_def]
 congr 1
 exact List.map_congr_left fun c _=>recC_eq c
theorem outL_img (xs:List Sess):outL xs=imgL ((allC xs).map fun c=>(encB c).data.toList):=by
 induction xs with
 | nil=>rfl
 | cons s t ih =>
  unfold outL allC at *
  rw[List.map_cons,List.flatten_cons,ih,snapL_img,List.flatMap_cons,List.map_append]
  unfold imgL
  rw[List.flatMap_append]
theorem recs_snap (cs:List Chg) {img:ByteArray} (h:img.data.toList=imgL (cs.map fun c=>(encB c).data.toList)):(recsA img).map (·.1)=cs.map encB:=by
 rw[recsA_img h (fun t ht=>by obtain⟨c,_,rfl⟩:=List.mem_map.1 ht;have:=encB_size c;simpa using this),List.map_map]
 apply List.ext_getElem
 ·simp
 ·intro i h1 h2
  simp only[List.getElem_map,List.getElem_range,Function.comp,recAt]
  have hi:i<cs.length:=by simpa using h2
  simp[List.getD_eq_getElem?_getD,hi]
theorem recov_snap {xs:List Sess} (h:tblB xs=true):recovP (snapB xs)=failT xs:=by
 unfold recovP
 have hL:(snapB xs).data.toList=imgL ((allC xs).map fun c=>(encB c).data.toList):=by
  unfold snapB
  rw[if_pos h]
  exact outL_img xs
 rw[recs_snap _ hL]
 have:=run_all h xs.length (leR _)
 rw[List.take_length] at this
 rw[recF_all this]
theorem failS_twice (s:Sess):failS (failS s)=failS s:=by
 by_cases h:s.state=1 <;> simp[failS,h]
theorem failT_twice (xs:List Sess):failT (failT xs)=failT xs:=by
 unfold failT
 rw[List.map_map]
 exact List.map_congr_left fun s _=>failS_twice s
theorem recov_twice {xs:List Sess} (h:tblB xs=true):recovP (snapB (failT xs))=failT xs:=by rw[recov_snap (failT_tbl h),failT_twice]
theorem enc_le (c:Chg):(encB c).size≤40803∧(c.kind≠2→(encB c).size≤1005):=by
 unfold encB
 split
 ·rename_i h
  obtain⟨h1,h2⟩:=parts_short h
  have hl:=lens_le 200 _ h2
  have e:(⟨(encL c).toArray⟩:ByteArray).size=(encL c).length:=by show (encL c).toArray.size=_;simp
  rw[e]
  have h5:(encL c).length≤(chgParts c).length * 201:=by
   unfold encL
   unfold chgParts at *
   rw[Lib.join_length]
   simp only[List.length_cons,List.length_nil] at *
   omega
  refine⟨by omega,fun hk=>?_⟩
  have h6:(chgParts c).length≤5:=by
   unfold chgParts chgMore
   simp only[List.length_cons]
   split
   ·simp
   ·split <;> simp
  omega
 ·exact⟨zrL _,fun _=>zrL _⟩
theorem rec_le (c:Chg):(recC c).length≤42144∧(c.kind≠2→(recC c).length≤1056):=by
 obtain⟨h1,h2⟩:=enc_le c
 have h3:=recB_size (encB_size c)
 have h4:(recC c).length=32 * sectN (encB c).size:=by unfold recC;rw[←h3];simp
 rw[h4]
 unfold sectN
 refine⟨by omega,fun hk=>?_⟩
 have:=h2 hk
 omega
theorem past_le (s:Sess):(snapL (pastS s)).length≤47424:=by
 have a0:(snapL (pS0 s)).length≤1056:=by
  unfold pS0 snapL
  simp only[List.map_cons,List.map_nil,List.flatten_cons,List.flatten_nil,List.append_nil]
  exact(rec_le _).2 (show ¬(1:Int)=2 by decide)
 have sn:∀(l:List Chg) (c:Chg),(snapL (l++[c])).length=(snapL l).length+(recC c).length:=fun l c=>by
  unfold snapL
  rw[List.map_append,List.flatten_append,List.length_append]
  simp
 have a1:(snapL (pS1 s)).length≤43200:=by
  unfold pS1
  split
  ·rw[sn];have:=(rec_le (chR s)).1;omega
  ·omega
 have a2:(snapL (pS2 s)).length≤44256:=by
  unfold pS2
  split
  ·rw[sn];have:=(rec_le (ch0 3 s)).2 (show ¬(3:Int)=2 by decide);omega
  ·omega
 have a3:(snapL (pS3 s)).length≤45312:=by
  unfold pS3
  split
  ·rw[sn];have:=(rec_le (chC s)).2 (show ¬(4:Int)=2 by decide);omega
  ·omega
 have a4:(snapL (pS4 s)).length≤46368:=by
  unfold pS4
  split
  ·rw[sn];have:=(rec_le (ch0 5 s)).2 (show ¬(5:Int)=2 by decide);omega
  ·omega
 unfold pastS
 split
 ·rw[sn];have:=(rec_le (ch0 6 s)).2 (show ¬(6:Int)=2 by decide);omega
 ·omega
theorem out_le:∀xs:List Sess,(outL xs).length≤xs.length * 47424
 | []=>by simp[outL]
 | s :: t=>by
  have h:=out_le t
  have h2:=past_le s
  unfold outL at *
  simp only[List.map_cons,List.flatten_cons,List.length_append,List.length_cons,Nat.add_mul]
  omega
theorem snap_le (xs:List Sess):(snapB xs).size≤1048576:=by
 unfold snapB
 split
 ·rename_i h
  have h1:=((tblB_iff xs).1 h).1
  have h2:=out_le xs
  show (outL xs).toArray.size≤1048576
  simp only[List.size_toArray]
  omega
 ·exact zrL _
theorem snap_tbl {xs:List Sess} (h:(snapB xs).size≠0):tblB xs=true:=by
 unfold snapB at h
 split at h
 ·assumption
 ·exact absurd rfl h
theorem choose_list {α:Type} {p:Nat→α→Prop}:∀(n:Nat),(∀i,i<n→∃x,p i x)→∃xs:List α,xs.length=n∧∀i (h:i<xs.length),p i xs[i]
 | 0,_=>⟨[],rfl,fun i h=>absurd h (by simp)⟩
 | n+1,h=>by
  obtain⟨xs,hl,hx⟩:=choose_list n fun i hi=>h i (by omega)
  obtain⟨y,hy⟩:=h n (by omega)
  refine⟨xs++[y],by simp[hl],fun i hi=>?_⟩
  by_cases e:i<xs.length
  ·rw[List.getElem_append_left e];exact hx i e
  ·have e2:i=xs.length:=by simp at hi;omega
   subst e2
   rw[List.getElem_append_right (leR _)]
   simpa [hl] using hy
theorem add_none (b off k:Nat):(⟨b,off,none⟩:Addr).add k=⟨b,off+k,none⟩:=by
 unfold Addr.add
 split <;> simp_all
theorem open_at {H:Type} {enc:TypeId × Value→H} {P:Program} {w:World} {spare:Nat→Bool} {held:Bool} {t e:TypeId} {fuel:Nat} {cs:List Value} {x:DataW H × List MemPlace}
  {α:Type} {n:Nat} {R:Nat→World→Nat→Nat→α→Prop} (hn:0<n) (ht:P.underlying t=some (.slice e)) (hc:P.cellsOf e=n)
  (hR:∀(cs':List Value) (y:DataW H × List MemPlace) (m b off:Nat),DataW.trod enc P w 0 spare held m e cs'=some y→(∀j,j<n→w.cell? ⟨b,off+j,none⟩=cs'[j]?)→∃z:α,R 0 w b off z)
  (h:DataW.trod enc P w 0 spare held fuel t cs=some x):∃v xs,cs=[v]∧At n R 0 w v xs:=by
 rcases Deep.open_slice ht h with⟨rfl,_⟩|⟨a,len,cap,m,k,D,Pl,rfl,_,h1,h2,hm,_,hel⟩
 ·exact⟨_,[],rfl,by simp,.inl ⟨_,_,rfl,rfl⟩⟩
 ·by_cases h0:len=0
  ·subst h0
   exact⟨_,[],rfl,by simp,.inl ⟨_,_,rfl,rfl⟩⟩
  ·have hlm:len≤m:=by rw[hm];split <;> omega
   obtain⟨b,off,spot⟩:=a
   obtain⟨c0,g0,_⟩:=hel 0 (by omega)
   rw[hc] at g0
   obtain⟨_,l0,k0⟩:=World.cells?_some g0
   have hb:=World.cells?_block g0 hn
   have hspot:spot=none:=by
    have:=k0 0 hn
    cases hv:c0[0]? with
    | none=>rw[List.getElem?_eq_none_iff] at hv;omega
    | some v =>
     rw[hv] at this
     simpa [Addr.add] using World.cell?_spot this
   subst hspot
   obtain⟨xs,hl,hx⟩:=choose_list (p:=fun i z=>R 0 w b (off+i * n) z) len fun i hi=>by
    obtain⟨cs',g1,g2⟩:=hel i (by omega)
    rw[hc] at g1
    obtain⟨_,l1,k1⟩:=World.cells?_some g1
    exact hR cs' _ _ b (off+i * n) g2 fun j hj=>by have:=k1 j hj;rw[add_none,add_none] at this;exact this
   subst hl
   refine⟨_,xs,rfl,?_,.inr ⟨b,off,cap,rfl,⟨zrL _,by simpa [Addr.add] using hb⟩,hx⟩⟩
   unfold maxLen at h2
   omega
section
variable {H:Type} {enc:TypeId × Value→H} {w:World} {spare:Nat→Bool} {held:Bool}
end
end Go.Proofs.YtglcdcekkglmiaaGreatDoor.Msg
