import Derived.Test.YtglcdcekkglmiaaGreatDoorG25
namespace Go.Proofs.YtglcdcekkglmiaaGreatDoor.Msg
open Go.ChangeShapes Go.WideShapes Go.ChangeAt Go.RowKit
set_option linter.unusedVariables false
set_option linter.unusedSimpArgs false
def opP (xs:List Sess) (c:Chg):List Sess × Int:=match xs.findIdx? (keyB c.client c.tag) with
 | some i=>atP xs i (stepS (xs.getD i sess0) c)
 | none=>(xs,3)
def StPost (base:Nat) (w:World) (K M nm:Nat) (S:Nat→Prop) (R:List Sess × Int) (e:Ending) (w':World):Prop:=∃code,e=.returned (.int .i64 code)∧(∃ov n' ps bs,BK base w' K M ov n' ps bs∧(ps.map Prod.fst,code)=R∧n'≤nm+1∧Ft S w (BIn K M ov ps bs) w')∧Below base w w'
theorem Ft.sess {K M:Nat} {ov u:Value} {ps:List (Sess × Value)} {bs:List Nat} {w W3 Y:World} {i:Nat} {s:Sess} (hb:Below w.heap.size w W3) (hib:i<bs.length) (hip:i<ps.length) (hY:∀d,d<W3.heap.size→d≠bs[i]→ps[i].2.ownBlock≠some d→Y.heap[d]?=W3.heap[d]?) (hs:W3.heap.size≤Y.heap.size)
  (hu:∀d,u.ownBlock=some d→ps[i].2.ownBlock=some d∨w.heap.size≤d):Ft (BIn K M ov ps bs) w (BIn K M ov (ps.set i (s,u)) bs) Y:=by
 refine⟨Nat.le_trans hb.size hs,fun d hd hn=>?_,fun d hd=>?_⟩
 ·rw[hY d (Nat.lt_of_lt_of_le hd hb.size) (fun e=>hn (.inr (.inr (.inr (.inl (by rw[e];exact List.getElem_mem hib)))))) (fun e=>hn (.inr (.inr (.inr (.inr ⟨ps[i],List.getElem_mem hip,e⟩)))))]
  exact hb.block d hd
 ·rcases hd with h|h|h|h|⟨p,hp,h⟩
  ·exact .inl (.inl h)
  ·exact .inl (.inr (.inl h))
  ·exact .inl (.inr (.inr (.inl h)))
  ·exact .inl (.inr (.inr (.inr (.inl h))))
  ·rcases List.mem_or_eq_of_mem_set hp with hp|rfl
   ·exact .inl (.inr (.inr (.inr (.inr ⟨p,hp,h⟩))))
   ·rcases hu d h with h1|h1
    ·exact .inl (.inr (.inr (.inr (.inr ⟨ps[i],List.getElem_mem hip,h1⟩))))
    ·exact .inr h1
set_option maxHeartbeats 2000000 in
theorem end_any (b:Nat) (st c0 c3 c4 c6:Int) (t1 t2:ByteArray) (u:Value) (w:World) (hB:Box w b 41 #[.int .i64 c0,.string t1,.string t2,.int .i64 c3,.int .i64 c4,u,.int .i64 c6]) :
  Calls Tryz.prog 44 #[.pointer (some ⟨b,0,none⟩),.int .i64 st] w fun e w'=>e=.returned (.tuple #[])∧w'=((w.setCell ⟨b,4,none⟩ (.int .i64 st)).setCell ⟨b,5,none⟩ (.slice none 0 0)).setCell ⟨b,6,none⟩ (.int .i64 0):=by
 have d4:w.cell? ⟨b,4,none⟩=some (.int .i64 c4):=hB.cell 4 (by simp)
 have d5:w.cell? ⟨b,5,none⟩=some u:=hB.cell 5 (by simp)
 have d6:w.cell? ⟨b,6,none⟩=some (.int .i64 c6):=hB.cell 6 (by simp)
 have e4:=hB.frozen 4
 have e5:=hB.frozen 5
 have e6:=hB.frozen 6
 have el:=hB.lt
 clear hB
 have hres:∀(tmps:Array Value) (W:World),(results Tryz.f44 tmps).run Tryz.prog W=.ok (.tuple #[]) W:=fun tmps W=>by simp[results,Tryz.results44,go_sem]
 go_enter Tryz.func44,Tryz.ntmps44
 go_wp2_with fail
 first
 | exact bodyPost_end (hres _ _) rfl ⟨rfl,rfl⟩
 | (refine bodyPost_end (hres _ _) rfl ?_;exact⟨rfl,rfl⟩)
set_option maxRecDepth 100000 in
set_option maxHeartbeats 8000000 in
theorem finish_any {base:Nat} {w:World} {K M:Nat} {ov:Value} {nm:Nat} {ps:List (Sess × Value)} {bs:List Nat} (h:BK base w K M ov nm ps bs) (hbase:base≤w.heap.size) (c:Chg) (hk:c.kind=3) (hc:(Lit.int .i64 c.client).wf=true) (ht:c.tag.size≤9223372036854775807) (au:Option Addr) (nu cu:Nat) :
  Calls Tryz.prog 67 #[.pointer (some ⟨K,0,none⟩),chgV c (.slice au nu cu)] w (StPost base w K M nm (BIn K M ov ps bs) (opP (ps.map Prod.fst) c)):=by
 have HH:=hide h
 obtain⟨R,hR⟩:∃R,opP (ps.map Prod.fst) c=R:=⟨_,rfl⟩
 have HR:=hide hR
 rw[hR]
 unfold opP at HR
 obtain⟨x1,hx1⟩:∃x,w.alloc (Obj.cells #[.int .i64 c.kind,.int .i64 c.client,.string c.tag,.string c.query,.int .i64 c.page,.slice au nu cu,.int .i64 c.n] 28)=x:=⟨_,rfl⟩
 have b1:Below w.heap.size w x1:=by rw[←hx1];exact alcB _ _
 have HO1:Hid (Box x1 w.heap.size 28 #[.int .i64 c.kind,.int .i64 c.client,.string c.tag,.string c.query,.int .i64 c.page,.slice au nu cu,.int .i64 c.n]):=by rw[←hx1];exact Box.new _ _ _
 have HCK:=hide (ckey_any c au nu cu x1)
 obtain⟨kind,client,tag,query,page,rows,n0⟩:=c
 unfold chgV at HCK ⊢
 dsimp only at hk HR hx1 HO1 HCK hc ht ⊢
 subst hk
 have q0:x1.cell? ⟨w.heap.size,0,none⟩=some (.int .i64 3):=HO1.out.cell 0 (by simp)
 have q1:x1.cell? ⟨w.heap.size,1,none⟩=some (.int .i64 client):=HO1.out.cell 1 (by simp)
 have q2:x1.cell? ⟨w.heap.size,2,none⟩=some (.string tag):=HO1.out.cell 2 (by simp)
 have q3:x1.cell? ⟨w.heap.size,3,none⟩=some (.string query):=HO1.out.cell 3 (by simp)
 have q4:x1.cell? ⟨w.heap.size,4,none⟩=some (.int .i64 page):=HO1.out.cell 4 (by simp)
 have q5:x1.cell? ⟨w.heap.size,5,none⟩=some (.slice au nu cu):=HO1.out.cell 5 (by simp)
 have q6:x1.cell? ⟨w.heap.size,6,none⟩=some (.int .i64 n0):=HO1.out.cell 6 (by simp)
 have HB1:=hide b1
 have HX1:=hide hx1
 have HCW:=hide hc
 clear h hR hx1 b1
 go_enter Tryz.func67,Tryz.ntmps67
 go_upto_region 1 with fail
 (try rw[HX1.out])
 go_wp2_with fail
 refine HCK.out.mono ?_
 rintro e W1 ⟨rfl,hb1⟩
 obtain⟨X2,hX2⟩:∃x,W1.alloc (Obj.cells #[.int .i64 1] 3)=x:=⟨_,rfl⟩
 have b2:Below W1.heap.size W1 X2:=by rw[←hX2];exact alcB _ _
 have oX2:Box X2 W1.heap.size 3 #[.int .i64 1]:=by rw[←hX2];exact Box.new _ _ _
 have hbX:=bjoin b2 (bjoin hb1 HB1.out)
 have HBK2:=hide (HH.out.below hbX)
 have HB2:=hide hbX
 have HO2:=hide (HO1.out.below (bjoin b2 hb1))
 have hz:IntsIn X2 W1.heap.size [1]:=fun i hi=>by
  have hi':i<1:=hi
  match i,hi' with
  | 0,_=>exact oX2.cell 0 (by simp)
 have HFD:=hide (find_any HBK2.out client tag hc ht [1] W1.heap.size 1 hz oX2.lt (by decide))
 unfold keyV at HFD
 have HX2:=hide hX2
 clear hb1 b2 oX2 hbX hz q0 q1 q2 q3 q4 q5 q6 hX2
 unfold keyV
 go_wp2_with fail
 (try rw[HX2.out])
 refine HFD.out.mono ?_
 rintro e W3 ⟨rfl,hb3⟩
 have HBK3:=hide (HBK2.out.below hb3)
 have HB3:=hide (bjoin hb3 HB2.out)
 have HO3:=hide (HO2.out.below hb3)
 have HBB:Hid (Below base w W3):=(bjoin hb3 HB2.out).mono hbase
 clear hb3
 obtain⟨o,ho⟩:∃o,foundB ps bs client tag [1]=o:=⟨_,rfl⟩
 rw[ho]
 cases o with
 | none =>
  have HRE:Hid (R=(ps.map Prod.fst,3)):=by
   rcases found_none HH.out.len ho with e|⟨i,e,hn⟩
   ·have:=HR.out;rw[e] at this;exact this.symm
   ·have:=HR.out;rw[e] at this
    dsimp only at this
    rw[show stepS ((ps.map Prod.fst).getD i sess0) ⟨3,client,tag,query,page,rows,n0⟩=.error 3 from by unfold stepS;rw[if_neg (by simp),if_pos rfl,if_neg (by simpa using hn)]] at this
    exact this.symm
  have HFIN:Hid (StPost base w K M nm (BIn K M ov ps bs) R (.returned (.int .i64 3)) W3):=⟨3,rfl,⟨ov,nm,ps,bs,HBK3.out,HRE.out.symm,Nat.le_succ _,Ft.below HB3.out⟩,HBB.out⟩
  unfold outV
  clear ho
  go_wp2_with fail
  go_ret
  exact HFIN.out
 | some b =>
  obtain⟨i,hib,e1,e2,e3⟩:=found_some ho
  have hip:i<ps.length:=by rw[←HH.out.len];exact hib
  have hBs:=HBK3.out.ses i hip hib
  rw[e2] at hBs
  obtain⟨⟨⟨sc,stag,sq,sp,sst,srows,scur⟩,u⟩,hpk⟩:∃p,ps[i]=p:=⟨_,rfl⟩
  rw[hpk] at hBs
  have hgd:(ps.map Prod.fst).getD i sess0=⟨sc,stag,sq,sp,sst,srows,scur⟩:=by rw[map_getD ps i hip,hpk]
  rw[hgd] at e3
  dsimp only at e3
  have HBS:Hid (Box W3 b 41 #[.int .i64 sc,.string stag,.string sq,.int .i64 sp,.int .i64 sst,u,.int .i64 scur]):=hBs
  have hels:=HBK3.out.els ps[i] (List.getElem_mem hip)
  rw[hpk] at hels
  have HSS:=hide hels.1
  have HFU:=hide hels.2
  obtain⟨ar,cr,hu,_⟩:=hels.2.form
  dsimp only at hu
  have HBB2:Hid (base≤b):=by rw[←e2];exact HH.out.lob _ (List.getElem_mem hib)
  have HR2:=HR.out
  rw[e1] at HR2
  dsimp only at HR2
  rw[hgd] at HR2
  have HR3:=hide HR2
  have HPK:=hide hpk
  have HE2:=hide e2
  have HIP:=hide hip
  have HIB:=hide hib
  have HE3:=hide e3
  have HU:=hide hu
  have d4:W3.cell? ⟨b,4,none⟩=some (.int .i64 sst):=HBS.out.cell 4 (by simp)
  have f4:=HBS.out.frozen 4
  have f6:=HBS.out.frozen 6
  have d6:W3.cell? ⟨b,6,none⟩=some (.int .i64 scur):=HBS.out.cell 6 (by simp)
  have d5:W3.cell? ⟨b,5,none⟩=some (.slice ar srows.length cr):=by rw[←hu];exact HBS.out.cell 5 (by simp)
  have bl:=HBS.out.lt
  have q6:W3.cell? ⟨w.heap.size,6,none⟩=some (.int .i64 n0):=HO3.out.cell 6 (by simp)
  have HPUT:Hid (∀(Y:World) (s:Sess) (u':Value),s.client=sc→s.tag=stag→SmS s→(∀d,d≠b→Y.heap[d]?=W3.heap[d]?)→Box Y b 41 (tsC (s,u')).toArray→(u'=u∧s.rows=srows∨u'=.slice none 0 0∧s.rows=[])→BK base Y K M ov nm (ps.set i (s,u')) bs):=fun Y s u' h1 h2 h3 h4 h5 h6=>by
   refine HBK3.out.put HIP.out HIB.out s u' (by rw[HPK.out];exact h1) (by rw[HPK.out];exact h2) h3 (fun d _ hd _=>h4 d (by rw[HE2.out] at hd;exact hd)) (by rw[HE2.out];exact h5) ?_ ?_
   ·rcases h6 with⟨r1,r2⟩|⟨r1,r2⟩
    ·rw[r1,r2]
     exact HFU.out.keep fun d hd=>h4 d fun e=>by
      obtain⟨cs2,e4⟩:=HFU.out.blk (b:=d) (by simpa using hd)
      exact blk_ne e4 (show W3.heap[b]?=some (.cells _ 41 (0,0)) from HBS.out) (by decide) e
    ·rw[r1,r2]
     exact FB.nil _ _ _ _ _
   ·intro d hd
    rcases h6 with⟨r1,_⟩|⟨r1,_⟩
    ·rw[HPK.out];rw[r1] at hd;exact .inl hd
    ·rw[r1] at hd;simp[Value.ownBlock] at hd
  unfold outV
  clear ho hBs hgd hels HR2 hpk e1 e2 e3 hu
  have hst:sst=1:=by have:=HE3.out;simpa using this
  obtain⟨Y,hY⟩:∃x,W3.setCell ⟨b,4,none⟩ (.int .i64 2)=x:=⟨_,rfl⟩
  have HRE:Hid (R=((ps.map Prod.fst).set i ⟨sc,stag,sq,sp,2,srows,scur⟩,0)):=by
   have:=HR3.out
   rw[show stepS ⟨sc,stag,sq,sp,sst,srows,scur⟩ ⟨3,client,tag,query,page,rows,n0⟩=.ok ⟨sc,stag,sq,sp,2,srows,scur⟩ from by unfold stepS;rw[if_neg (by simp),if_pos rfl,if_pos hst]] at this
   exact this.symm
  have HFIN:Hid (StPost base w K M nm (BIn K M ov ps bs) R (.returned (.int .i64 0)) Y):=by
   refine⟨0,rfl,⟨ov,nm,ps.set i (⟨sc,stag,sq,sp,2,srows,scur⟩,u),bs,HPUT.out Y _ u rfl rfl HSS.out (fun d hd=>by rw[←hY];exact Deep.blk_setCell_other _ ⟨b,4,none⟩ _ d (by dsimp only;exact hd)) (by rw[←hY];have:=HBS.out.set 4 (.int .i64 2);simpa [tsC] using this) (.inl ⟨rfl,rfl⟩),by rw[HRE.out,List.map_set],Nat.le_succ _,Ft.sess HB3.out HIB.out HIP.out (fun d _ hd _=>by rw[←hY];exact Deep.blk_setCell_other _ ⟨b,4,none⟩ _ d (by dsimp only;rw[HE2.out] at hd;exact hd)) (by rw[←hY,Deep.nblk_setCell];exact leR _) (fun d hd=>.inl (by rw[HPK.out];exact hd))⟩,?_⟩
   rw[←hY]
   exact HBB.out.setCell (p:=⟨b,4,none⟩) HBB2.out _
  have HYE:=hide hY
  clear hY hst
  go_wp2_with fail
  (try rw[HYE.out])
  go_ret
  exact HFIN.out
set_option maxRecDepth 100000 in
set_option maxHeartbeats 8000000 in
theorem fail_any {base:Nat} {w:World} {K M:Nat} {ov:Value} {nm:Nat} {ps:List (Sess × Value)} {bs:List Nat} (h:BK base w K M ov nm ps bs) (hbase:base≤w.heap.size) (c:Chg) (hk:c.kind=5) (hc:(Lit.int .i64 c.client).wf=true) (ht:c.tag.size≤9223372036854775807) (au:Option Addr) (nu cu:Nat) :
  Calls Tryz.prog 69 #[.pointer (some ⟨K,0,none⟩),chgV c (.slice au nu cu)] w (StPost base w K M nm (BIn K M ov ps bs) (opP (ps.map Prod.fst) c)):=by
 have HH:=hide h
 obtain⟨R,hR⟩:∃R,opP (ps.map Prod.fst) c=R:=⟨_,rfl⟩
 have HR:=hide hR
 rw[hR]
 unfold opP at HR
 obtain⟨x1,hx1⟩:∃x,w.alloc (Obj.cells #[.int .i64 c.kind,.int .i64 c.client,.string c.tag,.string c.query,.int .i64 c.page,.slice au nu cu,.int .i64 c.n] 28)=x:=⟨_,rfl⟩
 have b1:Below w.heap.size w x1:=by rw[←hx1];exact alcB _ _
 have HO1:Hid (Box x1 w.heap.size 28 #[.int .i64 c.kind,.int .i64 c.client,.string c.tag,.string c.query,.int .i64 c.page,.slice au nu cu,.int .i64 c.n]):=by rw[←hx1];exact Box.new _ _ _
 have HCK:=hide (ckey_any c au nu cu x1)
 obtain⟨kind,client,tag,query,page,rows,n0⟩:=c
 unfold chgV at HCK ⊢
 dsimp only at hk HR hx1 HO1 HCK hc ht ⊢
 subst hk
 have q0:x1.cell? ⟨w.heap.size,0,none⟩=some (.int .i64 5):=HO1.out.cell 0 (by simp)
 have q1:x1.cell? ⟨w.heap.size,1,none⟩=some (.int .i64 client):=HO1.out.cell 1 (by simp)
 have q2:x1.cell? ⟨w.heap.size,2,none⟩=some (.string tag):=HO1.out.cell 2 (by simp)
 have q3:x1.cell? ⟨w.heap.size,3,none⟩=some (.string query):=HO1.out.cell 3 (by simp)
 have q4:x1.cell? ⟨w.heap.size,4,none⟩=some (.int .i64 page):=HO1.out.cell 4 (by simp)
 have q5:x1.cell? ⟨w.heap.size,5,none⟩=some (.slice au nu cu):=HO1.out.cell 5 (by simp)
 have q6:x1.cell? ⟨w.heap.size,6,none⟩=some (.int .i64 n0):=HO1.out.cell 6 (by simp)
 have HB1:=hide b1
 have HX1:=hide hx1
 have HCW:=hide hc
 clear h hR hx1 b1
 go_enter Tryz.func69,Tryz.ntmps69
 go_upto_region 1 with fail
 (try rw[HX1.out])
 go_wp2_with fail
 refine HCK.out.mono ?_
 rintro e W1 ⟨rfl,hb1⟩
 obtain⟨X2,hX2⟩:∃x,W1.alloc (Obj.cells #[.int .i64 1] 3)=x:=⟨_,rfl⟩
 have b2:Below W1.heap.size W1 X2:=by rw[←hX2];exact alcB _ _
 have oX2:Box X2 W1.heap.size 3 #[.int .i64 1]:=by rw[←hX2];exact Box.new _ _ _
 have hbX:=bjoin b2 (bjoin hb1 HB1.out)
 have HBK2:=hide (HH.out.below hbX)
 have HB2:=hide hbX
 have HO2:=hide (HO1.out.below (bjoin b2 hb1))
 have hz:IntsIn X2 W1.heap.size [1]:=fun i hi=>by
  have hi':i<1:=hi
  match i,hi' with
  | 0,_=>exact oX2.cell 0 (by simp)
 have HFD:=hide (find_any HBK2.out client tag hc ht [1] W1.heap.size 1 hz oX2.lt (by decide))
 unfold keyV at HFD
 have HX2:=hide hX2
 clear hb1 b2 oX2 hbX hz q0 q1 q2 q3 q4 q5 q6 hX2
 unfold keyV
 go_wp2_with fail
 (try rw[HX2.out])
 refine HFD.out.mono ?_
 rintro e W3 ⟨rfl,hb3⟩
 have HBK3:=hide (HBK2.out.below hb3)
 have HB3:=hide (bjoin hb3 HB2.out)
 have HO3:=hide (HO2.out.below hb3)
 have HBB:Hid (Below base w W3):=(bjoin hb3 HB2.out).mono hbase
 clear hb3
 obtain⟨o,ho⟩:∃o,foundB ps bs client tag [1]=o:=⟨_,rfl⟩
 rw[ho]
 cases o with
 | none =>
  have HRE:Hid (R=(ps.map Prod.fst,3)):=by
   rcases found_none HH.out.len ho with e|⟨i,e,hn⟩
   ·have:=HR.out;rw[e] at this;exact this.symm
   ·have:=HR.out;rw[e] at this
    dsimp only at this
    rw[show stepS ((ps.map Prod.fst).getD i sess0) ⟨5,client,tag,query,page,rows,n0⟩=.error 3 from by unfold stepS;rw[if_neg (by simp),if_neg (by simp),if_neg (by simp),if_pos rfl,if_neg (by simpa using hn)]] at this
    exact this.symm
  have HFIN:Hid (StPost base w K M nm (BIn K M ov ps bs) R (.returned (.int .i64 3)) W3):=⟨3,rfl,⟨ov,nm,ps,bs,HBK3.out,HRE.out.symm,Nat.le_succ _,Ft.below HB3.out⟩,HBB.out⟩
  unfold outV
  clear ho
  go_wp2_with fail
  go_ret
  exact HFIN.out
 | some b =>
  obtain⟨i,hib,e1,e2,e3⟩:=found_some ho
  have hip:i<ps.length:=by rw[←HH.out.len];exact hib
  have hBs:=HBK3.out.ses i hip hib
  rw[e2] at hBs
  obtain⟨⟨⟨sc,stag,sq,sp,sst,srows,scur⟩,u⟩,hpk⟩:∃p,ps[i]=p:=⟨_,rfl⟩
  rw[hpk] at hBs
  have hgd:(ps.map Prod.fst).getD i sess0=⟨sc,stag,sq,sp,sst,srows,scur⟩:=by rw[map_getD ps i hip,hpk]
  rw[hgd] at e3
  dsimp only at e3
  have HBS:Hid (Box W3 b 41 #[.int .i64 sc,.string stag,.string sq,.int .i64 sp,.int .i64 sst,u,.int .i64 scur]):=hBs
  have hels:=HBK3.out.els ps[i] (List.getElem_mem hip)
  rw[hpk] at hels
  have HSS:=hide hels.1
  have HFU:=hide hels.2
  obtain⟨ar,cr,hu,_⟩:=hels.2.form
  dsimp only at hu
  have HBB2:Hid (base≤b):=by rw[←e2];exact HH.out.lob _ (List.getElem_mem hib)
  have HR2:=HR.out
  rw[e1] at HR2
  dsimp only at HR2
  rw[hgd] at HR2
  have HR3:=hide HR2
  have HPK:=hide hpk
  have HE2:=hide e2
  have HIP:=hide hip
  have HIB:=hide hib
  have HE3:=hide e3
  have HU:=hide hu
  have d4:W3.cell? ⟨b,4,none⟩=some (.int .i64 sst):=HBS.out.cell 4 (by simp)
  have f4:=HBS.out.frozen 4
  have f6:=HBS.out.frozen 6
  have d6:W3.cell? ⟨b,6,none⟩=some (.int .i64 scur):=HBS.out.cell 6 (by simp)
  have d5:W3.cell? ⟨b,5,none⟩=some (.slice ar srows.length cr):=by rw[←hu];exact HBS.out.cell 5 (by simp)
  have bl:=HBS.out.lt
  have q6:W3.cell? ⟨w.heap.size,6,none⟩=some (.int .i64 n0):=HO3.out.cell 6 (by simp)
  have HPUT:Hid (∀(Y:World) (s:Sess) (u':Value),s.client=sc→s.tag=stag→SmS s→(∀d,d≠b→Y.heap[d]?=W3.heap[d]?)→Box Y b 41 (tsC (s,u')).toArray→(u'=u∧s.rows=srows∨u'=.slice none 0 0∧s.rows=[])→BK base Y K M ov nm (ps.set i (s,u')) bs):=fun Y s u' h1 h2 h3 h4 h5 h6=>by
   refine HBK3.out.put HIP.out HIB.out s u' (by rw[HPK.out];exact h1) (by rw[HPK.out];exact h2) h3 (fun d _ hd _=>h4 d (by rw[HE2.out] at hd;exact hd)) (by rw[HE2.out];exact h5) ?_ ?_
   ·rcases h6 with⟨r1,r2⟩|⟨r1,r2⟩
    ·rw[r1,r2]
     exact HFU.out.keep fun d hd=>h4 d fun e=>by
      obtain⟨cs2,e4⟩:=HFU.out.blk (b:=d) (by simpa using hd)
      exact blk_ne e4 (show W3.heap[b]?=some (.cells _ 41 (0,0)) from HBS.out) (by decide) e
    ·rw[r1,r2]
     exact FB.nil _ _ _ _ _
   ·intro d hd
    rcases h6 with⟨r1,_⟩|⟨r1,_⟩
    ·rw[HPK.out];rw[r1] at hd;exact .inl hd
    ·rw[r1] at hd;simp[Value.ownBlock] at hd
  unfold outV
  clear ho hBs hgd hels HR2 hpk e1 e2 e3 hu
  have hst:=HE3.out
  obtain⟨Y,hY⟩:∃x,((W3.setCell ⟨b,4,none⟩ (.int .i64 3)).setCell ⟨b,5,none⟩ (.slice none 0 0)).setCell ⟨b,6,none⟩ (.int .i64 0)=x:=⟨_,rfl⟩
  have HRE:Hid (R=((ps.map Prod.fst).set i ⟨sc,stag,sq,sp,3,[],0⟩,0)):=by
   have:=HR3.out
   rw[show stepS ⟨sc,stag,sq,sp,sst,srows,scur⟩ ⟨5,client,tag,query,page,rows,n0⟩=.ok ⟨sc,stag,sq,sp,3,[],0⟩ from by unfold stepS;rw[if_neg (by simp),if_neg (by simp),if_neg (by simp),if_pos rfl,if_pos (by simpa using hst)]] at this
   exact this.symm
  have HEN:=hide (end_any b 3 sc sp sst scur stag sq u W3 HBS.out)
  rw[hY] at HEN
  have HFIN:Hid (StPost base w K M nm (BIn K M ov ps bs) R (.returned (.int .i64 0)) Y):=by
   refine⟨0,rfl,⟨ov,nm,ps.set i (⟨sc,stag,sq,sp,3,[],0⟩,.slice none 0 0),bs,HPUT.out Y _ (.slice none 0 0) rfl rfl ⟨HSS.out.1,HSS.out.2.1,by simp,by simp⟩ (fun d hd=>by rw[←hY,Deep.blk_setCell_other _ ⟨b,6,none⟩ _ d (by dsimp only;exact hd),Deep.blk_setCell_other _ ⟨b,5,none⟩ _ d (by dsimp only;exact hd),Deep.blk_setCell_other _ ⟨b,4,none⟩ _ d (by dsimp only;exact hd)]) (by rw[←hY];have:=((HBS.out.set 4 (.int .i64 3)).set 5 (.slice none 0 0)).set 6 (.int .i64 0);simpa [tsC] using this) (.inr ⟨rfl,rfl⟩),by rw[HRE.out,List.map_set],Nat.le_succ _,Ft.sess HB3.out HIB.out HIP.out (fun d _ hd _=>by rw[HE2.out] at hd;rw[←hY,Deep.blk_setCell_other _ ⟨b,6,none⟩ _ d (by dsimp only;exact hd),Deep.blk_setCell_other _ ⟨b,5,none⟩ _ d (by dsimp only;exact hd),Deep.blk_setCell_other _ ⟨b,4,none⟩ _ d (by dsimp only;exact hd)]) (by rw[←hY];simp only[Deep.nblk_setCell];exact leR _) (fun d hd=>by simp[Value.ownBlock] at hd)⟩,?_⟩
   rw[←hY]
   exact((HBB.out.setCell (p:=⟨b,4,none⟩) HBB2.out _).setCell (p:=⟨b,5,none⟩) HBB2.out _).setCell (p:=⟨b,6,none⟩) HBB2.out _
  clear hY hst d4 d5 d6 f4 f6 bl q6
  go_wp2_with fail
  refine HEN.out.mono ?_
  rintro e y ⟨rfl,hy⟩
  (try rw[hy])
  clear hy y
  go_wp2_with fail
  go_ret
  exact HFIN.out
set_option maxRecDepth 100000 in
set_option maxHeartbeats 8000000 in
theorem shut_any {base:Nat} {w:World} {K M:Nat} {ov:Value} {nm:Nat} {ps:List (Sess × Value)} {bs:List Nat} (h:BK base w K M ov nm ps bs) (hbase:base≤w.heap.size) (c:Chg) (hk:c.kind=6) (hc:(Lit.int .i64 c.client).wf=true) (ht:c.tag.size≤9223372036854775807) (au:Option Addr) (nu cu:Nat) :
  Calls Tryz.prog 70 #[.pointer (some ⟨K,0,none⟩),chgV c (.slice au nu cu)] w (StPost base w K M nm (BIn K M ov ps bs) (opP (ps.map Prod.fst) c)):=by
 have HH:=hide h
 obtain⟨R,hR⟩:∃R,opP (ps.map Prod.fst) c=R:=⟨_,rfl⟩
 have HR:=hide hR
 rw[hR]
 unfold opP at HR
 obtain⟨x1,hx1⟩:∃x,w.alloc (Obj.cells #[.int .i64 c.kind,.int .i64 c.client,.string c.tag,.string c.query,.int .i64 c.page,.slice au nu cu,.int .i64 c.n] 28)=x:=⟨_,rfl⟩
 have b1:Below w.heap.size w x1:=by rw[←hx1];exact alcB _ _
 have HO1:Hid (Box x1 w.heap.size 28 #[.int .i64 c.kind,.int .i64 c.client,.string c.tag,.string c.query,.int .i64 c.page,.slice au nu cu,.int .i64 c.n]):=by rw[←hx1];exact Box.new _ _ _
 have HCK:=hide (ckey_any c au nu cu x1)
 obtain⟨kind,client,tag,query,page,rows,n0⟩:=c
 unfold chgV at HCK ⊢
 dsimp only at hk HR hx1 HO1 HCK hc ht ⊢
 subst hk
 have q0:x1.cell? ⟨w.heap.size,0,none⟩=some (.int .i64 6):=HO1.out.cell 0 (by simp)
 have q1:x1.cell? ⟨w.heap.size,1,none⟩=some (.int .i64 client):=HO1.out.cell 1 (by simp)
 have q2:x1.cell? ⟨w.heap.size,2,none⟩=some (.string tag):=HO1.out.cell 2 (by simp)
 have q3:x1.cell? ⟨w.heap.size,3,none⟩=some (.string query):=HO1.out.cell 3 (by simp)
 have q4:x1.cell? ⟨w.heap.size,4,none⟩=some (.int .i64 page):=HO1.out.cell 4 (by simp)
 have q5:x1.cell? ⟨w.heap.size,5,none⟩=some (.slice au nu cu):=HO1.out.cell 5 (by simp)
 have q6:x1.cell? ⟨w.heap.size,6,none⟩=some (.int .i64 n0):=HO1.out.cell 6 (by simp)
 have HB1:=hide b1
 have HX1:=hide hx1
 have HCW:=hide hc
 clear h hR hx1 b1
 go_enter Tryz.func70,Tryz.ntmps70
 go_upto_region 1 with fail
 (try rw[HX1.out])
 go_wp2_with fail
 refine HCK.out.mono ?_
 rintro e W1 ⟨rfl,hb1⟩
 obtain⟨X2,hX2⟩:∃x,W1.alloc (Obj.cells #[.int .i64 1,.int .i64 2] 3)=x:=⟨_,rfl⟩
 have b2:Below W1.heap.size W1 X2:=by rw[←hX2];exact alcB _ _
 have oX2:Box X2 W1.heap.size 3 #[.int .i64 1,.int .i64 2]:=by rw[←hX2];exact Box.new _ _ _
 have hbX:=bjoin b2 (bjoin hb1 HB1.out)
 have HBK2:=hide (HH.out.below hbX)
 have HB2:=hide hbX
 have HO2:=hide (HO1.out.below (bjoin b2 hb1))
 have hz:IntsIn X2 W1.heap.size [1,2]:=fun i hi=>by
  have hi':i<2:=hi
  match i,hi' with
  | 0,_=>exact oX2.cell 0 (by simp)
  | 1,_=>exact oX2.cell 1 (by simp)
 have HFD:=hide (find_any HBK2.out client tag hc ht [1,2] W1.heap.size 2 hz oX2.lt (by decide))
 unfold keyV at HFD
 have HX2:=hide hX2
 clear hb1 b2 oX2 hbX hz q0 q1 q2 q3 q4 q5 q6 hX2
 unfold keyV
 go_wp2_with fail
 (try rw[HX2.out])
 refine HFD.out.mono ?_
 rintro e W3 ⟨rfl,hb3⟩
 have HBK3:=hide (HBK2.out.below hb3)
 have HB3:=hide (bjoin hb3 HB2.out)
 have HO3:=hide (HO2.out.below hb3)
 have HBB:Hid (Below base w W3):=(bjoin hb3 HB2.out).mono hbase
 clear hb3
 obtain⟨o,ho⟩:∃o,foundB ps bs client tag [1,2]=o:=⟨_,rfl⟩
 rw[ho]
 cases o with
 | none =>
  have HRE:Hid (R=(ps.map Prod.fst,3)):=by
   rcases found_none HH.out.len ho with e|⟨i,e,hn⟩
   ·have:=HR.out;rw[e] at this;exact this.symm
   ·have:=HR.out;rw[e] at this
    dsimp only at this
    rw[show stepS ((ps.map Prod.fst).getD i sess0) ⟨6,client,tag,query,page,rows,n0⟩=.error 3 from by unfold stepS;rw[if_neg (by simp),if_neg (by simp),if_neg (by simp),if_neg (by simp),if_neg (by unfold liveB;simpa using hn)]] at this
    exact this.symm
  have HFIN:Hid (StPost base w K M nm (BIn K M ov ps bs) R (.returned (.int .i64 3)) W3):=⟨3,rfl,⟨ov,nm,ps,bs,HBK3.out,HRE.out.symm,Nat.le_succ _,Ft.below HB3.out⟩,HBB.out⟩
  unfold outV
  clear ho
  go_wp2_with fail
  go_ret
  exact HFIN.out
 | some b =>
  obtain⟨i,hib,e1,e2,e3⟩:=found_some ho
  have hip:i<ps.length:=by rw[←HH.out.len];exact hib
  have hBs:=HBK3.out.ses i hip hib
  rw[e2] at hBs
  obtain⟨⟨⟨sc,stag,sq,sp,sst,srows,scur⟩,u⟩,hpk⟩:∃p,ps[i]=p:=⟨_,rfl⟩
  rw[hpk] at hBs
  have hgd:(ps.map Prod.fst).getD i sess0=⟨sc,stag,sq,sp,sst,srows,scur⟩:=by rw[map_getD ps i hip,hpk]
  rw[hgd] at e3
  dsimp only at e3
  have HBS:Hid (Box W3 b 41 #[.int .i64 sc,.string stag,.string sq,.int .i64 sp,.int .i64 sst,u,.int .i64 scur]):=hBs
  have hels:=HBK3.out.els ps[i] (List.getElem_mem hip)
  rw[hpk] at hels
  have HSS:=hide hels.1
  have HFU:=hide hels.2
  obtain⟨ar,cr,hu,_⟩:=hels.2.form
  dsimp only at hu
  have HBB2:Hid (base≤b):=by rw[←e2];exact HH.out.lob _ (List.getElem_mem hib)
  have HR2:=HR.out
  rw[e1] at HR2
  dsimp only at HR2
  rw[hgd] at HR2
  have HR3:=hide HR2
  have HPK:=hide hpk
  have HE2:=hide e2
  have HIP:=hide hip
  have HIB:=hide hib
  have HE3:=hide e3
  have HU:=hide hu
  have d4:W3.cell? ⟨b,4,none⟩=some (.int .i64 sst):=HBS.out.cell 4 (by simp)
  have f4:=HBS.out.frozen 4
  have f6:=HBS.out.frozen 6
  have d6:W3.cell? ⟨b,6,none⟩=some (.int .i64 scur):=HBS.out.cell 6 (by simp)
  have d5:W3.cell? ⟨b,5,none⟩=some (.slice ar srows.length cr):=by rw[←hu];exact HBS.out.cell 5 (by simp)
  have bl:=HBS.out.lt
  have q6:W3.cell? ⟨w.heap.size,6,none⟩=some (.int .i64 n0):=HO3.out.cell 6 (by simp)
  have HPUT:Hid (∀(Y:World) (s:Sess) (u':Value),s.client=sc→s.tag=stag→SmS s→(∀d,d≠b→Y.heap[d]?=W3.heap[d]?)→Box Y b 41 (tsC (s,u')).toArray→(u'=u∧s.rows=srows∨u'=.slice none 0 0∧s.rows=[])→BK base Y K M ov nm (ps.set i (s,u')) bs):=fun Y s u' h1 h2 h3 h4 h5 h6=>by
   refine HBK3.out.put HIP.out HIB.out s u' (by rw[HPK.out];exact h1) (by rw[HPK.out];exact h2) h3 (fun d _ hd _=>h4 d (by rw[HE2.out] at hd;exact hd)) (by rw[HE2.out];exact h5) ?_ ?_
   ·rcases h6 with⟨r1,r2⟩|⟨r1,r2⟩
    ·rw[r1,r2]
     exact HFU.out.keep fun d hd=>h4 d fun e=>by
      obtain⟨cs2,e4⟩:=HFU.out.blk (b:=d) (by simpa using hd)
      exact blk_ne e4 (show W3.heap[b]?=some (.cells _ 41 (0,0)) from HBS.out) (by decide) e
    ·rw[r1,r2]
     exact FB.nil _ _ _ _ _
   ·intro d hd
    rcases h6 with⟨r1,_⟩|⟨r1,_⟩
    ·rw[HPK.out];rw[r1] at hd;exact .inl hd
    ·rw[r1] at hd;simp[Value.ownBlock] at hd
  unfold outV
  clear ho hBs hgd hels HR2 hpk e1 e2 e3 hu
  have hst:=HE3.out
  obtain⟨Y,hY⟩:∃x,((W3.setCell ⟨b,4,none⟩ (.int .i64 4)).setCell ⟨b,5,none⟩ (.slice none 0 0)).setCell ⟨b,6,none⟩ (.int .i64 0)=x:=⟨_,rfl⟩
  have HRE:Hid (R=((ps.map Prod.fst).set i ⟨sc,stag,sq,sp,4,[],0⟩,0)):=by
   have:=HR3.out
   rw[show stepS ⟨sc,stag,sq,sp,sst,srows,scur⟩ ⟨6,client,tag,query,page,rows,n0⟩=.ok ⟨sc,stag,sq,sp,4,[],0⟩ from by unfold stepS;rw[if_neg (by simp),if_neg (by simp),if_neg (by simp),if_neg (by simp),if_pos (by unfold liveB;simpa using hst)]] at this
   exact this.symm
  have HEN:=hide (end_any b 4 sc sp sst scur stag sq u W3 HBS.out)
  rw[hY] at HEN
  have HFIN:Hid (StPost base w K M nm (BIn K M ov ps bs) R (.returned (.int .i64 0)) Y):=by
   refine⟨0,rfl,⟨ov,nm,ps.set i (⟨sc,stag,sq,sp,4,[],0⟩,.slice none 0 0),bs,HPUT.out Y _ (.slice none 0 0) rfl rfl ⟨HSS.out.1,HSS.out.2.1,by simp,by simp⟩ (fun d hd=>by rw[←hY,Deep.blk_setCell_other _ ⟨b,6,none⟩ _ d (by dsimp only;exact hd),Deep.blk_setCell_other _ ⟨b,5,none⟩ _ d (by dsimp only;exact hd),Deep.blk_setCell_other _ ⟨b,4,none⟩ _ d (by dsimp only;exact hd)]) (by rw[←hY];have:=((HBS.out.set 4 (.int .i64 4)).set 5 (.slice none 0 0)).set 6 (.int .i64 0);simpa [tsC] using this) (.inr ⟨rfl,rfl⟩),by rw[HRE.out,List.map_set],Nat.le_succ _,Ft.sess HB3.out HIB.out HIP.out (fun d _ hd _=>by rw[HE2.out] at hd;rw[←hY,Deep.blk_setCell_other _ ⟨b,6,none⟩ _ d (by dsimp only;exact hd),Deep.blk_setCell_other _ ⟨b,5,none⟩ _ d (by dsimp only;exact hd),Deep.blk_setCell_other _ ⟨b,4,none⟩ _ d (by dsimp only;exact hd)]) (by rw[←hY];simp only[Deep.nblk_setCell];exact leR _) (fun d hd=>by simp[Value.ownBlock] at hd)⟩,?_⟩
   rw[←hY]
   exact((HBB.out.setCell (p:=⟨b,4,none⟩) HBB2.out _).setCell (p:=⟨b,5,none⟩) HBB2.out _).setCell (p:=⟨b,6,none⟩) HBB2.out _
  clear hY hst d4 d5 d6 f4 f6 bl q6
  go_wp2_with fail
  refine HEN.out.mono ?_
  rintro e y ⟨rfl,hy⟩
  (try rw[hy])
  clear hy y
  go_wp2_with fail
  go_ret
  exact HFIN.out
set_option maxRecDepth 100000 in
theorem appRows {base:Nat} {w:World} {v:Value} {xs:List ByteArray} (h:FB tC 1 9 base w v xs) {ys:List ByteArray} {a:Option Addr} {cap lo:Nat} (hv:StrsAt lo w (.slice a ys.length cap) ys) (hl:xs.length+ys.length≤100000) (hb:base≤w.heap.size) :
  ∃a' c' w',(Builtin.append_ #[26,26] 26 #[v,.slice a ys.length cap]).run Tryz.prog w=.ok (.slice a' (xs.length+ys.length) c') w'∧FB tC 1 9 base w' (.slice a' (xs.length+ys.length) c') (xs++ys)∧Only v.ownBlock.toList w w'∧(∀b,(Value.slice a' (xs.length+ys.length) c').ownBlock=some b→v.ownBlock=some b∨w.heap.size≤b):=by
 obtain⟨i0,hi,hz0,hz1,hz2⟩:=info_parts tinfo
 cases a with
 | none =>
  have hy:ys=[]:=by
   cases ys with
   | nil=>rfl
   | cons x l=>obtain⟨_,_,e0,hc⟩:=At.form hv;obtain⟨b,off,e,_⟩:=hc 0 (by simp);injection e0 with e0 _ _;rw[←e0] at e;cases e
  subst hy
  obtain⟨av,cv,rfl,hcv,_⟩:=h.form
  refine⟨av,cv,w,?_,by simpa using h,⟨rfl,rfl,rfl,leR _,fun _ _ _=>rfl⟩,fun b e=>.inl (by simpa using e)⟩
  simp[Builtin.append_,run_underlying Tryz.underlying26,sizeOf,typeInfo,hi,hz1,Builtin.lenOf,run_firstCells_none,hcv,storeCells]
  obtain⟨_,⟨e,h0⟩|⟨g,cap',cur,e,_⟩⟩:=h
  ·injection e with e1 e2 e3
   subst e1 e3
   first|rfl|simp[e2,go_sem]
  ·injection e with e1 e2 e3
   subst e1
   first|rfl|simp[e2,go_sem]
 | some a =>
  have hnews:∀j u,(flat tC ys)[j]?=some u→w.cell? (a.add j)=some u:=fun j u hu=>by
   have hj:j<ys.length:=by
    by_cases hj:j<(flat tC ys).length
    ·rw[flat_len (c:=1) (fun _=>rfl)] at hj;omega
    ·rw[List.getElem?_eq_none (by omega)] at hu;cases hu
   obtain⟨_,_,e0,hc⟩:=At.form hv
   injection e0 with e0 _ _
   obtain⟨b,off,e,_,hlt,hel,_⟩:=hc j hj
   rw[←e0] at e
   have e9:=Option.some.inj e
   subst e9
   have h2:=flat_get (C:=tC) (c:=1) (fun _=>rfl) ys j 0 hj (by omega)
   rw[show j * 1+0=j by omega,hu] at h2
   have h2:=Option.some.inj h2
   have e2:((⟨b,off,none⟩:Addr).add j)=⟨b,off+j,none⟩:=by
    simp only[Addr.add]
    by_cases h0:j=0
    ·subst h0;simp
    ·rw[if_neg h0]
   rw[e2,h2]
   simpa [tC] using hel
  obtain⟨v',w',hr,ho,hg,_,hat⟩:=run_append_own_at (P:=Tryz.prog) (w:=w) base 26 26 9 i0 _ 1 16 Tryz.underlying26 hi hz0 hz1 hz2 rfl (by decide) v xs.length (flat tC xs) h a ys.length cap (flat tC ys) (by rw[flat_len (c:=1) (fun _=>rfl)]) hnews tflat_one (by unfold maxLen;omega) (by omega) hb
  have hF:FB tC 1 9 base w' v' (xs++ys):=by
   unfold FB
   rw[List.length_append,show flat tC (xs++ys)=flat tC xs++flat tC ys from by simp[flat]]
   exact ho
  obtain⟨a8,c8,e8,_,_⟩:=hF.form
  rw[List.length_append] at e8
  subst e8
  refine⟨a8,c8,w',hr,hF,⟨hg.os,hg.tape,hg.output,hg.size,fun k hk hn=>hg.block k hk fun e1=>hn (by rw[←e1];simp)⟩,fun b e=>?_⟩
  rcases hat with hat|hat
  ·exact .inl (by rw[←hat];exact e)
  ·rw[hat] at e
   injection e with e
   exact .inr (by omega)
set_option maxRecDepth 100000 in
set_option maxHeartbeats 8000000 in
theorem move_any {base:Nat} {w:World} {K M:Nat} {ov:Value} {nm:Nat} {ps:List (Sess × Value)} {bs:List Nat} (h:BK base w K M ov nm ps bs) (hbase:base≤w.heap.size) (c:Chg) (hk:c.kind=4) (hc:(Lit.int .i64 c.client).wf=true) (ht:c.tag.size≤9223372036854775807) (au:Option Addr) (nu cu:Nat) :
  Calls Tryz.prog 68 #[.pointer (some ⟨K,0,none⟩),chgV c (.slice au nu cu)] w (StPost base w K M nm (BIn K M ov ps bs) (opP (ps.map Prod.fst) c)):=by
 have HH:=hide h
 obtain⟨R,hR⟩:∃R,opP (ps.map Prod.fst) c=R:=⟨_,rfl⟩
 have HR:=hide hR
 rw[hR]
 unfold opP at HR
 obtain⟨x1,hx1⟩:∃x,w.alloc (Obj.cells #[.int .i64 c.kind,.int .i64 c.client,.string c.tag,.string c.query,.int .i64 c.page,.slice au nu cu,.int .i64 c.n] 28)=x:=⟨_,rfl⟩
 have b1:Below w.heap.size w x1:=by rw[←hx1];exact alcB _ _
 have HO1:Hid (Box x1 w.heap.size 28 #[.int .i64 c.kind,.int .i64 c.client,.string c.tag,.string c.query,.int .i64 c.page,.slice au nu cu,.int .i64 c.n]):=by rw[←hx1];exact Box.new _ _ _
 have HCK:=hide (ckey_any c au nu cu x1)
 obtain⟨kind,client,tag,query,page,rows,n0⟩:=c
 unfold chgV at HCK ⊢
 dsimp only at hk HR hx1 HO1 HCK hc ht ⊢
 subst hk
 have q0:x1.cell? ⟨w.heap.size,0,none⟩=some (.int .i64 4):=HO1.out.cell 0 (by simp)
 have q1:x1.cell? ⟨w.heap.size,1,none⟩=some (.int .i64 client):=HO1.out.cell 1 (by simp)
 have q2:x1.cell? ⟨w.heap.size,2,none⟩=some (.string tag):=HO1.out.cell 2 (by simp)
 have q3:x1.cell? ⟨w.heap.size,3,none⟩=some (.string query):=HO1.out.cell 3 (by simp)
 have q4:x1.cell? ⟨w.heap.size,4,none⟩=some (.int .i64 page):=HO1.out.cell 4 (by simp)
 have q5:x1.cell? ⟨w.heap.size,5,none⟩=some (.slice au nu cu):=HO1.out.cell 5 (by simp)
 have q6:x1.cell? ⟨w.heap.size,6,none⟩=some (.int .i64 n0):=HO1.out.cell 6 (by simp)
 have HB1:=hide b1
 have HX1:=hide hx1
 have HCW:=hide hc
 clear h hR hx1 b1
 go_enter Tryz.func68,Tryz.ntmps68
 go_upto_region 1 with fail
 (try rw[HX1.out])
 go_wp2_with fail
 refine HCK.out.mono ?_
 rintro e W1 ⟨rfl,hb1⟩
 obtain⟨X2,hX2⟩:∃x,W1.alloc (Obj.cells #[.int .i64 2] 3)=x:=⟨_,rfl⟩
 have b2:Below W1.heap.size W1 X2:=by rw[←hX2];exact alcB _ _
 have oX2:Box X2 W1.heap.size 3 #[.int .i64 2]:=by rw[←hX2];exact Box.new _ _ _
 have hbX:=bjoin b2 (bjoin hb1 HB1.out)
 have HBK2:=hide (HH.out.below hbX)
 have HB2:=hide hbX
 have HO2:=hide (HO1.out.below (bjoin b2 hb1))
 have hz:IntsIn X2 W1.heap.size [2]:=fun i hi=>by
  have hi':i<1:=hi
  match i,hi' with
  | 0,_=>exact oX2.cell 0 (by simp)
 have HFD:=hide (find_any HBK2.out client tag hc ht [2] W1.heap.size 1 hz oX2.lt (by decide))
 unfold keyV at HFD
 have HX2:=hide hX2
 clear hb1 b2 oX2 hbX hz q0 q1 q2 q3 q4 q5 q6 hX2
 unfold keyV
 go_wp2_with fail
 (try rw[HX2.out])
 refine HFD.out.mono ?_
 rintro e W3 ⟨rfl,hb3⟩
 have HBK3:=hide (HBK2.out.below hb3)
 have HB3:=hide (bjoin hb3 HB2.out)
 have HO3:=hide (HO2.out.below hb3)
 have HBB:Hid (Below base w W3):=(bjoin hb3 HB2.out).mono hbase
 clear hb3
 obtain⟨o,ho⟩:∃o,foundB ps bs client tag [2]=o:=⟨_,rfl⟩
 rw[ho]
 cases o with
 | none =>
  have HRE:Hid (R=(ps.map Prod.fst,3)):=by
   rcases found_none HH.out.len ho with e|⟨i,e,hn⟩
   ·have:=HR.out;rw[e] at this;exact this.symm
   ·have:=HR.out;rw[e] at this
    dsimp only at this
    rw[show stepS ((ps.map Prod.fst).getD i sess0) ⟨4,client,tag,query,page,rows,n0⟩=.error 3 from by unfold stepS;rw[if_neg (by simp),if_neg (by simp),if_pos rfl,if_neg (by simpa using hn)]] at this
    exact this.symm
  have HFIN:Hid (StPost base w K M nm (BIn K M ov ps bs) R (.returned (.int .i64 3)) W3):=⟨3,rfl,⟨ov,nm,ps,bs,HBK3.out,HRE.out.symm,Nat.le_succ _,Ft.below HB3.out⟩,HBB.out⟩
  unfold outV
  clear ho
  go_wp2_with fail
  go_ret
  exact HFIN.out
 | some b =>
  obtain⟨i,hib,e1,e2,e3⟩:=found_some ho
  have hip:i<ps.length:=by rw[←HH.out.len];exact hib
  have hBs:=HBK3.out.ses i hip hib
  rw[e2] at hBs
  obtain⟨⟨⟨sc,stag,sq,sp,sst,srows,scur⟩,u⟩,hpk⟩:∃p,ps[i]=p:=⟨_,rfl⟩
  rw[hpk] at hBs
  have hgd:(ps.map Prod.fst).getD i sess0=⟨sc,stag,sq,sp,sst,srows,scur⟩:=by rw[map_getD ps i hip,hpk]
  rw[hgd] at e3
  dsimp only at e3
  have HBS:Hid (Box W3 b 41 #[.int .i64 sc,.string stag,.string sq,.int .i64 sp,.int .i64 sst,u,.int .i64 scur]):=hBs
  have hels:=HBK3.out.els ps[i] (List.getElem_mem hip)
  rw[hpk] at hels
  have HSS:=hide hels.1
  have HFU:=hide hels.2
  obtain⟨ar,cr,hu,_⟩:=hels.2.form
  dsimp only at hu
  have HBB2:Hid (base≤b):=by rw[←e2];exact HH.out.lob _ (List.getElem_mem hib)
  have HR2:=HR.out
  rw[e1] at HR2
  dsimp only at HR2
  rw[hgd] at HR2
  have HR3:=hide HR2
  have HPK:=hide hpk
  have HE2:=hide e2
  have HIP:=hide hip
  have HIB:=hide hib
  have HE3:=hide e3
  have HU:=hide hu
  have d4:W3.cell? ⟨b,4,none⟩=some (.int .i64 sst):=HBS.out.cell 4 (by simp)
  have f4:=HBS.out.frozen 4
  have f6:=HBS.out.frozen 6
  have d6:W3.cell? ⟨b,6,none⟩=some (.int .i64 scur):=HBS.out.cell 6 (by simp)
  have d5:W3.cell? ⟨b,5,none⟩=some (.slice ar srows.length cr):=by rw[←hu];exact HBS.out.cell 5 (by simp)
  have bl:=HBS.out.lt
  have q6:W3.cell? ⟨w.heap.size,6,none⟩=some (.int .i64 n0):=HO3.out.cell 6 (by simp)
  have HPUT:Hid (∀(Y:World) (s:Sess) (u':Value),s.client=sc→s.tag=stag→SmS s→(∀d,d≠b→Y.heap[d]?=W3.heap[d]?)→Box Y b 41 (tsC (s,u')).toArray→(u'=u∧s.rows=srows∨u'=.slice none 0 0∧s.rows=[])→BK base Y K M ov nm (ps.set i (s,u')) bs):=fun Y s u' h1 h2 h3 h4 h5 h6=>by
   refine HBK3.out.put HIP.out HIB.out s u' (by rw[HPK.out];exact h1) (by rw[HPK.out];exact h2) h3 (fun d _ hd _=>h4 d (by rw[HE2.out] at hd;exact hd)) (by rw[HE2.out];exact h5) ?_ ?_
   ·rcases h6 with⟨r1,r2⟩|⟨r1,r2⟩
    ·rw[r1,r2]
     exact HFU.out.keep fun d hd=>h4 d fun e=>by
      obtain⟨cs2,e4⟩:=HFU.out.blk (b:=d) (by simpa using hd)
      exact blk_ne e4 (show W3.heap[b]?=some (.cells _ 41 (0,0)) from HBS.out) (by decide) e
    ·rw[r1,r2]
     exact FB.nil _ _ _ _ _
   ·intro d hd
    rcases h6 with⟨r1,_⟩|⟨r1,_⟩
    ·rw[HPK.out];rw[r1] at hd;exact .inl hd
    ·rw[r1] at hd;simp[Value.ownBlock] at hd
  unfold outV
  clear ho hBs hgd hels HR2 hpk e1 e2 e3 hu
  have hst:sst=2:=by have:=HE3.out;simpa using this
  obtain⟨nr,hnr⟩:∃q,srows.length=q:=⟨_,rfl⟩
  have HNR:=hide hnr
  rw[hnr] at d5
  clear hnr
  have HST:=hide hst
  clear hst d4 f4
  by_cases hlt:(nr:Int)<n0
  ·have HRE:Hid (R=(ps.map Prod.fst,4)):=by
    have:=HR3.out
    rw[show stepS ⟨sc,stag,sq,sp,sst,srows,scur⟩ ⟨4,client,tag,query,page,rows,n0⟩=.error 4 from by unfold stepS;rw[if_neg (by simp),if_neg (by simp),if_pos rfl,if_pos HST.out,if_pos (by rw[HNR.out];exact hlt)]] at this
    exact this.symm
   have HFIN:Hid (∀q,StPost base w K M nm (BIn K M ov ps bs) R (.returned (.int .i64 4)) (W3.drewN q)):=fun q=>⟨4,rfl,⟨ov,nm,ps,bs,HBK3.out.below (below_drewN (Below.refl _ _) q),HRE.out.symm,Nat.le_succ _,Ft.below (below_drewN HB3.out q)⟩,below_drewN HBB.out q⟩
   have hd:decide (n0 > (nr:Int))=true:=decide_eq_true hlt
   go_wp2_with fail
   go_quiet (fail)
   go_wp2_with fail
   go_ret
   exact HFIN.out _
  ·have HRE:Hid (R=((ps.map Prod.fst).set i ⟨sc,stag,sq,sp,sst,srows,n0⟩,0)):=by
    have:=HR3.out
    rw[show stepS ⟨sc,stag,sq,sp,sst,srows,scur⟩ ⟨4,client,tag,query,page,rows,n0⟩=.ok ⟨sc,stag,sq,sp,sst,srows,n0⟩ from by unfold stepS;rw[if_neg (by simp),if_neg (by simp),if_pos rfl,if_pos HST.out,if_neg (by rw[HNR.out];exact hlt)]] at this
    exact this.symm
   have HFIN:Hid (∀q,StPost base w K M nm (BIn K M ov ps bs) R (.returned (.int .i64 0)) ((W3.drewN q).setCell ⟨b,6,none⟩ (.int .i64 n0))):=fun q=>by
    have hBq:Box (W3.drewN q) b 41 #[.int .i64 sc,.string stag,.string sq,.int .i64 sp,.int .i64 sst,u,.int .i64 scur]:=HBS.out.below (below_drewN (Below.refl _ _) q)
    refine⟨0,rfl,⟨ov,nm,ps.set i (⟨sc,stag,sq,sp,sst,srows,n0⟩,u),bs,HPUT.out _ _ u rfl rfl HSS.out (fun d hd=>(Deep.blk_setCell_other _ ⟨b,6,none⟩ _ d (by dsimp only;exact hd)).trans rfl) (by have:=hBq.set 6 (.int .i64 n0);simpa [tsC] using this) (.inl ⟨rfl,rfl⟩),by rw[HRE.out,List.map_set],Nat.le_succ _,Ft.sess (below_drewN HB3.out q) HIB.out HIP.out (fun d _ hd _=>(Deep.blk_setCell_other _ ⟨b,6,none⟩ _ d (by dsimp only;rw[HE2.out] at hd;exact hd)).trans rfl) (by rw[Deep.nblk_setCell];exact leR _) (fun d hd=>.inl (by rw[HPK.out];exact hd))⟩,?_⟩
    exact(below_drewN HBB.out q).setCell (p:=⟨b,6,none⟩) HBB2.out _
   have hd:decide (n0 > (nr:Int))=false:=decide_eq_false hlt
   go_wp2_with fail
   go_quiet (fail)
   go_wp2_with fail
   go_ret
   exact HFIN.out _
end Go.Proofs.YtglcdcekkglmiaaGreatDoor.Msg
