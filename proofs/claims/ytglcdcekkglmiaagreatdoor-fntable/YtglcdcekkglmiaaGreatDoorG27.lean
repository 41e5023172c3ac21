import Derived.Test.YtglcdcekkglmiaaGreatDoorG26
import Derived.LaidEqlPtr
import Derived.Lib.SliceRun
namespace Go.Proofs.YtglcdcekkglmiaaGreatDoor.Msg
open Go.ChangeShapes Go.WideShapes Go.ChangeAt Go.RowKit
set_option linter.unusedVariables false
set_option linter.unusedSimpArgs false
set_option maxRecDepth 100000 in
set_option maxHeartbeats 8000000 in
theorem rows_any {base:Nat} {w:World} {K M:Nat} {ov:Value} {nm:Nat} {ps:List (Sess × Value)} {bs:List Nat} (h:BK base w K M ov nm ps bs) (hbase:base≤w.heap.size) (c:Chg) (hk:c.kind=2) (hc:(Lit.int .i64 c.client).wf=true) (ht:c.tag.size≤9223372036854775807) (au:Option Addr) (nu cu:Nat) {lo:Nat} (hv:StrsAt lo w (.slice au nu cu) c.rows) (hrw:c.rows.length≤200∧∀r∈c.rows,r.size≤200) :
  Calls Tryz.prog 66 #[.pointer (some ⟨K,0,none⟩),chgV c (.slice au nu cu)] w (StPost base w K M nm (BIn K M ov ps bs) (opP (ps.map Prod.fst) c)):=by
 have HH:=hide h
 have HV:=hide hv
 have HRW:=hide hrw
 have HNU:Hid (nu=c.rows.length):=by
  obtain⟨_,_,e0,_⟩:=At.form hv
  injection e0
 clear hv hrw
 obtain⟨R,hR⟩:∃R,opP (ps.map Prod.fst) c=R:=⟨_,rfl⟩
 have HR:=hide hR
 rw[hR]
 unfold opP at HR
 obtain⟨x1,hx1⟩:∃x,w.alloc (Obj.cells #[.int .i64 c.kind,.int .i64 c.client,.string c.tag,.string c.query,.int .i64 c.page,.slice au nu cu,.int .i64 c.n] 28)=x:=⟨_,rfl⟩
 have b1:Below w.heap.size w x1:=by rw[←hx1];exact alcB _ _
 have HO1:Hid (Box x1 w.heap.size 28 #[.int .i64 c.kind,.int .i64 c.client,.string c.tag,.string c.query,.int .i64 c.page,.slice au nu cu,.int .i64 c.n]):=by rw[←hx1];exact Box.new _ _ _
 have HCK:=hide (ckey_any c au nu cu x1)
 obtain⟨kind,client,tag,query,page,rows,n0⟩:=c
 unfold chgV at HCK ⊢
 dsimp only at hk HR hx1 HO1 HCK hc ht HV HRW HNU ⊢
 subst hk
 have q0:x1.cell? ⟨w.heap.size,0,none⟩=some (.int .i64 2):=HO1.out.cell 0 (by simp)
 have q1:x1.cell? ⟨w.heap.size,1,none⟩=some (.int .i64 client):=HO1.out.cell 1 (by simp)
 have q2:x1.cell? ⟨w.heap.size,2,none⟩=some (.string tag):=HO1.out.cell 2 (by simp)
 have q3:x1.cell? ⟨w.heap.size,3,none⟩=some (.string query):=HO1.out.cell 3 (by simp)
 have q4:x1.cell? ⟨w.heap.size,4,none⟩=some (.int .i64 page):=HO1.out.cell 4 (by simp)
 have q5:x1.cell? ⟨w.heap.size,5,none⟩=some (.slice au nu cu):=HO1.out.cell 5 (by simp)
 have q6:x1.cell? ⟨w.heap.size,6,none⟩=some (.int .i64 n0):=HO1.out.cell 6 (by simp)
 have HB1:=hide b1
 have HX1:=hide hx1
 have HCW:=hide hc
 clear h hR hx1 b1
 go_enter Tryz.func66,Tryz.ntmps66
 go_upto_region 1 with fail
 (try rw[HX1.out])
 go_wp2_with fail
 refine HCK.out.mono ?_
 rintro e W1 ⟨rfl,hb1⟩
 obtain⟨X2,hX2⟩:∃x,W1.alloc (Obj.cells #[.int .i64 1] 3)=x:=⟨_,rfl⟩
 have b2:Below W1.heap.size W1 X2:=by rw[←hX2];exact alcB _ _
 have oX2:Box X2 W1.heap.size 3 #[.int .i64 1]:=by rw[←hX2];exact Box.new _ _ _
 have hbX:=bjoin b2 (bjoin hb1 HB1.out)
 have HBK2:=hide (HH.out.below hbX)
 have HB2:=hide hbX
 have HO2:=hide (HO1.out.below (bjoin b2 hb1))
 have hz:IntsIn X2 W1.heap.size [1]:=fun i hi=>by
  have hi':i<1:=hi
  match i,hi' with
  | 0,_=>exact oX2.cell 0 (by simp)
 have HFD:=hide (find_any HBK2.out client tag hc ht [1] W1.heap.size 1 hz oX2.lt (by decide))
 unfold keyV at HFD
 have HX2:=hide hX2
 clear hb1 b2 oX2 hbX hz q0 q1 q2 q3 q4 q5 q6 hX2
 unfold keyV
 go_wp2_with fail
 (try rw[HX2.out])
 refine HFD.out.mono ?_
 rintro e W3 ⟨rfl,hb3⟩
 have HBK3:=hide (HBK2.out.below hb3)
 have HB3:=hide (bjoin hb3 HB2.out)
 have HO3:=hide (HO2.out.below hb3)
 have HBB:Hid (Below base w W3):=(bjoin hb3 HB2.out).mono hbase
 clear hb3
 obtain⟨o,ho⟩:∃o,foundB ps bs client tag [1]=o:=⟨_,rfl⟩
 rw[ho]
 cases o with
 | none =>
  have HRE:Hid (R=(ps.map Prod.fst,3)):=by
   rcases found_none HH.out.len ho with e|⟨i,e,hn⟩
   ·have:=HR.out;rw[e] at this;exact this.symm
   ·have:=HR.out;rw[e] at this
    dsimp only at this
    rw[show stepS ((ps.map Prod.fst).getD i sess0) ⟨2,client,tag,query,page,rows,n0⟩=.error 3 from by unfold stepS;rw[if_pos rfl,if_neg (by simpa using hn)]] at this
    exact this.symm
  have HFIN:Hid (StPost base w K M nm (BIn K M ov ps bs) R (.returned (.int .i64 3)) W3):=⟨3,rfl,⟨ov,nm,ps,bs,HBK3.out,HRE.out.symm,Nat.le_succ _,Ft.below HB3.out⟩,HBB.out⟩
  unfold outV
  clear ho
  go_wp2_with fail
  go_ret
  exact HFIN.out
 | some b =>
  obtain⟨i,hib,e1,e2,e3⟩:=found_some ho
  have hip:i<ps.length:=by rw[←HH.out.len];exact hib
  have hBs:=HBK3.out.ses i hip hib
  rw[e2] at hBs
  obtain⟨⟨⟨sc,stag,sq,sp,sst,srows,scur⟩,u⟩,hpk⟩:∃p,ps[i]=p:=⟨_,rfl⟩
  rw[hpk] at hBs
  have hgd:(ps.map Prod.fst).getD i sess0=⟨sc,stag,sq,sp,sst,srows,scur⟩:=by rw[map_getD ps i hip,hpk]
  rw[hgd] at e3
  dsimp only at e3
  have HBS:Hid (Box W3 b 41 #[.int .i64 sc,.string stag,.string sq,.int .i64 sp,.int .i64 sst,u,.int .i64 scur]):=hBs
  have hels:=HBK3.out.els ps[i] (List.getElem_mem hip)
  rw[hpk] at hels
  have HSS:=hide hels.1
  have HFU:=hide hels.2
  obtain⟨ar,cr,hu,_⟩:=hels.2.form
  dsimp only at hu
  have HBB2:Hid (base≤b):=by rw[←e2];exact HH.out.lob _ (List.getElem_mem hib)
  have HR2:=HR.out
  rw[e1] at HR2
  dsimp only at HR2
  rw[hgd] at HR2
  have HR3:=hide HR2
  have HPK:=hide hpk
  have HE2:=hide e2
  have HIP:=hide hip
  have HIB:=hide hib
  have HE3:=hide e3
  have HU:=hide hu
  have d4:W3.cell? ⟨b,4,none⟩=some (.int .i64 sst):=HBS.out.cell 4 (by simp)
  have f4:=HBS.out.frozen 4
  have f6:=HBS.out.frozen 6
  have d6:W3.cell? ⟨b,6,none⟩=some (.int .i64 scur):=HBS.out.cell 6 (by simp)
  have d5:W3.cell? ⟨b,5,none⟩=some (.slice ar srows.length cr):=by rw[←hu];exact HBS.out.cell 5 (by simp)
  have bl:=HBS.out.lt
  have q6:W3.cell? ⟨w.heap.size,6,none⟩=some (.int .i64 n0):=HO3.out.cell 6 (by simp)
  have HPUT:Hid (∀(Y:World) (s:Sess) (u':Value),s.client=sc→s.tag=stag→SmS s→(∀d,d≠b→Y.heap[d]?=W3.heap[d]?)→Box Y b 41 (tsC (s,u')).toArray→(u'=u∧s.rows=srows∨u'=.slice none 0 0∧s.rows=[])→BK base Y K M ov nm (ps.set i (s,u')) bs):=fun Y s u' h1 h2 h3 h4 h5 h6=>by
   refine HBK3.out.put HIP.out HIB.out s u' (by rw[HPK.out];exact h1) (by rw[HPK.out];exact h2) h3 (fun d _ hd _=>h4 d (by rw[HE2.out] at hd;exact hd)) (by rw[HE2.out];exact h5) ?_ ?_
   ·rcases h6 with⟨r1,r2⟩|⟨r1,r2⟩
    ·rw[r1,r2]
     exact HFU.out.keep fun d hd=>h4 d fun e=>by
      obtain⟨cs2,e4⟩:=HFU.out.blk (b:=d) (by simpa using hd)
      exact blk_ne e4 (show W3.heap[b]?=some (.cells _ 41 (0,0)) from HBS.out) (by decide) e
    ·rw[r1,r2]
     exact FB.nil _ _ _ _ _
   ·intro d hd
    rcases h6 with⟨r1,_⟩|⟨r1,_⟩
    ·rw[HPK.out];rw[r1] at hd;exact .inl hd
    ·rw[r1] at hd;simp[Value.ownBlock] at hd
  unfold outV
  clear ho hBs hgd hels HR2 hpk e1 e2 e3 hu
  have hst:sst=1:=by have:=HE3.out;simpa using this
  obtain⟨nr,hnr⟩:∃q,srows.length=q:=⟨_,rfl⟩
  have HNR:=hide hnr
  rw[hnr] at d5
  clear hnr
  have HST:=hide hst
  have q5:W3.cell? ⟨w.heap.size,5,none⟩=some (.slice au nu cu):=HO3.out.cell 5 (by simp)
  have hnu:nu≤200:=by have:=HNU.out;have:=HRW.out.1;omega
  have hnr2:nr≤100000:=by have:=HNR.out;have h9:srows.length≤100000:=HSS.out.2.2.1;omega
  clear hst d4 f4 d6 f6 q6
  by_cases hlt:200<nr+nu
  ·have HRE:Hid (R=(ps.map Prod.fst,4)):=by
    have:=HR3.out
    rw[show stepS ⟨sc,stag,sq,sp,sst,srows,scur⟩ ⟨2,client,tag,query,page,rows,n0⟩=.error 4 from by unfold stepS;rw[if_pos rfl,if_pos HST.out,if_pos (by rw[HNR.out,←HNU.out];exact hlt)]] at this
    exact this.symm
   have HFIN:Hid (∀q,StPost base w K M nm (BIn K M ov ps bs) R (.returned (.int .i64 4)) (W3.drewN q)):=fun q=>⟨4,rfl,⟨ov,nm,ps,bs,HBK3.out.below (below_drewN (Below.refl _ _) q),HRE.out.symm,Nat.le_succ _,Ft.below (below_drewN HB3.out q)⟩,below_drewN HBB.out q⟩
   have hd:decide ((nr:Int)+(nu:Int) > 200)=true:=decide_eq_true (by omega)
   go_wp2_with fail
   go_quiet (fail)
   go_wp2_with fail
   go_ret
   exact HFIN.out _
  ·have HRE:Hid (R=((ps.map Prod.fst).set i ⟨sc,stag,sq,sp,sst,srows++rows,scur⟩,0)):=by
    have:=HR3.out
    rw[show stepS ⟨sc,stag,sq,sp,sst,srows,scur⟩ ⟨2,client,tag,query,page,rows,n0⟩=.ok ⟨sc,stag,sq,sp,sst,srows++rows,scur⟩ from by unfold stepS;rw[if_pos rfl,if_pos HST.out,if_neg (by rw[HNR.out,←HNU.out];exact hlt)]] at this
    exact this.symm
   have hd:decide ((nr:Int)+(nu:Int) > 200)=false:=decide_eq_false (by omega)
   go_wp2_with fail
   go_quiet (fail)
   go_wp2_with fail
   obtain⟨D,hDe⟩:∃D,(W3.drewN nq).drew=D:=⟨_,rfl⟩
   have hD:Below W3.heap.size W3 D:=by rw[←hDe];exact(below_drewN (Below.refl _ _) _).drew
   have HDH:Hid (D.heap=W3.heap):=by rw[←hDe];exact rfl
   have hBD:=HBS.out.below hD
   have hOD:=HO3.out.below hD
   have HBD:=hide hBD
   have hFD:FB tC 1 9 base D (.slice ar nr cr) srows:=by have:=HFU.out.below hD;(try dsimp only at this);rw[HU.out,HNR.out] at this;exact this
   have hVD:StrsAt lo D (.slice au rows.length cu) rows:=by rw[←HNU.out];exact At.kept kept_str HV.out (bjoin hD HB3.out)
   obtain⟨a8,c8,w8,hr8',hF8,ho8,hv8⟩:=appRows hFD hVD (by rw[HNR.out,←HNU.out];omega) (by have:=hD.size;have:=HBB.out.size;omega)
   rw[HNR.out,←HNU.out] at hr8' hF8 hv8
   have hr8:(Builtin.append_ #[26,26] 26 #[.slice ar nr cr,.slice au nu cu]).run Tryz.prog D=.ok (.slice a8 (nr+nu) c8) w8:=hr8'
   have HTY:Hid (∀(d:Nat) (cs:Array Value) (t:TypeId),D.heap[d]?=some (Obj.cells cs t (0,0))→t≠9→w8.heap[d]?=D.heap[d]?):=fun d cs t hdd ht=>ho8.block d (by rcases Nat.lt_or_ge d D.heap.size with h'|h';exact h';rw[Array.getElem?_eq_none h'] at hdd;cases hdd) fun hmm=>by
    obtain⟨cs2,e2⟩:=hFD.blk (b:=d) (by simpa using hmm)
    exact blk_ne hdd e2 ht rfl
   have hB8:Box w8 b 41 #[.int .i64 sc,.string stag,.string sq,.int .i64 sp,.int .i64 sst,u,.int .i64 scur]:=hBD.keep (HTY.out b _ _ hBD (by decide))
   have hO8:=hOD.keep (HTY.out _ _ _ hOD (by decide))
   have HFIN:Hid (StPost base w K M nm (BIn K M ov ps bs) R (.returned (.int .i64 0)) (w8.setCell ⟨b,5,none⟩ (.slice a8 (nr+nu) c8))):=by
    have hnew:SmS ⟨sc,stag,sq,sp,sst,srows++rows,scur⟩:=by
     refine⟨HSS.out.1,HSS.out.2.1,?_,fun r hr=>?_⟩
     ·dsimp only
      rw[List.length_append,HNR.out,←HNU.out]
      omega
     ·rcases List.mem_append.1 hr with hr|hr
      ·exact HSS.out.2.2.2 r hr
      ·have:=HRW.out.2 r hr;omega
    have hBY:Box (w8.setCell ⟨b,5,none⟩ (.slice a8 (nr+nu) c8)) b 41 (tsC (⟨sc,stag,sq,sp,sst,srows++rows,scur⟩,.slice a8 (nr+nu) c8)).toArray:=by have:=hB8.set 5 (.slice a8 (nr+nu) c8);simpa [tsC] using this
    have hown:Value.ownBlock (ps[i]'HIP.out).2=(Value.slice ar nr cr).ownBlock:=by rw[HPK.out];dsimp only;rw[HU.out,HNR.out]
    have hkeep:∀d,d≠b→(Value.slice ar nr cr).ownBlock≠some d→d<W3.heap.size→(w8.setCell ⟨b,5,none⟩ (.slice a8 (nr+nu) c8)).heap[d]?=W3.heap[d]?:=fun d hdb hdo hdl=>by
     rw[Deep.blk_setCell_other _ ⟨b,5,none⟩ _ d (by dsimp only;exact hdb),ho8.block d (by rw[HDH.out];exact hdl) (by simp;exact hdo),HDH.out]
    refine⟨0,rfl,⟨ov,nm,ps.set i (⟨sc,stag,sq,sp,sst,srows++rows,scur⟩,.slice a8 (nr+nu) c8),bs,HBK3.out.put HIP.out HIB.out _ _ (by rw[HPK.out]) (by rw[HPK.out]) hnew (fun d hdl hdb hdo=>?_) (by rw[HE2.out];exact hBY) ?_ ?_,by rw[HRE.out,List.map_set],Nat.le_succ _,?ftt⟩,?_⟩
    case ftt =>
     refine Ft.sess HB3.out HIB.out HIP.out (fun d hdl hdb hdo=>hkeep d (by rw[HE2.out] at hdb;exact hdb) (by rw[hown] at hdo;exact hdo) hdl) (by rw[Deep.nblk_setCell,←HDH.out];exact ho8.size) fun d hdd=>?_
     rcases hv8 d hdd with h1|h1
     ·exact .inl (by rw[hown];exact h1)
     ·exact .inr (by rw[HDH.out] at h1;exact Nat.le_trans HB3.out.size h1)
    ·exact hkeep d (by rw[HE2.out] at hdb;exact hdb) (by rw[hown] at hdo;exact hdo) hdl
    ·exact hF8.keep fun d hdd=>Deep.blk_setCell_other _ ⟨b,5,none⟩ _ d (by
      dsimp only
      obtain⟨cs2,e2⟩:=hF8.blk (b:=d) (by simpa using hdd)
      exact blk_ne e2 (show w8.heap[b]?=some (.cells _ 41 (0,0)) from hB8) (by decide))
    ·intro d hdd
     rcases hv8 d hdd with h1|h1
     ·exact .inl (by rw[hown];exact h1)
     ·exact .inr (by rw[←HDH.out];exact h1)
    ·have h1:Below base w D:=HBB.out.trans (hD.mono (by have:=HBB.out.size;omega))
     exact(h1.trans (ho8.below (by have:=h1.size;omega) fun d hdd=>(hFD.own d hdd).1)).setCell (p:=⟨b,5,none⟩) HBB2.out _
   have hSd:(fun U:World=>U.cell? ⟨b,5,none⟩=some (.slice ar nr cr)∧U.cell? ⟨w.heap.size,5,none⟩=some (.slice au nu cu)) D:=⟨by rw[show nr=srows.length from HNR.out.symm,←HU.out];exact hBD.cell 5 (by simp),hOD.cell 5 (by simp)⟩
   have hS8:(fun U:World=>U.cell? ⟨b,5,none⟩=some (.slice ar nr cr)∧U.cell? ⟨w.heap.size,5,none⟩=some (.slice au nu cu)) w8:=⟨by rw[show nr=srows.length from HNR.out.symm,←HU.out];exact hB8.cell 5 (by simp),hO8.cell 5 (by simp)⟩
   have f5:=hB8.frozen 5
   have l8:=hB8.lt
   have HS8:=hide hS8
   have HDE:=hide hDe
   clear hBD hOD hFD hVD hr8' hF8 ho8 hv8 hB8 hO8 hS8 hD d5 q5 bl hDe hlt hd
   refine wp_region_two (fun U:World=>U.cell? ⟨b,5,none⟩=some (.slice ar nr cr)∧U.cell? ⟨w.heap.size,5,none⟩=some (.slice au nu cu)) 8 (by kernel_rfl) ?_
   rw[HDE.out]
   refine wpTwo_take (i:=0) (some 23) (v:=?v0_1) rfl rfl (by kernel_rfl) (by kernel_rfl) (by kernel_rfl) (by kernel_rfl) (fun _ _ _ h=>h) hSd (Or.inl ⟨by rfl,?hy0_1⟩) ?rest0_1
   case hy0_1=>(intro w hSw;(try dsimp only at hSw);go_simp;try with_reducible rfl)
   try simp only[Act.put,List.setIfInBounds_toArray,List.set_cons_zero,List.set_cons_succ]
   refine wpTwo_take (i:=1) (some 24) (v:=?v1_1) rfl rfl (by kernel_rfl) (by kernel_rfl) (by kernel_rfl) (by kernel_rfl) (fun _ _ _ h=>h) hSd (Or.inl ⟨by rfl,?hy1_1⟩) ?rest1_1
   case hy1_1=>(intro w hSw;(try dsimp only at hSw);go_simp;try with_reducible rfl)
   try simp only[Act.put,List.setIfInBounds_toArray,List.set_cons_zero,List.set_cons_succ]
   refine wpTwo_take (i:=2) (some 25) (v:=?v2_1) rfl rfl (by kernel_rfl) (by kernel_rfl) (by kernel_rfl) (by kernel_rfl) (fun _ _ _ h=>h) hSd (Or.inl ⟨by rfl,?hy2_1⟩) ?rest2_1
   case hy2_1=>(intro w hSw;(try dsimp only at hSw);go_simp;try with_reducible rfl)
   try simp only[Act.put,List.setIfInBounds_toArray,List.set_cons_zero,List.set_cons_succ]
   refine wpTwo_take (i:=3) (some 26) (v:=?v3_1) rfl rfl (by kernel_rfl) (by kernel_rfl) (by kernel_rfl) (by kernel_rfl) (fun _ _ _ h=>h) hSd (Or.inl ⟨by rfl,?hy3_1⟩) ?rest3_1
   case hy3_1=>(intro w hSw;(try dsimp only at hSw);go_simp;try with_reducible rfl)
   try simp only[Act.put,List.setIfInBounds_toArray,List.set_cons_zero,List.set_cons_succ]
   refine wpTwo_take (i:=4) (some 27) (v:=?v4_1) rfl rfl (by kernel_rfl) (by kernel_rfl) (by kernel_rfl) (by kernel_rfl) (fun _ _ _ h=>h) hSd (Or.inl ⟨by rfl,?hy4_1⟩) ?rest4_1
   case hy4_1=>(intro w hSw;(try dsimp only at hSw);go_simp;try with_reducible rfl)
   try simp only[Act.put,List.setIfInBounds_toArray,List.set_cons_zero,List.set_cons_succ]
   refine wpTwo_take (i:=5) (some 28) (v:=?v5_1) rfl rfl (by kernel_rfl) (by kernel_rfl) (by kernel_rfl) (by kernel_rfl) (fun _ _ _ h=>h) hSd (Or.inl ⟨by rfl,?hy5_1⟩) ?rest5_1
   case hy5_1=>(intro w hSw;(try dsimp only at hSw);go_simp;try with_reducible rfl)
   try simp only[Act.put,List.setIfInBounds_toArray,List.set_cons_zero,List.set_cons_succ]
   refine wpTwo_take (i:=6) (some 29) (v:=?v6_1) rfl rfl (by kernel_rfl) (by kernel_rfl) (by kernel_rfl) (by kernel_rfl) (fun _ _ _ h=>h) hSd (Or.inl ⟨by rfl,?hy6_1⟩) ?rest6_1
   case hy6_1=>(intro w hSw;(try dsimp only at hSw);go_simp;try with_reducible rfl)
   try simp only[Act.put,List.setIfInBounds_toArray,List.set_cons_zero,List.set_cons_succ]
   refine wpTwo_one (j:=7) (by kernel_rfl) rfl (fun K2 hK=>?_)
   refine step_app rfl _ _ 26 rfl hr8 (by first|rfl|simp[Act.eval,Act.put]) (by first|rfl|simp[Act.eval,Act.put]) ?_
   refine hK.out _ _ (fun _=>HS8.out) ?_
   clear hK K2
   try simp only[Act.put,List.setIfInBounds_toArray,List.set_cons_zero,List.set_cons_succ]
   refine wpTwo_one (j:=8) (by kernel_rfl) rfl (fun K2 hK=>?_)
   go_simp
   refine hK.out _ _ (fun h=>absurd h (by decide)) ?_
   clear hK K2
   try simp only[Act.put,List.setIfInBounds_toArray,List.set_cons_zero,List.set_cons_succ]
   refine wpTwo_one (j:=9) (by kernel_rfl) rfl (fun K2 hK=>?_)
   go_simp
   refine hK.out _ _ (fun h=>absurd h (by decide)) ?_
   clear hK K2
   try simp only[Act.put,List.setIfInBounds_toArray,List.set_cons_zero,List.set_cons_succ]
   have d8:w8.cell? ⟨b,5,none⟩=some (.slice ar nr cr):=HS8.out.1
   refine wpTwo_one (j:=10) (by kernel_rfl) rfl (fun K2 hK=>?_)
   go_simp
   refine hK.out _ _ (fun h=>absurd h (by decide)) ?_
   clear hK K2
   refine wpTwo_done (by kernel_rfl) ?_ _
   go_wp2_with fail
   go_ret
   exact HFIN.out
set_option maxRecDepth 100000 in
set_option maxHeartbeats 4000000 in
theorem indexP_any (bs:List Nat) (i:Nat) (g n c:Nat) (w:World) (hv:∀j (h:j<bs.length),w.cell? ⟨g,j,none⟩=some (.pointer (some ⟨bs[j],0,none⟩))) (hh:∀b∈bs,∃cs,w.heap[b]?=some (.cells cs 41 (0,0))) (hn:bs.length=n) (hl:n≤1000) (hi:i<bs.length) {b:Nat} (hb:bs[i]=b) (hnd:bs.Nodup) :
  Calls Tryz.prog 99 #[.slice (some ⟨g,0,none⟩) n c,.pointer (some ⟨b,0,none⟩)] w fun e w'=>e=.returned (.int .i64 (i:Int))∧w'=w:=by
 have HV:=hide hv
 have HH:=hide hh
 obtain⟨i0,hi0,_,hz1,_⟩:=info_parts info_Sess
 have HN:=hide hn
 have HI:=hide hi
 have HND:Hid (∀j (h:j<bs.length),j<i→bs[i]≠bs[j]):=fun j h hji e=>List.pairwise_iff_getElem.1 hnd j i h HI.out hji e.symm
 have HBI:Hid (bs[i]'HI.out=b):=hb
 have hin:i<n:=by omega
 clear hv hn hb hnd hi hh
 go_enter Tryz.func99,Tryz.ntmps99
 go_wp2_with fail
 go_loopg [8] n (fun q v wr=>∃k:Nat,k≤i∧q=n - k∧v=.int .i64 (k:Int)∧wr=w)
 case atStart=>exact⟨0,zrL _,rfl,rfl,rfl⟩
 case round =>
  obtain⟨k,hk,rfl,rfl,rfl⟩:=hrel
  have hki:(k:Int)<(n:Int):=by omega
  have hk0:(0:Int)≤(k:Int):=by omega
  have hkl:k<bs.length:=by rw[HN.out];omega
  by_cases he:k=i
  ·subst he
   have m0:wr.cell? ⟨g,k,none⟩=some (.pointer (some ⟨b,0,none⟩)):=by rw[←HBI.out];exact HV.out k hkl
   have he:∀W:World,(binOp .eql 84 (.pointer (some ⟨b,0,none⟩)) (.pointer (some ⟨b,0,none⟩))).run Tryz.prog W=.ok (.bool true) W:=fun W=>run_eql_ptr_same W ⟨b,0,none⟩ Tryz.underlying84 hi0
   go_wp2_with fail
   go_ret
   exact⟨rfl,rfl⟩
  ·obtain⟨z,hz⟩:∃z,bs[k]=z:=⟨_,rfl⟩
   have m0:wr.cell? ⟨g,k,none⟩=some (.pointer (some ⟨z,0,none⟩)):=by rw[←hz];exact HV.out k hkl
   have hne:b≠z:=by rw[←hz,←HBI.out];exact HND.out k hkl (by omega)
   have he:(binOp .eql 84 (.pointer (some ⟨b,0,none⟩)) (.pointer (some ⟨z,0,none⟩))).run Tryz.prog wr=.ok (.bool false) wr:=by
    obtain⟨cb,eb⟩:=HH.out b (by rw[←HBI.out];exact List.getElem_mem _)
    obtain⟨cz,ez⟩:=HH.out z (by rw[←hz];exact List.getElem_mem _)
    exact run_eql_ptr_other wr Tryz.underlying84 hi0 (by rw[hz1];decide) (fun e=>hne (by injection e)) eb ez
   clear hz
   go_wp2_with fail
   go_roundg (n - (k+1))
   case measure=>omega
   case rel=>exact⟨k+1,by omega,rfl,by go_num,rfl⟩
theorem Box.setCellsP:∀(L:List Value) (o:Nat) {w:World} {b:Nat} {t:TypeId} {arr:Array Value},Box w b t arr→∃arr',Box (w.setCells b o L) b t arr'∧arr'.size=arr.size∧∀i,i<o→arr'[i]?=arr[i]?
 | [],o,w,b,t,arr,h=>⟨arr,h,rfl,fun _ _=>rfl⟩
 | v :: L,o,w,b,t,arr,h=>by
  obtain⟨arr',h1,h2,h3⟩:=Box.setCellsP L (o+1) (h.set o v)
  refine⟨arr',h1,by rw[h2,Array.size_setIfInBounds],fun i hi=>?_⟩
  rw[h3 i (by omega),Array.getElem?_setIfInBounds_ne (by omega)]
theorem Only.setCellsP:∀(L:List Value) (o:Nat) {w w0:World} {b:Nat},Only [b] w0 w→Only [b] w0 (w.setCells b o L)
 | [],_,_,_,_,h=>h
 | v :: L,o,w,w0,b,h=>Only.setCellsP L (o+1) (h.setCell (by simp) v)
theorem Box.cellAtP {w:World} {b:Nat} {t:TypeId} {arr:Array Value} (h:Box w b t arr) (i:Nat):w.cell? ⟨b,i,none⟩=arr[i]?:=by
 unfold Box at h
 simp[World.cell?,h]
theorem clearP {w:World} {b o n c:Nat} {arr:Array Value} (h:Box w b 84 arr) (hn:o+n≤arr.size) (ty:TypeId) :
  ∃w' arr',(Builtin.clear_ #[80] ty #[.slice (some ⟨b,o,none⟩) n c]).run Tryz.prog w=.ok (.tuple #[]) w'∧Only [b] w w'∧Box w' b 84 arr'∧arr'.size=arr.size∧∀i,i<o→arr'[i]?=arr[i]?:=by
 cases n with
 | zero =>
  refine⟨w,arr,?_,Only.refl _ _,h,rfl,fun _ _=>rfl⟩
  simp[Builtin.clear_,Tryz.underlying80,go_sem]
 | succ m =>
  obtain⟨L,hL⟩:∃L,(Builtin.zeroCells (#[.pointer none]:Array Value) (m+1)).toList=L:=⟨_,rfl⟩
  have hLl:L.length=m+1:=by rw[←hL];simp[Builtin.zeroCells]
  have hL1:∀v∈L,v.oneCell'=true:=fun v hv=>by
   rw[←hL] at hv
   simp[Builtin.zeroCells] at hv
   obtain⟨a,_,rfl⟩:=hv
   rw[Nat.mod_one]
   rfl
  have hst:=run_storeCells_cells (P:=Tryz.prog) b o L 0 w (fun j hj=>by rw[Nat.add_zero,h.cellAtP,Array.getElem?_eq_getElem (by omega)];rfl) (fun j hj=>by rw[Nat.add_zero];exact h.frozen _) hL1
  rw[Nat.add_zero] at hst
  obtain⟨arr',h1,h2,h3⟩:=h.setCellsP L o
  refine⟨w.setCells b o L,arr',?_,Only.setCellsP L o (Only.refl _ _),h1,h2,h3⟩
  simp[Builtin.clear_,Tryz.underlying80,go_sem,zeroPtr,Value.cells,hL,hst]
theorem flatP_take (bs:List Nat) (i:Nat):flat pC (bs.take i)=(flat pC bs).take i:=by
 have e:∀xs:List Nat,flat pC xs=xs.map fun b=>.pointer (some ⟨b,0,none⟩):=fun xs=>by
  induction xs with
  | nil=>rfl
  | cons x l ih=>simp[flat,pC] at ih ⊢;exact ih
 rw[e,e,List.map_take]
theorem flatP_get (bs:List Nat) (j:Nat):(flat pC bs)[j]?=bs[j]?.map fun b=>.pointer (some ⟨b,0,none⟩):=by
 have e:∀xs:List Nat,flat pC xs=xs.map fun b=>.pointer (some ⟨b,0,none⟩):=fun xs=>by
  induction xs with
  | nil=>rfl
  | cons x l ih=>simp[flat,pC] at ih ⊢;exact ih
 rw[e,List.getElem?_map]
theorem FB.rowCell {base:Nat} {w:World} {g n cap:Nat} {bs:List Nat} (h:FB pC 1 84 base w (.slice (some ⟨g,0,none⟩) n cap) bs) (j:Nat) (hj:j<bs.length):w.cell? ⟨g,j,none⟩=some (.pointer (some ⟨bs[j],0,none⟩)):=by
 obtain⟨hlen,⟨e,h0⟩|⟨g',cap',cur,e,hg,hs,hcap,hm,hsz,htk⟩⟩:=h
 ·cases e
 ·injection e with e1 e2 e3
  injection e1 with e1
  injection e1 with e1 _ _
  subst e1 e3
  have hB:Box w g 84 cur:=hs
  rw[hB.cellAtP]
  have h2:=flatP_get bs j
  rw[←htk,List.getElem?_take,if_pos (by omega),Array.getElem?_toList,List.getElem?_eq_getElem hj] at h2
  simpa using h2
theorem FB.rowBox {base:Nat} {w:World} {g n cap:Nat} {bs:List Nat} (h:FB pC 1 84 base w (.slice (some ⟨g,0,none⟩) n cap) bs):base≤g∧n=bs.length∧n≤cap∧cap≤9223372036854775807∧∃cur,Box w g 84 cur∧cur.size=cap∧cur.toList.take n=flat pC bs:=by
 obtain⟨hlen,⟨e,h0⟩|⟨g',cap',cur,e,hg,hs,hcap,hm,hsz,htk⟩⟩:=h
 ·cases e
 ·injection e with e1 e2 e3
  injection e1 with e1
  injection e1 with e1 _ _
  subst e1 e3
  rw[Nat.mul_one] at hsz
  rw[Nat.mul_one,←e2] at htk
  exact⟨hg,e2,by omega,by unfold maxLen at hm;omega,cur,hs,hsz,htk⟩
theorem FB.ofRow {base:Nat} {w:World} {g cap:Nat} {bs:List Nat} {cur:Array Value} (hg:base≤g) (hB:Box w g 84 cur) (hsz:cur.size=cap) (hc:bs.length≤cap) (hm:cap≤9223372036854775807) (ht:cur.toList.take bs.length=flat pC bs):FB pC 1 84 base w (.slice (some ⟨g,0,none⟩) bs.length cap) bs :=
 ⟨by rw[flat_len (c:=1) (fun _=>rfl)],.inr ⟨g,cap,cur,rfl,hg,hB,hc,by unfold maxLen;omega,by omega,by rw[Nat.mul_one];exact ht⟩⟩
theorem pflat_one {bs:List Nat}:∀u∈flat pC bs,u.oneCell'=true:=fun u hu=>by
 simp only[flat,List.mem_flatten,List.mem_map] at hu
 obtain⟨l,⟨x,_,rfl⟩,hu⟩:=hu
 rw[List.mem_singleton.1 hu]
 rfl
theorem appDel {base:Nat} {w:World} {g n cap:Nat} {bs:List Nat} (h:FB pC 1 84 base w (.slice (some ⟨g,0,none⟩) n cap) bs) {i j:Nat} (hi:i<n) (hj:i+1=j) (a:Addr) (c:Nat) (ha:j<n→a=⟨g,j,none⟩) (ty:TypeId) :
  ∃w',(Builtin.append_ #[80,80] ty #[.slice (some ⟨g,0,none⟩) i cap,.slice (some a) (n - j) c]).run Tryz.prog w=.ok (.slice (some ⟨g,0,none⟩) (n - 1) cap) w'∧FB pC 1 84 base w' (.slice (some ⟨g,0,none⟩) (n - 1) cap) (bs.eraseIdx i)∧Only [g] w w':=by
 obtain⟨i0,hi0,_,hz1,_⟩:=info_parts pinfo
 obtain⟨hg,hn,hnc,hcm,cur,hB,hcs,htk⟩:=h.rowBox
 have hnews:∀k u,(flat pC (bs.drop j))[k]?=some u→w.cell? (a.add k)=some u:=fun k u hu=>by
  rw[flatP_get,List.getElem?_drop] at hu
  have hlt:j+k<bs.length:=by
   by_cases hlt:j+k<bs.length
   ·exact hlt
   ·rw[List.getElem?_eq_none (by omega)] at hu;cases hu
  rw[List.getElem?_eq_getElem hlt] at hu
  simp at hu
  rw[ha (by omega)]
  have e2:((⟨g,j,none⟩:Addr).add k)=⟨g,j+k,none⟩:=by
   simp only[Addr.add]
   by_cases h0:k=0
   ·subst h0;simp
   ·rw[if_neg h0]
  rw[e2,h.rowCell _ hlt,←hu]
 have hfl:(flat pC (bs.drop j)).length=n - j:=by rw[flat_len (c:=1) (fun _=>rfl),List.length_drop];omega
 have hr:=run_append_room (P:=Tryz.prog) w 80 ty 84 i0 Tryz.underlying80 hi0 g i cap cur hB a (n - j) c (flat pC (bs.drop j)) (by rw[hz1,hfl];omega) hnews pflat_one (by omega) (by rw[hz1,hfl];omega)
 rw[show i+(n - j)=n - 1 by omega] at hr
 refine⟨_,hr,?_,⟨rfl,rfl,rfl,by simp[World.setRow],fun k _ hk=>setRow_other w g k _ (fun e=>hk (by simp[e]))⟩⟩
 have hln:n - 1=(bs.eraseIdx i).length:=by rw[List.length_eraseIdx,if_pos (by omega)];omega
 rw[hln]
 refine FB.ofRow hg (show Box _ g 84 _ from setRow_heap w g cur _ 84 _ hB) ?_ (by omega) hcm ?_
 ·simp only[List.size_toArray,List.length_append,List.length_take,List.length_drop,Array.length_toList,hz1,hfl]
  omega
 ·have e1:cur.toList.take i=flat pC (bs.take i):=by rw[flatP_take,←htk,List.take_take,Nat.min_eq_left (by omega)]
  rw[hz1,Nat.mul_one,e1,List.toList_toArray,←hln,List.eraseIdx_eq_take_drop_succ,hj,show flat pC (bs.take i++bs.drop j)=flat pC (bs.take i)++flat pC (bs.drop j) from by simp[flat]]
  have hlen:(flat pC (bs.take i)++flat pC (bs.drop j)).length=n - 1:=by rw[List.length_append,hfl,flat_len (c:=1) (fun _=>rfl),List.length_take];omega
  rw[←hlen]
  exact List.take_left
theorem clrDel {base:Nat} {w:World} {g n cap:Nat} {bs:List Nat} (h:FB pC 1 84 base w (.slice (some ⟨g,0,none⟩) n cap) bs) (m c:Nat) (hm:n+m≤cap) (ty:TypeId) :
  ∃w',(Builtin.clear_ #[80] ty #[.slice (some ⟨g,n,none⟩) m c]).run Tryz.prog w=.ok (.tuple #[]) w'∧FB pC 1 84 base w' (.slice (some ⟨g,0,none⟩) n cap) bs∧Only [g] w w':=by
 obtain⟨hg,hn,hnc,hcm,cur,hB,hcs,htk⟩:=h.rowBox
 obtain⟨w',arr',hr,ho,hB',hs',hk⟩:=clearP (c:=c) hB (o:=n) (n:=m) (by omega) ty
 refine⟨w',hr,?_,ho⟩
 subst hn
 refine FB.ofRow hg hB' (by omega) (by omega) hcm ?_
 rw[←htk]
 apply List.ext_getElem?
 intro k
 rw[List.getElem?_take,List.getElem?_take]
 by_cases h1:k<bs.length
 ·rw[if_pos h1,if_pos h1,Array.getElem?_toList,Array.getElem?_toList,hk k h1]
 ·rw[if_neg h1,if_neg h1]
theorem slThree (g n c i j:Nat) (hi:i<n) (hj:i+1=j) (hn:n≤c) (w:World):(Instr.slice 80 (.slice (some ⟨g,0,none⟩) n c) (some (.int .i64 (i:Int))) (some (.int .i64 (j:Int))) (some (.int .i64 (n:Int)))).run Tryz.prog w=.ok (.slice (some ⟨g,i,none⟩) 1 (n - i)) w:=by
 have h1:(i:Int)≤(j:Int):=by omega
 have h2:(j:Int)≤(n:Int):=by omega
 have h3:(n:Int)≤(c:Int):=by omega
 have h4:n - i≠0:=by omega
 have h5:¬n≤i:=by omega
 have h6:¬n=i:=by omega
 have h7:j - i=1:=by omega
 simp[go_sem,Tryz.underlying80,h1,h2,h3,h4,h5,h6,h7]
 try omega
theorem slTo (g n c i:Nat) (hi:i≤c) (w:World):(Instr.slice 80 (.slice (some ⟨g,0,none⟩) n c) none (some (.int .i64 (i:Int))) none).run Tryz.prog w=.ok (.slice (some ⟨g,0,none⟩) i c) w:=by
 have h1:(i:Int)≤(c:Int):=by omega
 simp[go_sem,Tryz.underlying80,h1]
theorem slFrom (g n c j:Nat) (hj:j≤n) (hn:n≤c):∃a:Addr,(j<n→a=⟨g,j,none⟩)∧∀w:World,(Instr.slice 80 (.slice (some ⟨g,0,none⟩) n c) (some (.int .i64 (j:Int))) none none).run Tryz.prog w=.ok (.slice (some a) (n - j) (c - j)) w:=by
 have h1:(j:Int)≤(n:Int):=by omega
 by_cases hc:j<c
 ·refine⟨⟨g,j,none⟩,fun _=>rfl,fun w=>?_⟩
  have h2:c - j≠0:=by omega
  have h3:¬c≤j:=by omega
  simp[go_sem,Tryz.underlying80,h1,h2,h3]
  try omega
 ·refine⟨⟨g,0,none⟩,fun h=>absurd h (by omega),fun w=>?_⟩
  have h2:c - j=0:=by omega
  have h3:c≤j:=by omega
  have h4:c=j:=by omega
  subst h4
  simp[go_sem,Tryz.underlying80,h1,h2,h3]
theorem slTail (g n c m:Nat) (hm:m<n) (hn:n≤c) (w:World):(Instr.slice 80 (.slice (some ⟨g,0,none⟩) m c) (some (.int .i64 (m:Int))) (some (.int .i64 (n:Int))) none).run Tryz.prog w=.ok (.slice (some ⟨g,m,none⟩) (n - m) (c - m)) w:=by
 have h1:(m:Int)≤(n:Int):=by omega
 have h2:(n:Int)≤(c:Int):=by omega
 have h3:c - m≠0:=by omega
 have h4:¬c≤m:=by omega
 have h5:¬c=m:=by omega
 simp[go_sem,Tryz.underlying80,h1,h2,h3,h4,h5]
 try omega
theorem wpList_clrP {ops:Array Oper} {rest:List Oper} {o:Oper} {a:Act} {Q:Exit→Act→World→Prop} {w w':World} {v v':Value} (hgd:o.guard=none) (s:Operand) (t:TypeId)
  (ho:o.op=.call { callee:=.builtin .clear,args:=#[s],argTypes:=#[t] }) (hr:(Builtin.clear_ #[t] o.type #[v]).run Tryz.prog w=.ok v' w') (hs:a.eval s=v) (h:wpList Tryz.prog ops Q rest (a.put o.dst v') w') :
  wpList Tryz.prog ops Q (o :: rest) a w:=by
 refine wpList_plain hgd fun K hK=>?_
 unfold Oper.wp execOp
 simp only[ho,resolve,invoke,builtin,Sem.run_bind,Sem.run_pure,Result.andThen_ok,List.map_toArray,List.map_cons,List.map_nil,hs,hr]
 exact hK _ _ h
theorem YS {P:Program} {t:TypeId} {x v:Value} {lo hi mx:Option Value} (h:∀w:World,(Instr.slice t x lo hi mx).run P w=.ok v w) (w:World):(do let a ←Instr.slice t x lo hi mx;pure (Next.value a):Sem Next).run P w=.ok (.value v) w:=by
 simp[h w]
set_option maxRecDepth 100000 in
set_option maxHeartbeats 4000000 in
theorem deleteP_any {base:Nat} {w:World} {g n cap:Nat} {bs:List Nat} (h:FB pC 1 84 base w (.slice (some ⟨g,0,none⟩) n cap) bs) (hl:n≤1000) {i:Nat} (hi:i<n) :
  Calls Tryz.prog 100 #[.slice (some ⟨g,0,none⟩) n cap,.int .i64 (i:Int),.int .i64 ((i:Int)+1)] w fun e w'=>e=.returned (.slice (some ⟨g,0,none⟩) (n - 1) cap)∧FB pC 1 84 base w' (.slice (some ⟨g,0,none⟩) (n - 1) cap) (bs.eraseIdx i)∧Only [g] w w':=by
 have hnc:=h.rowBox.2.2.1
 have hcm:=h.rowBox.2.2.2.1
 obtain⟨j,hj⟩:∃j,i+1=j:=⟨_,rfl⟩
 have HJ:=hide hj
 rw[show ((i:Int)+1)=(j:Int) by omega]
 obtain⟨m,hm⟩:∃m,n - 1=m:=⟨_,rfl⟩
 have HM:=hide hm
 rw[hm]
 obtain⟨a,ha,s3⟩:=slFrom g n cap j (by omega) hnc
 have hic:i≤cap:=by omega
 have hjn:j≤n:=by omega
 have hD:Below w.heap.size w w.drew:=(Below.refl _ _).drew
 obtain⟨w1,hr1,hF1,ho1⟩:=appDel (h.below hD) hi hj a (cap - j) ha 80
 rw[hm] at hr1 hF1
 obtain⟨w2,hr2,hF2,ho2⟩:=clrDel hF1 (n - m) (cap - m) (by omega) 0
 have s1:=slThree g n cap i j hi hj hnc
 have s2:=slTo g n cap i (by omega)
 have s4:=slTail g n cap m (by omega) hnc
 have HFIN:Hid (FB pC 1 84 base w2 (.slice (some ⟨g,0,none⟩) m cap) (bs.eraseIdx i)∧Only [g] w w2):=⟨hF2,(Only.of_below hD).trans (ho1.trans ho2)⟩
 have hij:((i:Int) == (j:Int))=false:=by simp;omega
 clear h hF1 ho1 hF2 ho2 hD hj hm ha
 go_enter Tryz.func100,Tryz.ntmps100
 go_wp2_with fail
 refine wp_region_two (fun U:World=>True) 7 (by kernel_rfl) ?_
 refine wpTwo_take (i:=0) (some 20) (v:=?v0_1) rfl rfl (by kernel_rfl) (by kernel_rfl) (by kernel_rfl) (by kernel_rfl) (fun _ _ _ h=>h) trivial (Or.inl ⟨by rfl,?hy0_1⟩) ?rest0_1
 case hy0_1=>(intro w hSw;(try dsimp only at hSw);go_simp;try with_reducible rfl)
 try simp only[Act.put,List.setIfInBounds_toArray,List.set_cons_zero,List.set_cons_succ]
 refine wpTwo_take (i:=1) (some 21) (v:=?v1_1) rfl rfl (by kernel_rfl) (by kernel_rfl) (by kernel_rfl) (by kernel_rfl) (fun _ _ _ h=>h) trivial (Or.inl ⟨by rfl,?hy1_1⟩) ?rest1_1
 case hy1_1=>(intro w hSw;(try dsimp only at hSw);go_simp;try with_reducible rfl)
 try simp only[Act.put,List.setIfInBounds_toArray,List.set_cons_zero,List.set_cons_succ]
 refine wpTwo_take (i:=2) (some 22) (v:=.slice (some ⟨g,0,none⟩) i cap) rfl rfl (by kernel_rfl) (by kernel_rfl) (by kernel_rfl) (by kernel_rfl) (fun _ _ _ h=>h) trivial (Or.inl ⟨by rfl,fun w hSw=>YS s2 w⟩) ?_
 try simp only[Act.put,List.setIfInBounds_toArray,List.set_cons_zero,List.set_cons_succ]
 refine wpTwo_take (i:=3) (some 23) (v:=?v3_1) rfl rfl (by kernel_rfl) (by kernel_rfl) (by kernel_rfl) (by kernel_rfl) (fun _ _ _ h=>h) trivial (Or.inl ⟨by rfl,?hy3_1⟩) ?rest3_1
 case hy3_1=>(intro w hSw;(try dsimp only at hSw);go_simp;try with_reducible rfl)
 try simp only[Act.put,List.setIfInBounds_toArray,List.set_cons_zero,List.set_cons_succ]
 refine wpTwo_take (i:=4) (some 24) (v:=?v4_1) rfl rfl (by kernel_rfl) (by kernel_rfl) (by kernel_rfl) (by kernel_rfl) (fun _ _ _ h=>h) trivial (Or.inl ⟨by rfl,?hy4_1⟩) ?rest4_1
 case hy4_1=>(intro w hSw;(try dsimp only at hSw);go_simp;try with_reducible rfl)
 try simp only[Act.put,List.setIfInBounds_toArray,List.set_cons_zero,List.set_cons_succ]
 refine wpTwo_take (i:=5) (some 25) (v:=.slice (some a) (n - j) (cap - j)) rfl rfl (by kernel_rfl) (by kernel_rfl) (by kernel_rfl) (by kernel_rfl) (fun _ _ _ h=>h) trivial (Or.inl ⟨by rfl,fun w hSw=>YS s3 w⟩) ?_
 try simp only[Act.put,List.setIfInBounds_toArray,List.set_cons_zero,List.set_cons_succ]
 refine wpTwo_one (j:=6) (by kernel_rfl) rfl (fun K2 hK=>?_)
 refine step_app rfl _ _ 80 rfl hr1 (by first|rfl|simp[Act.eval,Act.put]) (by first|rfl|simp[Act.eval,Act.put]) ?_
 refine hK.out _ _ (fun _=>trivial) ?_
 clear hK K2
 try simp only[Act.put,List.setIfInBounds_toArray,List.set_cons_zero,List.set_cons_succ]
 refine wpTwo_one (j:=7) (by kernel_rfl) rfl (fun K2 hK=>?_)
 go_simp
 refine hK.out _ _ (fun h=>absurd h (by decide)) ?_
 clear hK K2
 refine wpTwo_done (by kernel_rfl) ?_ _
 go_wp2_with (first|(at_builtin;refine wpList_clrP rfl _ 80 rfl hr2 (by first|rfl|simp[Act.eval,Act.put]) ?_))
 go_ret
 exact⟨rfl,HFIN.out⟩
end Go.Proofs.YtglcdcekkglmiaaGreatDoor.Msg
