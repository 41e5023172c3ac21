import Derived.Test.YtglcdcekkglmiaaGreatDoorG27
namespace Go.Proofs.YtglcdcekkglmiaaGreatDoor.Msg
open Go.ChangeShapes Go.WideShapes Go.ChangeAt Go.RowKit
set_option linter.unusedVariables false
set_option linter.unusedSimpArgs false
def KU (ps:List (Sess × Value)):Prop:=ps.Pairwise fun p q=>¬(p.1.client=q.1.client∧p.1.tag=q.1.tag)
theorem keyF_cons (p:Sess × Value) (ps:List (Sess × Value)) (b:Nat) (bs:List Nat) (c:Int) (t:ByteArray):keyF (p :: ps) (b :: bs) c t=if c=p.1.client∧t=p.1.tag then some b else keyF ps bs c t:=by
 unfold keyF
 rw[List.zip_cons_cons,List.find?_cons]
 by_cases h:c=p.1.client∧t=p.1.tag
 ·rw[if_pos h,decide_eq_true h.1.symm,decide_eq_true h.2.symm]
  rfl
 ·rw[if_neg h]
  have:(decide (p.1.client=c) && decide (p.1.tag=t))=false:=by
   rw[Bool.and_eq_false_iff]
   by_cases h1:p.1.client=c
   ·right
    rw[decide_eq_false_iff_not]
    exact fun e=>h ⟨h1.symm,e.symm⟩
   ·left
    simpa using h1
  simp only[this]
theorem keyF_gone:∀(ps:List (Sess × Value)) (bs:List Nat) (c:Int) (t:ByteArray),(∀p∈ps,¬(c=p.1.client∧t=p.1.tag))→keyF ps bs c t=none
 | [],_,c,t,_=>by simp[keyF]
 | p :: ps,[],c,t,_=>by simp[keyF]
 | p :: ps,b :: bs,c,t,h=>by rw[keyF_cons,if_neg (h p (by simp))];exact keyF_gone ps bs c t fun q hq=>h q (List.mem_cons_of_mem _ hq)
theorem keyF_erase:∀(ps:List (Sess × Value)) (bs:List Nat) (i:Nat) (hi:i<ps.length),bs.length=ps.length→KU ps→keyF (ps.eraseIdx i) (bs.eraseIdx i)=fun j t=>if j=ps[i].1.client∧t=ps[i].1.tag then none else keyF ps bs j t
 | [],_,i,hi,_,_=>by simp at hi
 | p :: ps,[],i,hi,hl,_=>by simp at hl
 | p :: ps,b :: bs,0,hi,hl,hu=>by
  funext j t
  rw[List.eraseIdx_cons_zero,List.eraseIdx_cons_zero]
  have hu':=List.pairwise_cons.1 hu
  by_cases h:j=p.1.client∧t=p.1.tag
  ·simp only[List.getElem_cons_zero,if_pos h]
   exact keyF_gone ps bs j t fun q hq e=>hu'.1 q hq ⟨h.1.symm.trans e.1,h.2.symm.trans e.2⟩
  ·simp only[List.getElem_cons_zero,if_neg h,keyF_cons]
 | p :: ps,b :: bs,i+1,hi,hl,hu=>by
  funext j t
  have hu':=List.pairwise_cons.1 hu
  have hi':i<ps.length:=by simpa using hi
  have ih:=congrFun (congrFun (keyF_erase ps bs i hi' (by simpa using hl) hu'.2) j) t
  rw[List.eraseIdx_cons_succ,List.eraseIdx_cons_succ,keyF_cons,keyF_cons,ih]
  simp only[List.getElem_cons_succ]
  by_cases h1:j=p.1.client∧t=p.1.tag
  ·rw[if_pos h1]
   by_cases h2:j=ps[i].1.client∧t=ps[i].1.tag
   ·exact absurd ⟨h1.1.symm.trans h2.1,h1.2.symm.trans h2.2⟩ (hu'.1 _ (List.getElem_mem hi'))
   ·rw[if_neg h2,if_pos h1]
  ·simp only[if_neg h1]
set_option maxRecDepth 100000 in
set_option maxHeartbeats 16000000 in
theorem takeOut_any {base:Nat} {w:World} {K M:Nat} {ov:Value} {nm:Nat} {ps:List (Sess × Value)} {bs:List Nat} (h:BK base w K M ov nm ps bs) (hbase:base≤w.heap.size) (hl:bs.length≤1000) (hu:KU ps) (hcw:∀p∈ps,(Lit.int .i64 p.1.client).wf=true) {i:Nat} (hi:i<bs.length) {b:Nat} (hb:bs[i]=b) :
  Calls Tryz.prog 88 #[.pointer (some ⟨K,0,none⟩),.pointer (some ⟨b,0,none⟩)] w fun e w'=>e=.returned (.tuple #[])∧(∃ov',BK base w' K M ov' nm (ps.eraseIdx i) (bs.eraseIdx i)∧Ft (BIn K M ov ps bs) w (BIn K M ov' (ps.eraseIdx i) (bs.eraseIdx i)) w')∧Below base w w'∧∀(d:Nat) (cs:Array Value) (t:TypeId),w.heap[d]?=some (Obj.cells cs t (0,0))→t≠84→t≠83→w'.heap[d]?=w.heap[d]?:=by
 have HH:=hide h
 have HIB:=hide hi
 have HIP:Hid (i<ps.length):=by show _<_;rw[←h.len];exact hi
 have HKE:=hide (keyF_erase ps bs i HIP.out h.len hu)
 obtain⟨g,cap,hov⟩:∃g cap,ov=.slice (some ⟨g,0,none⟩) bs.length cap:=by
  obtain⟨_,⟨e,h0⟩|⟨g,cap,cur,e,_⟩⟩:=id h.row
  ·omega
  ·exact⟨g,cap,e⟩
 subst hov
 obtain⟨n,hn⟩:∃n,bs.length=n:=⟨_,rfl⟩
 rw[hn] at HH hl
 have HN:=hide hn
 have hin:i<n:=by omega
 have HIX:=hide (indexP_any bs i g n cap w (fun j hj=>HH.out.row.rowCell j hj) (fun d hd=>by
  obtain⟨k,hk,rfl⟩:=List.mem_iff_getElem.1 hd
  exact⟨_,HH.out.ses k (by rw[←HH.out.len];exact hk) hk⟩) hn hl hi hb HH.out.nb)
 have HDEL:=hide (deleteP_any (base:=base) HH.out.row hl hin)
 have hBs:=HH.out.ses i HIP.out hi
 rw[hb] at hBs
 have hels:=HH.out.els _ (List.getElem_mem HIP.out)
 have hcwi:=hcw _ (List.getElem_mem HIP.out)
 obtain⟨⟨⟨client,tag,query,page,state,rows,cursor⟩,u⟩,hpk⟩:∃p,ps[i]'HIP.out=p:=⟨_,rfl⟩
 rw[hpk] at hBs hels hcwi
 have HKE2:Hid (keyF (ps.eraseIdx i) (bs.eraseIdx i)=fun j t=>if j=client∧t=tag then none else keyF ps bs j t):=by have:=HKE.out;rw[hpk] at this;exact this
 obtain⟨ar,cr,hue,_⟩:=hels.2.form
 dsimp only at hue
 obtain⟨nr,hnr⟩:∃q,rows.length=q:=⟨_,rfl⟩
 rw[hnr] at hue
 subst hue
 have htg:tag.size≤9223372036854775807:=hels.1.1
 have HBS:Hid (Box w b 41 #[.int .i64 client,.string tag,.string query,.int .i64 page,.int .i64 state,.slice ar nr cr,.int .i64 cursor]):=hBs
 have k0:w.cell? ⟨K,0,none⟩=some (.slice (some ⟨g,0,none⟩) n cap):=HH.out.box.cell 0 (by simp)
 have HGK:Hid (∀(d:Nat) (cs:Array Value) (t:TypeId),w.heap[d]?=some (Obj.cells cs t (0,0))→t≠84→d≠g):=fun d cs t hd ht=>by
  obtain⟨cs2,e2⟩:=HH.out.rowBlk (b:=g) (by simp[Value.ownBlock])
  exact blk_ne hd e2 ht
 clear h hu hcw hi hb hn hBs hels hpk HKE hnr
 go_enter Tryz.func88,Tryz.ntmps88
 go_wp2_with fail
 refine HIX.out.mono ?_
 rintro e y ⟨rfl,hy⟩
 (try rw[hy])
 clear hy y HIX
 go_wp2_with fail
 refine HDEL.out.mono ?_
 rintro e W1 ⟨rfl,hF1,ho1⟩
 have HO1F:=hide ho1
 have HT1:Hid (∀(d:Nat) (cs:Array Value) (t:TypeId),w.heap[d]?=some (Obj.cells cs t (0,0))→t≠84→W1.heap[d]?=w.heap[d]?):=fun d cs t hdd ht=>ho1.block d (by rcases Nat.lt_or_ge d w.heap.size with h'|h';exact h';rw[Array.getElem?_eq_none h'] at hdd;cases hdd) (by simp;exact HGK.out d _ _ hdd ht)
 have HM1:Hid (W1.heap[M]?=w.heap[M]?):=ho1.block M HH.out.map.lt (by
  obtain⟨cs2,e2⟩:=HH.out.rowBlk (b:=g) (by simp[Value.ownBlock])
  simp
  exact fun e=>HH.out.map.neB e2 e.symm)
 have hK1:Box W1 K 83 #[.slice (some ⟨g,0,none⟩) n cap,.map (some M)]:=HH.out.box.keep (HT1.out K _ _ HH.out.box (by decide))
 obtain⟨Y,hY⟩:∃x,W1.setCell ⟨K,0,none⟩ (.slice (some ⟨g,0,none⟩) (n - 1) cap)=x:=⟨_,rfl⟩
 have hKY:Box Y K 83 #[.slice (some ⟨g,0,none⟩) (n - 1) cap,.map (some M)]:=by rw[←hY];have:=hK1.set 0 (.slice (some ⟨g,0,none⟩) (n - 1) cap);simpa using this
 have HKY:=hide hKY
 have HTY:Hid (∀d,d≠K→Y.heap[d]?=W1.heap[d]?):=fun d hdd=>by rw[←hY];exact Deep.blk_setCell_other _ ⟨K,0,none⟩ _ d (by dsimp only;exact hdd)
 have HKN2:Hid (∀(d:Nat) (cs:Array Value) (t:TypeId),w.heap[d]?=some (Obj.cells cs t (0,0))→t≠83→d≠K):=fun d cs t hdd ht=>blk_ne hdd HH.out.box ht
 have HSY:Hid (Y.heap.size=W1.heap.size):=by rw[←hY];exact Deep.nblk_setCell _ _ _
 have HMY:Hid (Y.heap[M]?=w.heap[M]?):=(HTY.out M (fun e=>HH.out.map.ne HH.out.box e.symm)).trans HM1.out
 have HFY:Hid (FB pC 1 84 base Y (.slice (some ⟨g,0,none⟩) (n - 1) cap) (bs.eraseIdx i)):=hF1.keep fun d hdd=>HTY.out d (by
  obtain⟨cs2,e2⟩:=hF1.blk (b:=d) (by simpa using hdd)
  exact blk_ne e2 hK1 (by decide))
 have HBL1:Hid (Below base w Y):=by
  have h1:Below base w W1:=(Below.refl base w).trans (ho1.below hbase fun d hdd=>by rw[List.mem_singleton.1 hdd];exact(HH.out.row.own g (by simp[Value.ownBlock])).1)
  rw[←hY]
  exact h1.setCell (p:=⟨K,0,none⟩) HH.out.lows.1 _
 have HBY:Hid (Box Y b 41 #[.int .i64 client,.string tag,.string query,.int .i64 page,.int .i64 state,.slice ar nr cr,.int .i64 cursor]):=HBS.out.keep ((HTY.out b (HKN2.out b _ _ HBS.out (by decide))).trans (HT1.out b _ _ HBS.out (by decide)))
 have k1:W1.cell? ⟨K,0,none⟩=some (.slice (some ⟨g,0,none⟩) n cap):=hK1.cell 0 (by simp)
 have kf:W1.frozen? ⟨K,0,none⟩=false:=hK1.frozen 0
 have kl:K<W1.heap.size:=hK1.lt
 have HS1:Hid (w.heap.size≤W1.heap.size):=ho1.size
 have HYE:=hide hY
 clear hF1 ho1 hK1 hKY hY HDEL
 go_wp2_with fail
 (try rw[HYE.out])
 clear k0 k1 kf kl
 have KS:Hid (∀U,Below Y.heap.size Y U→(fun U:World=>U.cell? ⟨K,1,none⟩=some (.map (some M))∧U.cell? ⟨b,0,none⟩=some (.int .i64 client)∧U.cell? ⟨b,1,none⟩=some (.string tag)∧U.cell? ⟨b,2,none⟩=some (.string query)∧U.cell? ⟨b,3,none⟩=some (.int .i64 page)∧U.cell? ⟨b,4,none⟩=some (.int .i64 state)∧U.cell? ⟨b,5,none⟩=some (.slice ar nr cr)∧U.cell? ⟨b,6,none⟩=some (.int .i64 cursor)) U):=fun U hU=>by
  have o1:=HKY.out.below hU
  have o2:=HBY.out.below hU
  exact⟨o1.cell 1 (by simp),o2.cell 0 (by simp),o2.cell 1 (by simp),o2.cell 2 (by simp),o2.cell 3 (by simp),o2.cell 4 (by simp),o2.cell 5 (by simp),o2.cell 6 (by simp)⟩
 obtain⟨D,hDe⟩:∃D,Y.drew=D:=⟨_,rfl⟩
 have hD:Below Y.heap.size Y D:=by rw[←hDe];exact(Below.refl _ _).drew
 have hSd:(fun U:World=>U.cell? ⟨K,1,none⟩=some (.map (some M))∧U.cell? ⟨b,0,none⟩=some (.int .i64 client)∧U.cell? ⟨b,1,none⟩=some (.string tag)∧U.cell? ⟨b,2,none⟩=some (.string query)∧U.cell? ⟨b,3,none⟩=some (.int .i64 page)∧U.cell? ⟨b,4,none⟩=some (.int .i64 state)∧U.cell? ⟨b,5,none⟩=some (.slice ar nr cr)∧U.cell? ⟨b,6,none⟩=some (.int .i64 cursor)) D:=KS.out D hD
 have HKEY:=hide (skey_any ⟨client,tag,query,page,state,rows,cursor⟩ ar nr cr D)
 unfold sessV keyV at HKEY
 dsimp only at HKEY
 have HMF:Hid (∀U,Below Y.heap.size Y U→MapF U M nm (keyF ps bs)):=fun U hU=>HH.out.map.keep ((hU.block M (by have:=HH.out.map.lt;have:=HS1.out;have:=HSY.out;omega)).trans HMY.out)
 refine wp_region_two (fun U:World=>U.cell? ⟨K,1,none⟩=some (.map (some M))∧U.cell? ⟨b,0,none⟩=some (.int .i64 client)∧U.cell? ⟨b,1,none⟩=some (.string tag)∧U.cell? ⟨b,2,none⟩=some (.string query)∧U.cell? ⟨b,3,none⟩=some (.int .i64 page)∧U.cell? ⟨b,4,none⟩=some (.int .i64 state)∧U.cell? ⟨b,5,none⟩=some (.slice ar nr cr)∧U.cell? ⟨b,6,none⟩=some (.int .i64 cursor)) 9 (by kernel_rfl) ?_
 rw[hDe]
 clear hDe
 refine wpTwo_take (i:=0) (some 22) (v:=?v0_1) rfl rfl (by kernel_rfl) (by kernel_rfl) (by kernel_rfl) (by kernel_rfl) (fun _ _ _ h=>h) hSd (Or.inl ⟨by rfl,?hy0_1⟩) ?rest0_1
 case hy0_1=>(intro w hSw;(try dsimp only at hSw);go_simp;try with_reducible rfl)
 try simp only[Act.put,List.setIfInBounds_toArray,List.set_cons_zero,List.set_cons_succ]
 refine wpTwo_take (i:=1) (some 23) (v:=?v1_1) rfl rfl (by kernel_rfl) (by kernel_rfl) (by kernel_rfl) (by kernel_rfl) (fun _ _ _ h=>h) hSd (Or.inl ⟨by rfl,?hy1_1⟩) ?rest1_1
 case hy1_1=>(intro w hSw;(try dsimp only at hSw);go_simp;try with_reducible rfl)
 try simp only[Act.put,List.setIfInBounds_toArray,List.set_cons_zero,List.set_cons_succ]
 refine wpTwo_take (i:=2) (some 24) (v:=?v2_1) rfl rfl (by kernel_rfl) (by kernel_rfl) (by kernel_rfl) (by kernel_rfl) (fun _ _ _ h=>h) hSd (Or.inl ⟨by rfl,?hy2_1⟩) ?rest2_1
 case hy2_1=>(intro w hSw;(try dsimp only at hSw);go_simp;try with_reducible rfl)
 try simp only[Act.put,List.setIfInBounds_toArray,List.set_cons_zero,List.set_cons_succ]
 refine wpTwo_take (i:=3) (some 25) (v:=?v3_1) rfl rfl (by kernel_rfl) (by kernel_rfl) (by kernel_rfl) (by kernel_rfl) (fun _ _ _ h=>h) hSd (Or.inl ⟨by rfl,?hy3_1⟩) ?rest3_1
 case hy3_1=>(intro w hSw;(try dsimp only at hSw);go_simp;try with_reducible rfl)
 try simp only[Act.put,List.setIfInBounds_toArray,List.set_cons_zero,List.set_cons_succ]
 refine wpTwo_take (i:=4) (some 26) (v:=?v4_1) rfl rfl (by kernel_rfl) (by kernel_rfl) (by kernel_rfl) (by kernel_rfl) (fun _ _ _ h=>h) hSd (Or.inl ⟨by rfl,?hy4_1⟩) ?rest4_1
 case hy4_1=>(intro w hSw;(try dsimp only at hSw);go_simp;try with_reducible rfl)
 try simp only[Act.put,List.setIfInBounds_toArray,List.set_cons_zero,List.set_cons_succ]
 refine wpTwo_take (i:=5) (some 27) (v:=?v5_1) rfl rfl (by kernel_rfl) (by kernel_rfl) (by kernel_rfl) (by kernel_rfl) (fun _ _ _ h=>h) hSd (Or.inl ⟨by rfl,?hy5_1⟩) ?rest5_1
 case hy5_1=>(intro w hSw;(try dsimp only at hSw);go_simp;try with_reducible rfl)
 try simp only[Act.put,List.setIfInBounds_toArray,List.set_cons_zero,List.set_cons_succ]
 refine wpTwo_take (i:=6) (some 28) (v:=?v6_1) rfl rfl (by kernel_rfl) (by kernel_rfl) (by kernel_rfl) (by kernel_rfl) (fun _ _ _ h=>h) hSd (Or.inl ⟨by rfl,?hy6_1⟩) ?rest6_1
 case hy6_1=>(intro w hSw;(try dsimp only at hSw);go_simp;try with_reducible rfl)
 try simp only[Act.put,List.setIfInBounds_toArray,List.set_cons_zero,List.set_cons_succ]
 refine wpTwo_one (j:=7) (by kernel_rfl) rfl (fun K2 hK=>?_)
 go_simp
 refine HKEY.out.mono ?_
 rintro e U ⟨rfl,hbU⟩
 dsimp only
 have hUY:Below Y.heap.size Y U:=bjoin hbU hD
 refine hK.out _ _ (fun _=>KS.out _ hUY) ?_
 clear hK K2
 try simp only[Act.put,List.setIfInBounds_toArray,List.set_cons_zero,List.set_cons_succ]
 obtain⟨w9,hr9,hm9,ho9⟩:=(HMF.out U hUY).drops client tag hcwi htg 0
 have hmU:=HMF.out U hUY
 have hS9:(fun U:World=>U.cell? ⟨K,1,none⟩=some (.map (some M))∧U.cell? ⟨b,0,none⟩=some (.int .i64 client)∧U.cell? ⟨b,1,none⟩=some (.string tag)∧U.cell? ⟨b,2,none⟩=some (.string query)∧U.cell? ⟨b,3,none⟩=some (.int .i64 page)∧U.cell? ⟨b,4,none⟩=some (.int .i64 state)∧U.cell? ⟨b,5,none⟩=some (.slice ar nr cr)∧U.cell? ⟨b,6,none⟩=some (.int .i64 cursor)) w9:=by
  have o1:=(HKY.out.below hUY).only ho9 (by simp;exact hmU.ne (HKY.out.below hUY))
  have o2:=(HBY.out.below hUY).only ho9 (by simp;exact hmU.ne (HBY.out.below hUY))
  exact⟨o1.cell 1 (by simp),o2.cell 0 (by simp),o2.cell 1 (by simp),o2.cell 2 (by simp),o2.cell 3 (by simp),o2.cell 4 (by simp),o2.cell 5 (by simp),o2.cell 6 (by simp)⟩
 have HS9:=hide hS9
 clear hS9
 refine wpTwo_one (j:=8) (by kernel_rfl) rfl (fun K2 hK=>?_)
 go_simp
 refine hK.out _ _ (fun _=>HS9.out) ?_
 clear hK K2
 refine wpTwo_done (by kernel_rfl) ?_ _
 have HT9:Hid (∀(d:Nat) (cs:Array Value) (t:TypeId),w.heap[d]?=some (Obj.cells cs t (0,0))→t≠84→t≠83→w9.heap[d]?=w.heap[d]?):=fun d cs t hdd h1 h2=>by
  have hdl:d<w.heap.size:=by rcases Nat.lt_or_ge d w.heap.size with h'|h';exact h';rw[Array.getElem?_eq_none h'] at hdd;cases hdd
  have e1:Y.heap[d]?=w.heap[d]?:=(HTY.out d (HKN2.out d _ _ hdd h2)).trans (HT1.out d _ _ hdd h1)
  have hdY:d<Y.heap.size:=by have:=HS1.out;have:=HSY.out;omega
  have e2:U.heap[d]?=w.heap[d]?:=(hUY.block d hdY).trans e1
  rw[ho9.block d (Nat.lt_of_lt_of_le hdY hUY.size) (by simp;exact hmU.neB (by rw[e2];exact hdd)),e2]
 have HFIN:Hid ((∃ov',BK base w9 K M ov' nm (ps.eraseIdx i) (bs.eraseIdx i)∧Ft (BIn K M (.slice (some ⟨g,0,none⟩) bs.length cap) ps bs) w (BIn K M ov' (ps.eraseIdx i) (bs.eraseIdx i)) w9)∧Below base w w9):=by
  have hbl:Below base w w9:=by
   have h1:Below base w U:=HBL1.out.trans (hUY.mono (by have:=HBL1.out.size;omega))
   exact h1.trans (ho9.below (by have:=h1.size;omega) fun d hdd=>by rw[List.mem_singleton.1 hdd];exact HH.out.lows.2)
  have hKU:=HKY.out.below hUY
  have hFU:=HFY.out.below hUY
  have hsub:(ps.eraseIdx i).Sublist ps:=List.eraseIdx_sublist _ _
  have hft:Ft (BIn K M (.slice (some ⟨g,0,none⟩) bs.length cap) ps bs) w (BIn K M (.slice (some ⟨g,0,none⟩) (n - 1) cap) (ps.eraseIdx i) (bs.eraseIdx i)) w9:=by
   refine⟨hbl.size,fun d hd hn=>?_,fun d hd=>?_⟩
   ·have e0:W1.heap[d]?=w.heap[d]?:=HO1F.out.block d hd fun hm=>hn (.inr (.inr (.inl (by rw[List.mem_singleton.1 hm];simp[Value.ownBlock]))))
    have e1:Y.heap[d]?=w.heap[d]?:=(HTY.out d fun e=>hn (.inl e)).trans e0
    have hdY:d<Y.heap.size:=by have:=HS1.out;have:=HSY.out;omega
    rw[ho9.block d (Nat.lt_of_lt_of_le hdY hUY.size) (by simp;exact fun e=>hn (.inr (.inl e))),hUY.block d hdY,e1]
   ·rcases hd with hd|hd|hd|hd|⟨p,hp,hd⟩
    ·exact .inl (.inl hd)
    ·exact .inl (.inr (.inl hd))
    ·exact .inl (.inr (.inr (.inl (by simpa [Value.ownBlock] using hd))))
    ·exact .inl (.inr (.inr (.inr (.inl (List.mem_of_mem_eraseIdx hd)))))
    ·exact .inl (.inr (.inr (.inr (.inr ⟨p,List.mem_of_mem_eraseIdx hp,hd⟩))))
  refine⟨⟨.slice (some ⟨g,0,none⟩) (n - 1) cap,?_,hft⟩,hbl⟩
  refine⟨hKU.only ho9 (by simp;exact hmU.ne hKU),hFU.only ho9 (fun d hdd hmm=>?_),?_,by rw[List.length_eraseIdx,List.length_eraseIdx,HH.out.len],fun k h1 h2=>?_,fun d hdd=>HH.out.lob d (List.mem_of_mem_eraseIdx hdd),HH.out.nb.sublist (List.eraseIdx_sublist _ _),fun p hp=>?_,HH.out.nd.sublist ((hsub.map _).filterMap _),HH.out.lows⟩
  ·obtain⟨cs2,e2⟩:=hFU.blk (b:=d) (by simpa using hdd)
   exact hmU.neB e2 (List.mem_singleton.1 hmm)
  ·rw[HKE2.out]
   exact hm9
  ·rw[List.getElem_eraseIdx,List.getElem_eraseIdx]
   have hle:bs.length=ps.length:=HH.out.len
   rw[List.length_eraseIdx,if_pos HIP.out] at h1
   by_cases hki:k<i
   ·simp only[dif_pos hki]
    have hb0:=HH.out.ses k (by omega) (by omega)
    exact hb0.keep (HT9.out _ _ _ hb0 (by decide) (by decide))
   ·simp only[dif_neg hki]
    have hb0:=HH.out.ses (k+1) (by omega) (by omega)
    exact hb0.keep (HT9.out _ _ _ hb0 (by decide) (by decide))
  ·have hp':=List.mem_of_mem_eraseIdx hp
   refine⟨(HH.out.els p hp').1,(HH.out.els p hp').2.keep fun d hdd=>?_⟩
   obtain⟨cs2,e2⟩:=(HH.out.els p hp').2.blk (b:=d) (by simpa using hdd)
   exact HT9.out d _ _ e2 (by decide) (by decide)
 clear hSd hD hr9 hm9 ho9 hmU hUY hbU
 have hres:∀(tmps:Array Value) (W:World),(results Tryz.f88 tmps).run Tryz.prog W=.ok (.tuple #[]) W:=fun tmps W=>by simp[results,Tryz.results88,go_sem]
 first
 | exact bodyPost_end (hres _ _) rfl ⟨rfl,HFIN.out.1,HFIN.out.2,HT9.out⟩
 | (go_wp2_with fail;exact bodyPost_end (hres _ _) rfl ⟨rfl,HFIN.out.1,HFIN.out.2,HT9.out⟩)
end Go.Proofs.YtglcdcekkglmiaaGreatDoor.Msg
