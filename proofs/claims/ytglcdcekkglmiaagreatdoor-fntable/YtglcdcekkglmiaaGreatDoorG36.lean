import Derived.Test.YtglcdcekkglmiaaGreatDoorG30
import Derived.Test.YtglcdcekkglmiaaGreatDoorG31
import Derived.Laws.EntriesVeiled
import Derived.Test.YtglcdcekkglmiaaGreatDoorG35
import Derived.RangeFuncWrites
import Derived.RangeFuncBound
namespace Go.Proofs.YtglcdcekkglmiaaGreatDoor.Msg
open Go.ChangeShapes Go.WideShapes Go.ChangeAt Go.RowKit
set_option linter.unusedVariables false
set_option linter.unusedSimpArgs false
theorem keyF_idxN {ps:List (Sess × Value)} {bs:List Nat} {c:Int} {t:ByteArray} (hl:bs.length=ps.length) (h:(ps.map Prod.fst).findIdx? (keyB c t)=none):keyF ps bs c t=none:=by
 rw[keyF_idx _ _ _ _ hl,h]
 rfl
theorem found_no {ps:List (Sess × Value)} {bs:List Nat} {c:Int} {t:ByteArray} (zs:List Int) (h:(ps.map Prod.fst).findIdx? (keyB c t)=none):foundB ps bs c t zs=none:=by
 unfold foundB
 rw[h]
 rfl
theorem found_not {ps:List (Sess × Value)} {bs:List Nat} {c:Int} {t:ByteArray} {zs:List Int} {i:Nat} (h:(ps.map Prod.fst).findIdx? (keyB c t)=some i) (hz:¬((ps.map Prod.fst).getD i sess0).state∈zs):foundB ps bs c t zs=none:=by
 unfold foundB
 rw[h]
 simp only[Option.bind_some]
 rw[if_neg hz]
theorem found_yes {ps:List (Sess × Value)} {bs:List Nat} {c:Int} {t:ByteArray} {zs:List Int} {i:Nat} (h:(ps.map Prod.fst).findIdx? (keyB c t)=some i) (hi:i<bs.length) (hz:((ps.map Prod.fst).getD i sess0).state∈zs):foundB ps bs c t zs=some bs[i]:=by
 unfold foundB
 rw[h]
 simp only[Option.bind_some]
 rw[if_pos hz,List.getElem?_eq_getElem hi]
theorem keyB_eq {s:Sess} {c:Int} {t:ByteArray} (h:keyB c t s=true):c=s.client∧t=s.tag:=by
 unfold keyB at h
 rw[Bool.and_eq_true] at h
 refine⟨(of_decide_eq_true h.1).symm,?_⟩
 have h2:=eq_of_beq h.2
 rw[ByteArray.toList_eq,ByteArray.toList_eq] at h2
 cases hx:s.tag
 cases hy:t
 rw[hx,hy] at h2
 simp at h2
 rw[h2]
theorem keyF_cut {ps:List (Sess × Value)} {bs:List Nat} (hl:bs.length=ps.length) (hu:KU ps) {i:Nat} (hi:i<ps.length) {c:Int} {t:ByteArray} (h:keyF ps bs c t=none):keyF (ps.eraseIdx i) (bs.eraseIdx i) c t=none:=by
 rw[keyF_erase ps bs i hi hl hu]
 show (if _ then none else keyF ps bs c t)=none
 rw[h]
 split <;> rfl
theorem map_eraseP (ps:List (Sess × Value)) (i:Nat):(ps.eraseIdx i).map Prod.fst=(ps.map Prod.fst).eraseIdx i:=by
 rw[List.eraseIdx_eq_take_drop_succ,List.eraseIdx_eq_take_drop_succ,List.map_append,List.map_take,List.map_drop]
theorem open_any {base:Nat} {w:World} {K M:Nat} {ov:Value} {nm:Nat} {ps:List (Sess × Value)} {bs:List Nat} (h:BK base w K M ov nm ps bs) (hbase:base≤w.heap.size) (hV:TV ps) (hnm:nm≤100000) (c:Chg) (hk:c.kind=1) (hc:(Lit.int .i64 c.client).wf=true) (ht:c.tag.size≤9223372036854775807) (hq:c.query.size≤9223372036854775807) (au:Option Addr) (nu cu:Nat) :
  Calls Tryz.prog 65 #[.pointer (some ⟨K,0,none⟩),chgV c (.slice au nu cu)] w (StPost base w K M nm (BIn K M ov ps bs) (openP (ps.map Prod.fst) c)):=by
 have hlen:bs.length=ps.length:=h.len
 have h16:bs.length≤16:=by rw[hlen];exact hV.len
 cases hf:(ps.map Prod.fst).findIdx? (keyB c.client c.tag) with
 | some i =>
  obtain⟨_,hip⟩:=place_some hf
  rw[List.length_map] at hip
  have hib:i<bs.length:=by omega
  have hgd:=map_getD ps i hip
  have hst:=hV.st ps[i] (List.getElem_mem hip)
  by_cases hlive:liveB ((ps.map Prod.fst).getD i sess0).state=true
  ·refine open_dup h hbase hV hnm c hk hc ht hq au nu cu bs[i] (found_yes hf hib ?_) ?_
   ·unfold liveB at hlive
    simpa using hlive
   ·unfold openP
    rw[hf]
    dsimp only
    rw[if_pos hlive]
  ·have hnl:¬((ps.map Prod.fst).getD i sess0).state∈([1,2]:List Int):=fun hm=>hlive (by unfold liveB;simpa using hm)
   have hl2:(ps.eraseIdx i).length<16:=by rw[List.length_eraseIdx,if_pos hip];omega
   refine open_end h hbase hV hnm c hk hc ht hq au nu cu i hib bs[i] rfl (found_not hf hnl) (found_yes hf hib ?_) ?_ ?_
   ·rw[hgd] at hnl ⊢
    rcases hst with e|e|e|e <;> rw[e] at hnl ⊢ <;> simp at hnl ⊢
   ·rw[keyF_erase ps bs i hip hlen hV.ku]
    have hkb:keyB c.client c.tag ps[i].1=true:=by
     rw[List.findIdx?_eq_some_iff_getElem] at hf
     have:=hf.2.1
     rw[List.getElem_map] at this
     exact this
    show (if _ then none else _)=none
    rw[if_pos (keyB_eq hkb)]
   ·unfold openP
    rw[hf]
    dsimp only
    rw[if_neg hlive]
    unfold openFin
    have hr:roomP ((ps.map Prod.fst).eraseIdx i)=(ps.map Prod.fst).eraseIdx i:=by
     unfold roomP
     rw[if_pos (by rw[←map_eraseP,List.length_map];exact hl2)]
    rw[hr,if_neg (by rw[←map_eraseP,List.length_map];omega),map_eraseP]
 | none =>
  have hkn:=keyF_idxN hlen hf
  have hop:openP (ps.map Prod.fst) c=openFin (ps.map Prod.fst) (ps.map Prod.fst) c:=by unfold openP;rw[hf]
  by_cases hlt:bs.length<16
  ·refine open_free h hbase hV hnm c hk hc ht hq au nu cu (found_no _ hf) (found_no _ hf) hkn hlt ?_
   rw[hop]
   unfold openFin
   have hr:roomP (ps.map Prod.fst)=ps.map Prod.fst:=by unfold roomP;rw[if_pos (by rw[List.length_map];omega)]
   rw[hr,if_neg (by rw[List.length_map];omega)]
  ·have he:bs.length=16:=by omega
   have hnl:¬(ps.map Prod.fst).length<16:=by rw[List.length_map];omega
   cases hd:(ps.map Prod.fst).findIdx? deadB with
   | none =>
    refine open_full h hbase hV hnm c hk hc ht hq au nu cu (found_no _ hf) (found_no _ hf) he (by unfold endedI;rw[hd]) ?_
    rw[hop]
    unfold openFin
    have hr:roomP (ps.map Prod.fst)=ps.map Prod.fst:=by unfold roomP;rw[if_neg hnl,hd]
    rw[hr,if_pos (by rw[List.length_map];omega)]
   | some i =>
    have hip:i<ps.length:=by rw[List.findIdx?_eq_some_iff_getElem] at hd;have:=hd.1;rw[List.length_map] at this;exact this
    refine open_room h hbase hV hnm c hk hc ht hq au nu cu i (by omega) _ rfl (found_no _ hf) (found_no _ hf) he (by unfold endedI;rw[hd]) (keyF_cut hlen hV.ku hip hkn) ?_
    rw[hop]
    unfold openFin
    have hr:roomP (ps.map Prod.fst)=(ps.map Prod.fst).eraseIdx i:=by unfold roomP;rw[if_neg hnl,hd]
    rw[hr,if_neg (by rw[←map_eraseP,List.length_map,List.length_eraseIdx,if_pos hip];omega),map_eraseP]
set_option maxRecDepth 100000 in
set_option maxHeartbeats 16000000 in
theorem apply_open {base:Nat} {w:World} {K M nm:Nat} {SS:Nat→Prop} {R:List Sess × Int} (hbase:base≤w.heap.size) (client page n0:Int) (tag query:ByteArray) (au:Option Addr) (nu cu:Nat) (hcall:∀D,Below w.heap.size w D→Calls Tryz.prog 65 #[.pointer (some ⟨K,0,none⟩),.agg #[.int .i64 1,.int .i64 client,.string tag,.string query,.int .i64 page,.slice au nu cu,.int .i64 n0]] D (StPost base D K M nm SS R)) :
  Calls Tryz.prog 30 #[.pointer (some ⟨K,0,none⟩),.agg #[.int .i64 1,.int .i64 client,.string tag,.string query,.int .i64 page,.slice au nu cu,.int .i64 n0]] w (StPost base w K M nm SS R):=by
 have HC:=hide hcall
 obtain⟨x1,hx1⟩:∃x,w.alloc (Obj.cells #[.int .i64 1,.int .i64 client,.string tag,.string query,.int .i64 page,.slice au nu cu,.int .i64 n0] 28)=x:=⟨_,rfl⟩
 have s1:x1.heap.size=w.heap.size+1:=by rw[←hx1];exact Deep.nblk_alloc _ _
 have b1:Below w.heap.size w x1:=by rw[←hx1];exact alcB _ _
 have o1:Box x1 w.heap.size 28 #[.int .i64 1,.int .i64 client,.string tag,.string query,.int .i64 page,.slice au nu cu,.int .i64 n0]:=by rw[←hx1];exact Box.new _ _ _
 obtain⟨Y,hY⟩:∃x,x1.alloc (Obj.cells #[.nilFunc,.func (.func 65) #[] #[],.func (.func 66) #[] #[],.func (.func 67) #[] #[],.func (.func 68) #[] #[],.func (.func 69) #[] #[],.func (.func 70) #[] #[]] 102)=x:=⟨_,rfl⟩
 have b2:Below x1.heap.size x1 Y:=by rw[←hY];exact alcB _ _
 have hA:Box Y (w.heap.size+1) 102 #[.nilFunc,.func (.func 65) #[] #[],.func (.func 66) #[] #[],.func (.func 67) #[] #[],.func (.func 68) #[] #[],.func (.func 69) #[] #[],.func (.func 70) #[] #[]]:=by rw[←s1,←hY];exact Box.new _ _ _
 have hO:=o1.below b2
 have HBY:Hid (Below w.heap.size w Y):=bjoin b2 b1
 have HYE:Hid ((w.alloc (Obj.cells #[.int .i64 1,.int .i64 client,.string tag,.string query,.int .i64 page,.slice au nu cu,.int .i64 n0] 28)).alloc (Obj.cells #[.nilFunc,.func (.func 65) #[] #[],.func (.func 66) #[] #[],.func (.func 67) #[] #[],.func (.func 68) #[] #[],.func (.func 69) #[] #[],.func (.func 70) #[] #[]] 102)=Y):=by show _=_;rw[hx1,hY]
 obtain⟨D,hDe⟩:∃D,Y.drew=D:=⟨_,rfl⟩
 have hD:Below Y.heap.size Y D:=by rw[←hDe];exact(Below.refl _ _).drew
 have HDE:=hide hDe
 have hOD:=hO.below hD
 have hAD:=hA.below hD
 have hSd:(fun U:World=>U.cell? ⟨w.heap.size,0,none⟩=some (.int .i64 1)∧U.cell? ⟨w.heap.size,1,none⟩=some (.int .i64 client)∧U.cell? ⟨w.heap.size,2,none⟩=some (.string tag)∧U.cell? ⟨w.heap.size,3,none⟩=some (.string query)∧U.cell? ⟨w.heap.size,4,none⟩=some (.int .i64 page)∧U.cell? ⟨w.heap.size,5,none⟩=some (.slice au nu cu)∧U.cell? ⟨w.heap.size,6,none⟩=some (.int .i64 n0)∧U.cell? ⟨w.heap.size+1,1,none⟩=some (.func (.func 65) #[] #[])) D:=⟨hOD.cell 0 (by simp),hOD.cell 1 (by simp),hOD.cell 2 (by simp),hOD.cell 3 (by simp),hOD.cell 4 (by simp),hOD.cell 5 (by simp),hOD.cell 6 (by simp),hAD.cell 1 (by simp)⟩
 have HSD:=hide hSd
 have HBD:=hide (bjoin hD HBY.out)
 have HCD:=hide (HC.out D HBD.out)
 clear hcall hx1 s1 b1 o1 b2 hY hO hA hDe hD hOD hAD HC
 go_enter Tryz.func30,Tryz.ntmps30
 go_upto_region 2 with fail
 rw[HYE.out]
 refine wp_region_two (fun U:World=>U.cell? ⟨w.heap.size,0,none⟩=some (.int .i64 1)∧U.cell? ⟨w.heap.size,1,none⟩=some (.int .i64 client)∧U.cell? ⟨w.heap.size,2,none⟩=some (.string tag)∧U.cell? ⟨w.heap.size,3,none⟩=some (.string query)∧U.cell? ⟨w.heap.size,4,none⟩=some (.int .i64 page)∧U.cell? ⟨w.heap.size,5,none⟩=some (.slice au nu cu)∧U.cell? ⟨w.heap.size,6,none⟩=some (.int .i64 n0)∧U.cell? ⟨w.heap.size+1,1,none⟩=some (.func (.func 65) #[] #[])) 6 (by kernel_rfl) ?_
 rw[HDE.out]
 refine wpTwo_take (i:=4) (some 11) (v:=?v4_1) rfl rfl (by kernel_rfl) (by kernel_rfl) (by kernel_rfl) (by kernel_rfl) (fun _ _ _ h=>h) hSd (Or.inl ⟨by rfl,?hy4_1⟩) ?rest4_1
 case hy4_1=>(intro w hSw;(try dsimp only at hSw);go_simp;try with_reducible rfl)
 try simp only[Act.put,List.setIfInBounds_toArray,List.set_cons_zero,List.set_cons_succ]
 refine wpTwo_take (i:=5) (some 12) (v:=?v5_1) rfl rfl (by kernel_rfl) (by kernel_rfl) (by kernel_rfl) (by kernel_rfl) (fun _ _ _ h=>h) hSd (Or.inl ⟨by rfl,?hy5_1⟩) ?rest5_1
 case hy5_1=>(intro w hSw;(try dsimp only at hSw);go_simp;try with_reducible rfl)
 try simp only[Act.put,List.setIfInBounds_toArray,List.set_cons_zero,List.set_cons_succ]
 refine wpTwo_one (j:=0) (by kernel_rfl) rfl (fun K2 hK=>?_)
 go_simp
 refine hK.out _ _ (fun _=>HSD.out) ?_
 clear hK K2
 try simp only[Act.put,List.setIfInBounds_toArray,List.set_cons_zero,List.set_cons_succ]
 refine wpTwo_one (j:=1) (by kernel_rfl) rfl (fun K2 hK=>?_)
 go_simp
 refine hK.out _ _ (fun _=>HSD.out) ?_
 clear hK K2
 try simp only[Act.put,List.setIfInBounds_toArray,List.set_cons_zero,List.set_cons_succ]
 refine wpTwo_one (j:=2) (by kernel_rfl) rfl (fun K2 hK=>?_)
 go_simp
 refine hK.out _ _ (fun _=>HSD.out) ?_
 clear hK K2
 try simp only[Act.put,List.setIfInBounds_toArray,List.set_cons_zero,List.set_cons_succ]
 refine wpTwo_one (j:=3) (by kernel_rfl) rfl (fun K2 hK=>?_)
 go_simp
 refine hK.out _ _ (fun _=>HSD.out) ?_
 clear hK K2
 try simp only[Act.put,List.setIfInBounds_toArray,List.set_cons_zero,List.set_cons_succ]
 refine wpTwo_one (j:=6) (by kernel_rfl) rfl (fun K2 hK=>?_)
 go_simp
 refine HCD.out.mono ?_
 rintro e U ⟨code,rfl,hbk,hbl⟩
 have HFIN:Hid (StPost base w K M nm SS R (.returned (.int .i64 code)) U):=⟨code,rfl,hbk.elim fun o1 h=>h.elim fun o2 h=>h.elim fun o3 h=>h.elim fun o4 h=>⟨o1,o2,o3,o4,h.1,h.2.1,h.2.2.1,(Ft.below HBD.out).trans h.2.2.2⟩,(HBD.out.mono hbase).trans hbl⟩
 refine hK.out _ _ (fun h=>absurd h (by decide)) ?_
 clear hK K2 hbk hbl
 try simp only[Act.put,List.setIfInBounds_toArray,List.set_cons_zero,List.set_cons_succ]
 refine wpTwo_one (j:=7) (by kernel_rfl) rfl (fun K2 hK=>?_)
 go_simp
 refine hK.out _ _ (fun h=>absurd h (by decide)) ?_
 clear hK K2
 refine wpTwo_done (by kernel_rfl) ?_ _
 go_wp2_with fail
 go_ret
 exact HFIN.out
set_option maxRecDepth 100000 in
set_option maxHeartbeats 16000000 in
theorem apply_addRows {base:Nat} {w:World} {K M nm:Nat} {SS:Nat→Prop} {R:List Sess × Int} (hbase:base≤w.heap.size) (client page n0:Int) (tag query:ByteArray) (au:Option Addr) (nu cu:Nat) (hcall:∀D,Below w.heap.size w D→Calls Tryz.prog 66 #[.pointer (some ⟨K,0,none⟩),.agg #[.int .i64 2,.int .i64 client,.string tag,.string query,.int .i64 page,.slice au nu cu,.int .i64 n0]] D (StPost base D K M nm SS R)) :
  Calls Tryz.prog 30 #[.pointer (some ⟨K,0,none⟩),.agg #[.int .i64 2,.int .i64 client,.string tag,.string query,.int .i64 page,.slice au nu cu,.int .i64 n0]] w (StPost base w K M nm SS R):=by
 have HC:=hide hcall
 obtain⟨x1,hx1⟩:∃x,w.alloc (Obj.cells #[.int .i64 2,.int .i64 client,.string tag,.string query,.int .i64 page,.slice au nu cu,.int .i64 n0] 28)=x:=⟨_,rfl⟩
 have s1:x1.heap.size=w.heap.size+1:=by rw[←hx1];exact Deep.nblk_alloc _ _
 have b1:Below w.heap.size w x1:=by rw[←hx1];exact alcB _ _
 have o1:Box x1 w.heap.size 28 #[.int .i64 2,.int .i64 client,.string tag,.string query,.int .i64 page,.slice au nu cu,.int .i64 n0]:=by rw[←hx1];exact Box.new _ _ _
 obtain⟨Y,hY⟩:∃x,x1.alloc (Obj.cells #[.nilFunc,.func (.func 65) #[] #[],.func (.func 66) #[] #[],.func (.func 67) #[] #[],.func (.func 68) #[] #[],.func (.func 69) #[] #[],.func (.func 70) #[] #[]] 102)=x:=⟨_,rfl⟩
 have b2:Below x1.heap.size x1 Y:=by rw[←hY];exact alcB _ _
 have hA:Box Y (w.heap.size+1) 102 #[.nilFunc,.func (.func 65) #[] #[],.func (.func 66) #[] #[],.func (.func 67) #[] #[],.func (.func 68) #[] #[],.func (.func 69) #[] #[],.func (.func 70) #[] #[]]:=by rw[←s1,←hY];exact Box.new _ _ _
 have hO:=o1.below b2
 have HBY:Hid (Below w.heap.size w Y):=bjoin b2 b1
 have HYE:Hid ((w.alloc (Obj.cells #[.int .i64 2,.int .i64 client,.string tag,.string query,.int .i64 page,.slice au nu cu,.int .i64 n0] 28)).alloc (Obj.cells #[.nilFunc,.func (.func 65) #[] #[],.func (.func 66) #[] #[],.func (.func 67) #[] #[],.func (.func 68) #[] #[],.func (.func 69) #[] #[],.func (.func 70) #[] #[]] 102)=Y):=by show _=_;rw[hx1,hY]
 obtain⟨D,hDe⟩:∃D,Y.drew=D:=⟨_,rfl⟩
 have hD:Below Y.heap.size Y D:=by rw[←hDe];exact(Below.refl _ _).drew
 have HDE:=hide hDe
 have hOD:=hO.below hD
 have hAD:=hA.below hD
 have hSd:(fun U:World=>U.cell? ⟨w.heap.size,0,none⟩=some (.int .i64 2)∧U.cell? ⟨w.heap.size,1,none⟩=some (.int .i64 client)∧U.cell? ⟨w.heap.size,2,none⟩=some (.string tag)∧U.cell? ⟨w.heap.size,3,none⟩=some (.string query)∧U.cell? ⟨w.heap.size,4,none⟩=some (.int .i64 page)∧U.cell? ⟨w.heap.size,5,none⟩=some (.slice au nu cu)∧U.cell? ⟨w.heap.size,6,none⟩=some (.int .i64 n0)∧U.cell? ⟨w.heap.size+1,2,none⟩=some (.func (.func 66) #[] #[])) D:=⟨hOD.cell 0 (by simp),hOD.cell 1 (by simp),hOD.cell 2 (by simp),hOD.cell 3 (by simp),hOD.cell 4 (by simp),hOD.cell 5 (by simp),hOD.cell 6 (by simp),hAD.cell 2 (by simp)⟩
 have HSD:=hide hSd
 have HBD:=hide (bjoin hD HBY.out)
 have HCD:=hide (HC.out D HBD.out)
 clear hcall hx1 s1 b1 o1 b2 hY hO hA hDe hD hOD hAD HC
 go_enter Tryz.func30,Tryz.ntmps30
 go_upto_region 2 with fail
 rw[HYE.out]
 refine wp_region_two (fun U:World=>U.cell? ⟨w.heap.size,0,none⟩=some (.int .i64 2)∧U.cell? ⟨w.heap.size,1,none⟩=some (.int .i64 client)∧U.cell? ⟨w.heap.size,2,none⟩=some (.string tag)∧U.cell? ⟨w.heap.size,3,none⟩=some (.string query)∧U.cell? ⟨w.heap.size,4,none⟩=some (.int .i64 page)∧U.cell? ⟨w.heap.size,5,none⟩=some (.slice au nu cu)∧U.cell? ⟨w.heap.size,6,none⟩=some (.int .i64 n0)∧U.cell? ⟨w.heap.size+1,2,none⟩=some (.func (.func 66) #[] #[])) 6 (by kernel_rfl) ?_
 rw[HDE.out]
 refine wpTwo_take (i:=4) (some 11) (v:=?v4_1) rfl rfl (by kernel_rfl) (by kernel_rfl) (by kernel_rfl) (by kernel_rfl) (fun _ _ _ h=>h) hSd (Or.inl ⟨by rfl,?hy4_1⟩) ?rest4_1
 case hy4_1=>(intro w hSw;(try dsimp only at hSw);go_simp;try with_reducible rfl)
 try simp only[Act.put,List.setIfInBounds_toArray,List.set_cons_zero,List.set_cons_succ]
 refine wpTwo_take (i:=5) (some 12) (v:=?v5_1) rfl rfl (by kernel_rfl) (by kernel_rfl) (by kernel_rfl) (by kernel_rfl) (fun _ _ _ h=>h) hSd (Or.inl ⟨by rfl,?hy5_1⟩) ?rest5_1
 case hy5_1=>(intro w hSw;(try dsimp only at hSw);go_simp;try with_reducible rfl)
 try simp only[Act.put,List.setIfInBounds_toArray,List.set_cons_zero,List.set_cons_succ]
 refine wpTwo_one (j:=0) (by kernel_rfl) rfl (fun K2 hK=>?_)
 go_simp
 refine hK.out _ _ (fun _=>HSD.out) ?_
 clear hK K2
 try simp only[Act.put,List.setIfInBounds_toArray,List.set_cons_zero,List.set_cons_succ]
 refine wpTwo_one (j:=1) (by kernel_rfl) rfl (fun K2 hK=>?_)
 go_simp
 refine hK.out _ _ (fun _=>HSD.out) ?_
 clear hK K2
 try simp only[Act.put,List.setIfInBounds_toArray,List.set_cons_zero,List.set_cons_succ]
 refine wpTwo_one (j:=2) (by kernel_rfl) rfl (fun K2 hK=>?_)
 go_simp
 refine hK.out _ _ (fun _=>HSD.out) ?_
 clear hK K2
 try simp only[Act.put,List.setIfInBounds_toArray,List.set_cons_zero,List.set_cons_succ]
 refine wpTwo_one (j:=3) (by kernel_rfl) rfl (fun K2 hK=>?_)
 go_simp
 refine hK.out _ _ (fun _=>HSD.out) ?_
 clear hK K2
 try simp only[Act.put,List.setIfInBounds_toArray,List.set_cons_zero,List.set_cons_succ]
 refine wpTwo_one (j:=6) (by kernel_rfl) rfl (fun K2 hK=>?_)
 go_simp
 refine HCD.out.mono ?_
 rintro e U ⟨code,rfl,hbk,hbl⟩
 have HFIN:Hid (StPost base w K M nm SS R (.returned (.int .i64 code)) U):=⟨code,rfl,hbk.elim fun o1 h=>h.elim fun o2 h=>h.elim fun o3 h=>h.elim fun o4 h=>⟨o1,o2,o3,o4,h.1,h.2.1,h.2.2.1,(Ft.below HBD.out).trans h.2.2.2⟩,(HBD.out.mono hbase).trans hbl⟩
 refine hK.out _ _ (fun h=>absurd h (by decide)) ?_
 clear hK K2 hbk hbl
 try simp only[Act.put,List.setIfInBounds_toArray,List.set_cons_zero,List.set_cons_succ]
 refine wpTwo_one (j:=7) (by kernel_rfl) rfl (fun K2 hK=>?_)
 go_simp
 refine hK.out _ _ (fun h=>absurd h (by decide)) ?_
 clear hK K2
 refine wpTwo_done (by kernel_rfl) ?_ _
 go_wp2_with fail
 go_ret
 exact HFIN.out
set_option maxRecDepth 100000 in
set_option maxHeartbeats 16000000 in
theorem apply_finish {base:Nat} {w:World} {K M nm:Nat} {SS:Nat→Prop} {R:List Sess × Int} (hbase:base≤w.heap.size) (client page n0:Int) (tag query:ByteArray) (au:Option Addr) (nu cu:Nat) (hcall:∀D,Below w.heap.size w D→Calls Tryz.prog 67 #[.pointer (some ⟨K,0,none⟩),.agg #[.int .i64 3,.int .i64 client,.string tag,.string query,.int .i64 page,.slice au nu cu,.int .i64 n0]] D (StPost base D K M nm SS R)) :
  Calls Tryz.prog 30 #[.pointer (some ⟨K,0,none⟩),.agg #[.int .i64 3,.int .i64 client,.string tag,.string query,.int .i64 page,.slice au nu cu,.int .i64 n0]] w (StPost base w K M nm SS R):=by
 have HC:=hide hcall
 obtain⟨x1,hx1⟩:∃x,w.alloc (Obj.cells #[.int .i64 3,.int .i64 client,.string tag,.string query,.int .i64 page,.slice au nu cu,.int .i64 n0] 28)=x:=⟨_,rfl⟩
 have s1:x1.heap.size=w.heap.size+1:=by rw[←hx1];exact Deep.nblk_alloc _ _
 have b1:Below w.heap.size w x1:=by rw[←hx1];exact alcB _ _
 have o1:Box x1 w.heap.size 28 #[.int .i64 3,.int .i64 client,.string tag,.string query,.int .i64 page,.slice au nu cu,.int .i64 n0]:=by rw[←hx1];exact Box.new _ _ _
 obtain⟨Y,hY⟩:∃x,x1.alloc (Obj.cells #[.nilFunc,.func (.func 65) #[] #[],.func (.func 66) #[] #[],.func (.func 67) #[] #[],.func (.func 68) #[] #[],.func (.func 69) #[] #[],.func (.func 70) #[] #[]] 102)=x:=⟨_,rfl⟩
 have b2:Below x1.heap.size x1 Y:=by rw[←hY];exact alcB _ _
 have hA:Box Y (w.heap.size+1) 102 #[.nilFunc,.func (.func 65) #[] #[],.func (.func 66) #[] #[],.func (.func 67) #[] #[],.func (.func 68) #[] #[],.func (.func 69) #[] #[],.func (.func 70) #[] #[]]:=by rw[←s1,←hY];exact Box.new _ _ _
 have hO:=o1.below b2
 have HBY:Hid (Below w.heap.size w Y):=bjoin b2 b1
 have HYE:Hid ((w.alloc (Obj.cells #[.int .i64 3,.int .i64 client,.string tag,.string query,.int .i64 page,.slice au nu cu,.int .i64 n0] 28)).alloc (Obj.cells #[.nilFunc,.func (.func 65) #[] #[],.func (.func 66) #[] #[],.func (.func 67) #[] #[],.func (.func 68) #[] #[],.func (.func 69) #[] #[],.func (.func 70) #[] #[]] 102)=Y):=by show _=_;rw[hx1,hY]
 obtain⟨D,hDe⟩:∃D,Y.drew=D:=⟨_,rfl⟩
 have hD:Below Y.heap.size Y D:=by rw[←hDe];exact(Below.refl _ _).drew
 have HDE:=hide hDe
 have hOD:=hO.below hD
 have hAD:=hA.below hD
 have hSd:(fun U:World=>U.cell? ⟨w.heap.size,0,none⟩=some (.int .i64 3)∧U.cell? ⟨w.heap.size,1,none⟩=some (.int .i64 client)∧U.cell? ⟨w.heap.size,2,none⟩=some (.string tag)∧U.cell? ⟨w.heap.size,3,none⟩=some (.string query)∧U.cell? ⟨w.heap.size,4,none⟩=some (.int .i64 page)∧U.cell? ⟨w.heap.size,5,none⟩=some (.slice au nu cu)∧U.cell? ⟨w.heap.size,6,none⟩=some (.int .i64 n0)∧U.cell? ⟨w.heap.size+1,3,none⟩=some (.func (.func 67) #[] #[])) D:=⟨hOD.cell 0 (by simp),hOD.cell 1 (by simp),hOD.cell 2 (by simp),hOD.cell 3 (by simp),hOD.cell 4 (by simp),hOD.cell 5 (by simp),hOD.cell 6 (by simp),hAD.cell 3 (by simp)⟩
 have HSD:=hide hSd
 have HBD:=hide (bjoin hD HBY.out)
 have HCD:=hide (HC.out D HBD.out)
 clear hcall hx1 s1 b1 o1 b2 hY hO hA hDe hD hOD hAD HC
 go_enter Tryz.func30,Tryz.ntmps30
 go_upto_region 2 with fail
 rw[HYE.out]
 refine wp_region_two (fun U:World=>U.cell? ⟨w.heap.size,0,none⟩=some (.int .i64 3)∧U.cell? ⟨w.heap.size,1,none⟩=some (.int .i64 client)∧U.cell? ⟨w.heap.size,2,none⟩=some (.string tag)∧U.cell? ⟨w.heap.size,3,none⟩=some (.string query)∧U.cell? ⟨w.heap.size,4,none⟩=some (.int .i64 page)∧U.cell? ⟨w.heap.size,5,none⟩=some (.slice au nu cu)∧U.cell? ⟨w.heap.size,6,none⟩=some (.int .i64 n0)∧U.cell? ⟨w.heap.size+1,3,none⟩=some (.func (.func 67) #[] #[])) 6 (by kernel_rfl) ?_
 rw[HDE.out]
 refine wpTwo_take (i:=4) (some 11) (v:=?v4_1) rfl rfl (by kernel_rfl) (by kernel_rfl) (by kernel_rfl) (by kernel_rfl) (fun _ _ _ h=>h) hSd (Or.inl ⟨by rfl,?hy4_1⟩) ?rest4_1
 case hy4_1=>(intro w hSw;(try dsimp only at hSw);go_simp;try with_reducible rfl)
 try simp only[Act.put,List.setIfInBounds_toArray,List.set_cons_zero,List.set_cons_succ]
 refine wpTwo_take (i:=5) (some 12) (v:=?v5_1) rfl rfl (by kernel_rfl) (by kernel_rfl) (by kernel_rfl) (by kernel_rfl) (fun _ _ _ h=>h) hSd (Or.inl ⟨by rfl,?hy5_1⟩) ?rest5_1
 case hy5_1=>(intro w hSw;(try dsimp only at hSw);go_simp;try with_reducible rfl)
 try simp only[Act.put,List.setIfInBounds_toArray,List.set_cons_zero,List.set_cons_succ]
 refine wpTwo_one (j:=0) (by kernel_rfl) rfl (fun K2 hK=>?_)
 go_simp
 refine hK.out _ _ (fun _=>HSD.out) ?_
 clear hK K2
 try simp only[Act.put,List.setIfInBounds_toArray,List.set_cons_zero,List.set_cons_succ]
 refine wpTwo_one (j:=1) (by kernel_rfl) rfl (fun K2 hK=>?_)
 go_simp
 refine hK.out _ _ (fun _=>HSD.out) ?_
 clear hK K2
 try simp only[Act.put,List.setIfInBounds_toArray,List.set_cons_zero,List.set_cons_succ]
 refine wpTwo_one (j:=2) (by kernel_rfl) rfl (fun K2 hK=>?_)
 go_simp
 refine hK.out _ _ (fun _=>HSD.out) ?_
 clear hK K2
 try simp only[Act.put,List.setIfInBounds_toArray,List.set_cons_zero,List.set_cons_succ]
 refine wpTwo_one (j:=3) (by kernel_rfl) rfl (fun K2 hK=>?_)
 go_simp
 refine hK.out _ _ (fun _=>HSD.out) ?_
 clear hK K2
 try simp only[Act.put,List.setIfInBounds_toArray,List.set_cons_zero,List.set_cons_succ]
 refine wpTwo_one (j:=6) (by kernel_rfl) rfl (fun K2 hK=>?_)
 go_simp
 refine HCD.out.mono ?_
 rintro e U ⟨code,rfl,hbk,hbl⟩
 have HFIN:Hid (StPost base w K M nm SS R (.returned (.int .i64 code)) U):=⟨code,rfl,hbk.elim fun o1 h=>h.elim fun o2 h=>h.elim fun o3 h=>h.elim fun o4 h=>⟨o1,o2,o3,o4,h.1,h.2.1,h.2.2.1,(Ft.below HBD.out).trans h.2.2.2⟩,(HBD.out.mono hbase).trans hbl⟩
 refine hK.out _ _ (fun h=>absurd h (by decide)) ?_
 clear hK K2 hbk hbl
 try simp only[Act.put,List.setIfInBounds_toArray,List.set_cons_zero,List.set_cons_succ]
 refine wpTwo_one (j:=7) (by kernel_rfl) rfl (fun K2 hK=>?_)
 go_simp
 refine hK.out _ _ (fun h=>absurd h (by decide)) ?_
 clear hK K2
 refine wpTwo_done (by kernel_rfl) ?_ _
 go_wp2_with fail
 go_ret
 exact HFIN.out
set_option maxRecDepth 100000 in
set_option maxHeartbeats 16000000 in
theorem apply_moveCursor {base:Nat} {w:World} {K M nm:Nat} {SS:Nat→Prop} {R:List Sess × Int} (hbase:base≤w.heap.size) (client page n0:Int) (tag query:ByteArray) (au:Option Addr) (nu cu:Nat) (hcall:∀D,Below w.heap.size w D→Calls Tryz.prog 68 #[.pointer (some ⟨K,0,none⟩),.agg #[.int .i64 4,.int .i64 client,.string tag,.string query,.int .i64 page,.slice au nu cu,.int .i64 n0]] D (StPost base D K M nm SS R)) :
  Calls Tryz.prog 30 #[.pointer (some ⟨K,0,none⟩),.agg #[.int .i64 4,.int .i64 client,.string tag,.string query,.int .i64 page,.slice au nu cu,.int .i64 n0]] w (StPost base w K M nm SS R):=by
 have HC:=hide hcall
 obtain⟨x1,hx1⟩:∃x,w.alloc (Obj.cells #[.int .i64 4,.int .i64 client,.string tag,.string query,.int .i64 page,.slice au nu cu,.int .i64 n0] 28)=x:=⟨_,rfl⟩
 have s1:x1.heap.size=w.heap.size+1:=by rw[←hx1];exact Deep.nblk_alloc _ _
 have b1:Below w.heap.size w x1:=by rw[←hx1];exact alcB _ _
 have o1:Box x1 w.heap.size 28 #[.int .i64 4,.int .i64 client,.string tag,.string query,.int .i64 page,.slice au nu cu,.int .i64 n0]:=by rw[←hx1];exact Box.new _ _ _
 obtain⟨Y,hY⟩:∃x,x1.alloc (Obj.cells #[.nilFunc,.func (.func 65) #[] #[],.func (.func 66) #[] #[],.func (.func 67) #[] #[],.func (.func 68) #[] #[],.func (.func 69) #[] #[],.func (.func 70) #[] #[]] 102)=x:=⟨_,rfl⟩
 have b2:Below x1.heap.size x1 Y:=by rw[←hY];exact alcB _ _
 have hA:Box Y (w.heap.size+1) 102 #[.nilFunc,.func (.func 65) #[] #[],.func (.func 66) #[] #[],.func (.func 67) #[] #[],.func (.func 68) #[] #[],.func (.func 69) #[] #[],.func (.func 70) #[] #[]]:=by rw[←s1,←hY];exact Box.new _ _ _
 have hO:=o1.below b2
 have HBY:Hid (Below w.heap.size w Y):=bjoin b2 b1
 have HYE:Hid ((w.alloc (Obj.cells #[.int .i64 4,.int .i64 client,.string tag,.string query,.int .i64 page,.slice au nu cu,.int .i64 n0] 28)).alloc (Obj.cells #[.nilFunc,.func (.func 65) #[] #[],.func (.func 66) #[] #[],.func (.func 67) #[] #[],.func (.func 68) #[] #[],.func (.func 69) #[] #[],.func (.func 70) #[] #[]] 102)=Y):=by show _=_;rw[hx1,hY]
 obtain⟨D,hDe⟩:∃D,Y.drew=D:=⟨_,rfl⟩
 have hD:Below Y.heap.size Y D:=by rw[←hDe];exact(Below.refl _ _).drew
 have HDE:=hide hDe
 have hOD:=hO.below hD
 have hAD:=hA.below hD
 have hSd:(fun U:World=>U.cell? ⟨w.heap.size,0,none⟩=some (.int .i64 4)∧U.cell? ⟨w.heap.size,1,none⟩=some (.int .i64 client)∧U.cell? ⟨w.heap.size,2,none⟩=some (.string tag)∧U.cell? ⟨w.heap.size,3,none⟩=some (.string query)∧U.cell? ⟨w.heap.size,4,none⟩=some (.int .i64 page)∧U.cell? ⟨w.heap.size,5,none⟩=some (.slice au nu cu)∧U.cell? ⟨w.heap.size,6,none⟩=some (.int .i64 n0)∧U.cell? ⟨w.heap.size+1,4,none⟩=some (.func (.func 68) #[] #[])) D:=⟨hOD.cell 0 (by simp),hOD.cell 1 (by simp),hOD.cell 2 (by simp),hOD.cell 3 (by simp),hOD.cell 4 (by simp),hOD.cell 5 (by simp),hOD.cell 6 (by simp),hAD.cell 4 (by simp)⟩
 have HSD:=hide hSd
 have HBD:=hide (bjoin hD HBY.out)
 have HCD:=hide (HC.out D HBD.out)
 clear hcall hx1 s1 b1 o1 b2 hY hO hA hDe hD hOD hAD HC
 go_enter Tryz.func30,Tryz.ntmps30
 go_upto_region 2 with fail
 rw[HYE.out]
 refine wp_region_two (fun U:World=>U.cell? ⟨w.heap.size,0,none⟩=some (.int .i64 4)∧U.cell? ⟨w.heap.size,1,none⟩=some (.int .i64 client)∧U.cell? ⟨w.heap.size,2,none⟩=some (.string tag)∧U.cell? ⟨w.heap.size,3,none⟩=some (.string query)∧U.cell? ⟨w.heap.size,4,none⟩=some (.int .i64 page)∧U.cell? ⟨w.heap.size,5,none⟩=some (.slice au nu cu)∧U.cell? ⟨w.heap.size,6,none⟩=some (.int .i64 n0)∧U.cell? ⟨w.heap.size+1,4,none⟩=some (.func (.func 68) #[] #[])) 6 (by kernel_rfl) ?_
 rw[HDE.out]
 refine wpTwo_take (i:=4) (some 11) (v:=?v4_1) rfl rfl (by kernel_rfl) (by kernel_rfl) (by kernel_rfl) (by kernel_rfl) (fun _ _ _ h=>h) hSd (Or.inl ⟨by rfl,?hy4_1⟩) ?rest4_1
 case hy4_1=>(intro w hSw;(try dsimp only at hSw);go_simp;try with_reducible rfl)
 try simp only[Act.put,List.setIfInBounds_toArray,List.set_cons_zero,List.set_cons_succ]
 refine wpTwo_take (i:=5) (some 12) (v:=?v5_1) rfl rfl (by kernel_rfl) (by kernel_rfl) (by kernel_rfl) (by kernel_rfl) (fun _ _ _ h=>h) hSd (Or.inl ⟨by rfl,?hy5_1⟩) ?rest5_1
 case hy5_1=>(intro w hSw;(try dsimp only at hSw);go_simp;try with_reducible rfl)
 try simp only[Act.put,List.setIfInBounds_toArray,List.set_cons_zero,List.set_cons_succ]
 refine wpTwo_one (j:=0) (by kernel_rfl) rfl (fun K2 hK=>?_)
 go_simp
 refine hK.out _ _ (fun _=>HSD.out) ?_
 clear hK K2
 try simp only[Act.put,List.setIfInBounds_toArray,List.set_cons_zero,List.set_cons_succ]
 refine wpTwo_one (j:=1) (by kernel_rfl) rfl (fun K2 hK=>?_)
 go_simp
 refine hK.out _ _ (fun _=>HSD.out) ?_
 clear hK K2
 try simp only[Act.put,List.setIfInBounds_toArray,List.set_cons_zero,List.set_cons_succ]
 refine wpTwo_one (j:=2) (by kernel_rfl) rfl (fun K2 hK=>?_)
 go_simp
 refine hK.out _ _ (fun _=>HSD.out) ?_
 clear hK K2
 try simp only[Act.put,List.setIfInBounds_toArray,List.set_cons_zero,List.set_cons_succ]
 refine wpTwo_one (j:=3) (by kernel_rfl) rfl (fun K2 hK=>?_)
 go_simp
 refine hK.out _ _ (fun _=>HSD.out) ?_
 clear hK K2
 try simp only[Act.put,List.setIfInBounds_toArray,List.set_cons_zero,List.set_cons_succ]
 refine wpTwo_one (j:=6) (by kernel_rfl) rfl (fun K2 hK=>?_)
 go_simp
 refine HCD.out.mono ?_
 rintro e U ⟨code,rfl,hbk,hbl⟩
 have HFIN:Hid (StPost base w K M nm SS R (.returned (.int .i64 code)) U):=⟨code,rfl,hbk.elim fun o1 h=>h.elim fun o2 h=>h.elim fun o3 h=>h.elim fun o4 h=>⟨o1,o2,o3,o4,h.1,h.2.1,h.2.2.1,(Ft.below HBD.out).trans h.2.2.2⟩,(HBD.out.mono hbase).trans hbl⟩
 refine hK.out _ _ (fun h=>absurd h (by decide)) ?_
 clear hK K2 hbk hbl
 try simp only[Act.put,List.setIfInBounds_toArray,List.set_cons_zero,List.set_cons_succ]
 refine wpTwo_one (j:=7) (by kernel_rfl) rfl (fun K2 hK=>?_)
 go_simp
 refine hK.out _ _ (fun h=>absurd h (by decide)) ?_
 clear hK K2
 refine wpTwo_done (by kernel_rfl) ?_ _
 go_wp2_with fail
 go_ret
 exact HFIN.out
set_option maxRecDepth 100000 in
set_option maxHeartbeats 16000000 in
theorem apply_fail {base:Nat} {w:World} {K M nm:Nat} {SS:Nat→Prop} {R:List Sess × Int} (hbase:base≤w.heap.size) (client page n0:Int) (tag query:ByteArray) (au:Option Addr) (nu cu:Nat) (hcall:∀D,Below w.heap.size w D→Calls Tryz.prog 69 #[.pointer (some ⟨K,0,none⟩),.agg #[.int .i64 5,.int .i64 client,.string tag,.string query,.int .i64 page,.slice au nu cu,.int .i64 n0]] D (StPost base D K M nm SS R)) :
  Calls Tryz.prog 30 #[.pointer (some ⟨K,0,none⟩),.agg #[.int .i64 5,.int .i64 client,.string tag,.string query,.int .i64 page,.slice au nu cu,.int .i64 n0]] w (StPost base w K M nm SS R):=by
 have HC:=hide hcall
 obtain⟨x1,hx1⟩:∃x,w.alloc (Obj.cells #[.int .i64 5,.int .i64 client,.string tag,.string query,.int .i64 page,.slice au nu cu,.int .i64 n0] 28)=x:=⟨_,rfl⟩
 have s1:x1.heap.size=w.heap.size+1:=by rw[←hx1];exact Deep.nblk_alloc _ _
 have b1:Below w.heap.size w x1:=by rw[←hx1];exact alcB _ _
 have o1:Box x1 w.heap.size 28 #[.int .i64 5,.int .i64 client,.string tag,.string query,.int .i64 page,.slice au nu cu,.int .i64 n0]:=by rw[←hx1];exact Box.new _ _ _
 obtain⟨Y,hY⟩:∃x,x1.alloc (Obj.cells #[.nilFunc,.func (.func 65) #[] #[],.func (.func 66) #[] #[],.func (.func 67) #[] #[],.func (.func 68) #[] #[],.func (.func 69) #[] #[],.func (.func 70) #[] #[]] 102)=x:=⟨_,rfl⟩
 have b2:Below x1.heap.size x1 Y:=by rw[←hY];exact alcB _ _
 have hA:Box Y (w.heap.size+1) 102 #[.nilFunc,.func (.func 65) #[] #[],.func (.func 66) #[] #[],.func (.func 67) #[] #[],.func (.func 68) #[] #[],.func (.func 69) #[] #[],.func (.func 70) #[] #[]]:=by rw[←s1,←hY];exact Box.new _ _ _
 have hO:=o1.below b2
 have HBY:Hid (Below w.heap.size w Y):=bjoin b2 b1
 have HYE:Hid ((w.alloc (Obj.cells #[.int .i64 5,.int .i64 client,.string tag,.string query,.int .i64 page,.slice au nu cu,.int .i64 n0] 28)).alloc (Obj.cells #[.nilFunc,.func (.func 65) #[] #[],.func (.func 66) #[] #[],.func (.func 67) #[] #[],.func (.func 68) #[] #[],.func (.func 69) #[] #[],.func (.func 70) #[] #[]] 102)=Y):=by show _=_;rw[hx1,hY]
 obtain⟨D,hDe⟩:∃D,Y.drew=D:=⟨_,rfl⟩
 have hD:Below Y.heap.size Y D:=by rw[←hDe];exact(Below.refl _ _).drew
 have HDE:=hide hDe
 have hOD:=hO.below hD
 have hAD:=hA.below hD
 have hSd:(fun U:World=>U.cell? ⟨w.heap.size,0,none⟩=some (.int .i64 5)∧U.cell? ⟨w.heap.size,1,none⟩=some (.int .i64 client)∧U.cell? ⟨w.heap.size,2,none⟩=some (.string tag)∧U.cell? ⟨w.heap.size,3,none⟩=some (.string query)∧U.cell? ⟨w.heap.size,4,none⟩=some (.int .i64 page)∧U.cell? ⟨w.heap.size,5,none⟩=some (.slice au nu cu)∧U.cell? ⟨w.heap.size,6,none⟩=some (.int .i64 n0)∧U.cell? ⟨w.heap.size+1,5,none⟩=some (.func (.func 69) #[] #[])) D:=⟨hOD.cell 0 (by simp),hOD.cell 1 (by simp),hOD.cell 2 (by simp),hOD.cell 3 (by simp),hOD.cell 4 (by simp),hOD.cell 5 (by simp),hOD.cell 6 (by simp),hAD.cell 5 (by simp)⟩
 have HSD:=hide hSd
 have HBD:=hide (bjoin hD HBY.out)
 have HCD:=hide (HC.out D HBD.out)
 clear hcall hx1 s1 b1 o1 b2 hY hO hA hDe hD hOD hAD HC
 go_enter Tryz.func30,Tryz.ntmps30
 go_upto_region 2 with fail
 rw[HYE.out]
 refine wp_region_two (fun U:World=>U.cell? ⟨w.heap.size,0,none⟩=some (.int .i64 5)∧U.cell? ⟨w.heap.size,1,none⟩=some (.int .i64 client)∧U.cell? ⟨w.heap.size,2,none⟩=some (.string tag)∧U.cell? ⟨w.heap.size,3,none⟩=some (.string query)∧U.cell? ⟨w.heap.size,4,none⟩=some (.int .i64 page)∧U.cell? ⟨w.heap.size,5,none⟩=some (.slice au nu cu)∧U.cell? ⟨w.heap.size,6,none⟩=some (.int .i64 n0)∧U.cell? ⟨w.heap.size+1,5,none⟩=some (.func (.func 69) #[] #[])) 6 (by kernel_rfl) ?_
 rw[HDE.out]
 refine wpTwo_take (i:=4) (some 11) (v:=?v4_1) rfl rfl (by kernel_rfl) (by kernel_rfl) (by kernel_rfl) (by kernel_rfl) (fun _ _ _ h=>h) hSd (Or.inl ⟨by rfl,?hy4_1⟩) ?rest4_1
 case hy4_1=>(intro w hSw;(try dsimp only at hSw);go_simp;try with_reducible rfl)
 try simp only[Act.put,List.setIfInBounds_toArray,List.set_cons_zero,List.set_cons_succ]
 refine wpTwo_take (i:=5) (some 12) (v:=?v5_1) rfl rfl (by kernel_rfl) (by kernel_rfl) (by kernel_rfl) (by kernel_rfl) (fun _ _ _ h=>h) hSd (Or.inl ⟨by rfl,?hy5_1⟩) ?rest5_1
 case hy5_1=>(intro w hSw;(try dsimp only at hSw);go_simp;try with_reducible rfl)
 try simp only[Act.put,List.setIfInBounds_toArray,List.set_cons_zero,List.set_cons_succ]
 refine wpTwo_one (j:=0) (by kernel_rfl) rfl (fun K2 hK=>?_)
 go_simp
 refine hK.out _ _ (fun _=>HSD.out) ?_
 clear hK K2
 try simp only[Act.put,List.setIfInBounds_toArray,List.set_cons_zero,List.set_cons_succ]
 refine wpTwo_one (j:=1) (by kernel_rfl) rfl (fun K2 hK=>?_)
 go_simp
 refine hK.out _ _ (fun _=>HSD.out) ?_
 clear hK K2
 try simp only[Act.put,List.setIfInBounds_toArray,List.set_cons_zero,List.set_cons_succ]
 refine wpTwo_one (j:=2) (by kernel_rfl) rfl (fun K2 hK=>?_)
 go_simp
 refine hK.out _ _ (fun _=>HSD.out) ?_
 clear hK K2
 try simp only[Act.put,List.setIfInBounds_toArray,List.set_cons_zero,List.set_cons_succ]
 refine wpTwo_one (j:=3) (by kernel_rfl) rfl (fun K2 hK=>?_)
 go_simp
 refine hK.out _ _ (fun _=>HSD.out) ?_
 clear hK K2
 try simp only[Act.put,List.setIfInBounds_toArray,List.set_cons_zero,List.set_cons_succ]
 refine wpTwo_one (j:=6) (by kernel_rfl) rfl (fun K2 hK=>?_)
 go_simp
 refine HCD.out.mono ?_
 rintro e U ⟨code,rfl,hbk,hbl⟩
 have HFIN:Hid (StPost base w K M nm SS R (.returned (.int .i64 code)) U):=⟨code,rfl,hbk.elim fun o1 h=>h.elim fun o2 h=>h.elim fun o3 h=>h.elim fun o4 h=>⟨o1,o2,o3,o4,h.1,h.2.1,h.2.2.1,(Ft.below HBD.out).trans h.2.2.2⟩,(HBD.out.mono hbase).trans hbl⟩
 refine hK.out _ _ (fun h=>absurd h (by decide)) ?_
 clear hK K2 hbk hbl
 try simp only[Act.put,List.setIfInBounds_toArray,List.set_cons_zero,List.set_cons_succ]
 refine wpTwo_one (j:=7) (by kernel_rfl) rfl (fun K2 hK=>?_)
 go_simp
 refine hK.out _ _ (fun h=>absurd h (by decide)) ?_
 clear hK K2
 refine wpTwo_done (by kernel_rfl) ?_ _
 go_wp2_with fail
 go_ret
 exact HFIN.out
set_option maxRecDepth 100000 in
set_option maxHeartbeats 16000000 in
theorem apply_shut {base:Nat} {w:World} {K M nm:Nat} {SS:Nat→Prop} {R:List Sess × Int} (hbase:base≤w.heap.size) (client page n0:Int) (tag query:ByteArray) (au:Option Addr) (nu cu:Nat) (hcall:∀D,Below w.heap.size w D→Calls Tryz.prog 70 #[.pointer (some ⟨K,0,none⟩),.agg #[.int .i64 6,.int .i64 client,.string tag,.string query,.int .i64 page,.slice au nu cu,.int .i64 n0]] D (StPost base D K M nm SS R)) :
  Calls Tryz.prog 30 #[.pointer (some ⟨K,0,none⟩),.agg #[.int .i64 6,.int .i64 client,.string tag,.string query,.int .i64 page,.slice au nu cu,.int .i64 n0]] w (StPost base w K M nm SS R):=by
 have HC:=hide hcall
 obtain⟨x1,hx1⟩:∃x,w.alloc (Obj.cells #[.int .i64 6,.int .i64 client,.string tag,.string query,.int .i64 page,.slice au nu cu,.int .i64 n0] 28)=x:=⟨_,rfl⟩
 have s1:x1.heap.size=w.heap.size+1:=by rw[←hx1];exact Deep.nblk_alloc _ _
 have b1:Below w.heap.size w x1:=by rw[←hx1];exact alcB _ _
 have o1:Box x1 w.heap.size 28 #[.int .i64 6,.int .i64 client,.string tag,.string query,.int .i64 page,.slice au nu cu,.int .i64 n0]:=by rw[←hx1];exact Box.new _ _ _
 obtain⟨Y,hY⟩:∃x,x1.alloc (Obj.cells #[.nilFunc,.func (.func 65) #[] #[],.func (.func 66) #[] #[],.func (.func 67) #[] #[],.func (.func 68) #[] #[],.func (.func 69) #[] #[],.func (.func 70) #[] #[]] 102)=x:=⟨_,rfl⟩
 have b2:Below x1.heap.size x1 Y:=by rw[←hY];exact alcB _ _
 have hA:Box Y (w.heap.size+1) 102 #[.nilFunc,.func (.func 65) #[] #[],.func (.func 66) #[] #[],.func (.func 67) #[] #[],.func (.func 68) #[] #[],.func (.func 69) #[] #[],.func (.func 70) #[] #[]]:=by rw[←s1,←hY];exact Box.new _ _ _
 have hO:=o1.below b2
 have HBY:Hid (Below w.heap.size w Y):=bjoin b2 b1
 have HYE:Hid ((w.alloc (Obj.cells #[.int .i64 6,.int .i64 client,.string tag,.string query,.int .i64 page,.slice au nu cu,.int .i64 n0] 28)).alloc (Obj.cells #[.nilFunc,.func (.func 65) #[] #[],.func (.func 66) #[] #[],.func (.func 67) #[] #[],.func (.func 68) #[] #[],.func (.func 69) #[] #[],.func (.func 70) #[] #[]] 102)=Y):=by show _=_;rw[hx1,hY]
 obtain⟨D,hDe⟩:∃D,Y.drew=D:=⟨_,rfl⟩
 have hD:Below Y.heap.size Y D:=by rw[←hDe];exact(Below.refl _ _).drew
 have HDE:=hide hDe
 have hOD:=hO.below hD
 have hAD:=hA.below hD
 have hSd:(fun U:World=>U.cell? ⟨w.heap.size,0,none⟩=some (.int .i64 6)∧U.cell? ⟨w.heap.size,1,none⟩=some (.int .i64 client)∧U.cell? ⟨w.heap.size,2,none⟩=some (.string tag)∧U.cell? ⟨w.heap.size,3,none⟩=some (.string query)∧U.cell? ⟨w.heap.size,4,none⟩=some (.int .i64 page)∧U.cell? ⟨w.heap.size,5,none⟩=some (.slice au nu cu)∧U.cell? ⟨w.heap.size,6,none⟩=some (.int .i64 n0)∧U.cell? ⟨w.heap.size+1,6,none⟩=some (.func (.func 70) #[] #[])) D:=⟨hOD.cell 0 (by simp),hOD.cell 1 (by simp),hOD.cell 2 (by simp),hOD.cell 3 (by simp),hOD.cell 4 (by simp),hOD.cell 5 (by simp),hOD.cell 6 (by simp),hAD.cell 6 (by simp)⟩
 have HSD:=hide hSd
 have HBD:=hide (bjoin hD HBY.out)
 have HCD:=hide (HC.out D HBD.out)
 clear hcall hx1 s1 b1 o1 b2 hY hO hA hDe hD hOD hAD HC
 go_enter Tryz.func30,Tryz.ntmps30
 go_upto_region 2 with fail
 rw[HYE.out]
 refine wp_region_two (fun U:World=>U.cell? ⟨w.heap.size,0,none⟩=some (.int .i64 6)∧U.cell? ⟨w.heap.size,1,none⟩=some (.int .i64 client)∧U.cell? ⟨w.heap.size,2,none⟩=some (.string tag)∧U.cell? ⟨w.heap.size,3,none⟩=some (.string query)∧U.cell? ⟨w.heap.size,4,none⟩=some (.int .i64 page)∧U.cell? ⟨w.heap.size,5,none⟩=some (.slice au nu cu)∧U.cell? ⟨w.heap.size,6,none⟩=some (.int .i64 n0)∧U.cell? ⟨w.heap.size+1,6,none⟩=some (.func (.func 70) #[] #[])) 6 (by kernel_rfl) ?_
 rw[HDE.out]
 refine wpTwo_take (i:=4) (some 11) (v:=?v4_1) rfl rfl (by kernel_rfl) (by kernel_rfl) (by kernel_rfl) (by kernel_rfl) (fun _ _ _ h=>h) hSd (Or.inl ⟨by rfl,?hy4_1⟩) ?rest4_1
 case hy4_1=>(intro w hSw;(try dsimp only at hSw);go_simp;try with_reducible rfl)
 try simp only[Act.put,List.setIfInBounds_toArray,List.set_cons_zero,List.set_cons_succ]
 refine wpTwo_take (i:=5) (some 12) (v:=?v5_1) rfl rfl (by kernel_rfl) (by kernel_rfl) (by kernel_rfl) (by kernel_rfl) (fun _ _ _ h=>h) hSd (Or.inl ⟨by rfl,?hy5_1⟩) ?rest5_1
 case hy5_1=>(intro w hSw;(try dsimp only at hSw);go_simp;try with_reducible rfl)
 try simp only[Act.put,List.setIfInBounds_toArray,List.set_cons_zero,List.set_cons_succ]
 refine wpTwo_one (j:=0) (by kernel_rfl) rfl (fun K2 hK=>?_)
 go_simp
 refine hK.out _ _ (fun _=>HSD.out) ?_
 clear hK K2
 try simp only[Act.put,List.setIfInBounds_toArray,List.set_cons_zero,List.set_cons_succ]
 refine wpTwo_one (j:=1) (by kernel_rfl) rfl (fun K2 hK=>?_)
 go_simp
 refine hK.out _ _ (fun _=>HSD.out) ?_
 clear hK K2
 try simp only[Act.put,List.setIfInBounds_toArray,List.set_cons_zero,List.set_cons_succ]
 refine wpTwo_one (j:=2) (by kernel_rfl) rfl (fun K2 hK=>?_)
 go_simp
 refine hK.out _ _ (fun _=>HSD.out) ?_
 clear hK K2
 try simp only[Act.put,List.setIfInBounds_toArray,List.set_cons_zero,List.set_cons_succ]
 refine wpTwo_one (j:=3) (by kernel_rfl) rfl (fun K2 hK=>?_)
 go_simp
 refine hK.out _ _ (fun _=>HSD.out) ?_
 clear hK K2
 try simp only[Act.put,List.setIfInBounds_toArray,List.set_cons_zero,List.set_cons_succ]
 refine wpTwo_one (j:=6) (by kernel_rfl) rfl (fun K2 hK=>?_)
 go_simp
 refine HCD.out.mono ?_
 rintro e U ⟨code,rfl,hbk,hbl⟩
 have HFIN:Hid (StPost base w K M nm SS R (.returned (.int .i64 code)) U):=⟨code,rfl,hbk.elim fun o1 h=>h.elim fun o2 h=>h.elim fun o3 h=>h.elim fun o4 h=>⟨o1,o2,o3,o4,h.1,h.2.1,h.2.2.1,(Ft.below HBD.out).trans h.2.2.2⟩,(HBD.out.mono hbase).trans hbl⟩
 refine hK.out _ _ (fun h=>absurd h (by decide)) ?_
 clear hK K2 hbk hbl
 try simp only[Act.put,List.setIfInBounds_toArray,List.set_cons_zero,List.set_cons_succ]
 refine wpTwo_one (j:=7) (by kernel_rfl) rfl (fun K2 hK=>?_)
 go_simp
 refine hK.out _ _ (fun h=>absurd h (by decide)) ?_
 clear hK K2
 refine wpTwo_done (by kernel_rfl) ?_ _
 go_wp2_with fail
 go_ret
 exact HFIN.out
def doP (xs:List Sess) (c:Chg):List Sess × Int:=if c.kind=1 then openP xs c else opP xs c
theorem applyP_do {xs:List Sess} {c:Chg} (h1:tblB xs=true) (h2:chgB c=true):applyP xs c=doP xs c:=by
 unfold applyP doP opP
 rw[if_pos ⟨h1,h2⟩]
 by_cases hk:c.kind=1
 ·rw[if_pos hk,if_pos hk]
 ·rw[if_neg hk,if_neg hk]
  cases List.findIdx? (keyB c.client c.tag) xs <;> rfl
theorem applyP_not {xs:List Sess} {c:Chg} (h:¬(tblB xs=true∧chgB c=true)):applyP xs c=([],9):=by
 unfold applyP
 rw[if_neg h]
theorem chg_facts {c:Chg} (h:chgB c=true):(Lit.int .i64 c.client).wf=true∧c.tag.size≤9223372036854775807:=by
 unfold chgB clientB at h
 simp only[Bool.and_eq_true,decide_eq_true_eq] at h
 obtain⟨⟨⟨h1,h2⟩,h3⟩,_⟩:=h
 refine⟨?_,?_⟩
 ·simp[Lit.wf,IntKind.min,IntKind.max,IntKind.signed,IntKind.bits]
  omega
 ·have:=bnd_sz h3
  omega
theorem sessB_st {s:Sess} (h:sessB s=true):s.state=1∨s.state=2∨s.state=3∨s.state=4:=by
 unfold sessB stateB at h
 simp only[Bool.and_eq_true] at h
 have h2:=h.2
 by_cases k1:s.state=1
 ·exact .inl k1
 by_cases k2:s.state=2
 ·exact .inr (.inl k2)
 by_cases k3:s.state=3
 ·exact .inr (.inr (.inl k3))
 by_cases k4:s.state=4
 ·exact .inr (.inr (.inr k4))
 exfalso
 simp[k1,k2,k3,k4] at h2
theorem tv_of {ps:List (Sess × Value)} (h:tblB (ps.map Prod.fst)=true):TV ps:=by
 unfold tblB at h
 simp only[Bool.and_eq_true,decide_eq_true_eq] at h
 obtain⟨h1,h2⟩:=h
 rw[List.length_map] at h1
 have hat:∀p∈ps,sessB p.1=true:=fun p hp=>by
  obtain⟨i,hi,rfl⟩:=List.mem_iff_getElem.1 hp
  have:=(h2 i (by rw[List.length_map];exact hi)).1
  rw[List.getElem_map] at this
  exact this
 refine⟨?_,fun p hp=>client_wf (hat p hp),fun p hp=>sessB_st (hat p hp),h1⟩
 unfold KU
 rw[List.pairwise_iff_getElem]
 intro i j hi hj hij he
 have:=(h2 j (by rw[List.length_map];exact hj)).2 i hij
 rw[List.getElem_map,List.getElem_map] at this
 unfold sameB at this
 rw[he.1,he.2] at this
 simp at this
theorem apply_any {base:Nat} {w:World} {K M:Nat} {ov:Value} {nm:Nat} {ps:List (Sess × Value)} {bs:List Nat} (h:BK base w K M ov nm ps bs) (hbase:base≤w.heap.size) (hV:TV ps) (hnm:nm≤100000) (c:Chg) (hck:chgB c=true) (hq:c.query.size≤9223372036854775807) (au:Option Addr) (nu cu:Nat) {lo:Nat} (hv:StrsAt lo w (.slice au nu cu) c.rows) :
  Calls Tryz.prog 30 #[.pointer (some ⟨K,0,none⟩),chgV c (.slice au nu cu)] w (StPost base w K M nm (BIn K M ov ps bs) (doP (ps.map Prod.fst) c)):=by
 obtain⟨hc,ht⟩:=chg_facts hck
 have hr:=chg_rows hck
 have hbD:∀D,Below w.heap.size w D→base≤D.heap.size:=fun D hD=>Nat.le_trans hbase hD.size
 have hd1:c.kind=1→doP (ps.map Prod.fst) c=openP (ps.map Prod.fst) c:=fun hk=>by unfold doP;rw[if_pos hk]
 have hd2:c.kind≠1→doP (ps.map Prod.fst) c=opP (ps.map Prod.fst) c:=fun hk=>by unfold doP;rw[if_neg hk]
 have a1:c.kind=1→∀D,Below w.heap.size w D→Calls Tryz.prog 65 #[.pointer (some ⟨K,0,none⟩),chgV c (.slice au nu cu)] D (StPost base D K M nm (BIn K M ov ps bs) (doP (ps.map Prod.fst) c)):=fun hk D hD=>by rw[hd1 hk];exact open_any (h.below hD) (hbD D hD) hV hnm c hk hc ht hq au nu cu
 have a2:c.kind=2→∀D,Below w.heap.size w D→Calls Tryz.prog 66 #[.pointer (some ⟨K,0,none⟩),chgV c (.slice au nu cu)] D (StPost base D K M nm (BIn K M ov ps bs) (doP (ps.map Prod.fst) c)):=fun hk D hD=>by rw[hd2 (by omega)];exact rows_any (h.below hD) (hbD D hD) c hk hc ht au nu cu (At.kept kept_str hv hD) hr
 have a3:c.kind=3→∀D,Below w.heap.size w D→Calls Tryz.prog 67 #[.pointer (some ⟨K,0,none⟩),chgV c (.slice au nu cu)] D (StPost base D K M nm (BIn K M ov ps bs) (doP (ps.map Prod.fst) c)):=fun hk D hD=>by rw[hd2 (by omega)];exact finish_any (h.below hD) (hbD D hD) c hk hc ht au nu cu
 have a4:c.kind=4→∀D,Below w.heap.size w D→Calls Tryz.prog 68 #[.pointer (some ⟨K,0,none⟩),chgV c (.slice au nu cu)] D (StPost base D K M nm (BIn K M ov ps bs) (doP (ps.map Prod.fst) c)):=fun hk D hD=>by rw[hd2 (by omega)];exact move_any (h.below hD) (hbD D hD) c hk hc ht au nu cu
 have a5:c.kind=5→∀D,Below w.heap.size w D→Calls Tryz.prog 69 #[.pointer (some ⟨K,0,none⟩),chgV c (.slice au nu cu)] D (StPost base D K M nm (BIn K M ov ps bs) (doP (ps.map Prod.fst) c)):=fun hk D hD=>by rw[hd2 (by omega)];exact fail_any (h.below hD) (hbD D hD) c hk hc ht au nu cu
 have a6:c.kind=6→∀D,Below w.heap.size w D→Calls Tryz.prog 70 #[.pointer (some ⟨K,0,none⟩),chgV c (.slice au nu cu)] D (StPost base D K M nm (BIn K M ov ps bs) (doP (ps.map Prod.fst) c)):=fun hk D hD=>by rw[hd2 (by omega)];exact shut_any (h.below hD) (hbD D hD) c hk hc ht au nu cu
 have hks:=chg_kinds hck
 obtain⟨R,hR⟩:∃R,doP (ps.map Prod.fst) c=R:=⟨_,rfl⟩
 rw[hR] at a1 a2 a3 a4 a5 a6 ⊢
 obtain⟨kind,client,tag,query,page,rows,n0⟩:=c
 unfold chgV at *
 dsimp only at *
 rcases hks with rfl|rfl|rfl|rfl|rfl|rfl
 ·exact apply_open hbase client page n0 tag query au nu cu (a1 rfl)
 ·exact apply_addRows hbase client page n0 tag query au nu cu (a2 rfl)
 ·exact apply_finish hbase client page n0 tag query au nu cu (a3 rfl)
 ·exact apply_moveCursor hbase client page n0 tag query au nu cu (a4 rfl)
 ·exact apply_fail hbase client page n0 tag query au nu cu (a5 rfl)
 ·exact apply_shut hbase client page n0 tag query au nu cu (a6 rfl)
theorem doP_same {xs:List Sess} {c:Chg} (h:(doP xs c).2≠0):(doP xs c).1=xs:=by
 unfold doP at h ⊢
 split at h
 ·rename_i hk
  rw[if_pos hk]
  unfold openP at h ⊢
  cases e:xs.findIdx? (keyB c.client c.tag) with
  | none =>
   rw[e] at h
   dsimp only at h ⊢
   unfold openFin at h ⊢
   split
   ·rfl
   ·rename_i hl;rw[if_neg hl] at h;exact absurd rfl h
  | some i =>
   rw[e] at h
   dsimp only at h ⊢
   split
   ·rfl
   ·rename_i hl
    rw[if_neg hl] at h
    unfold openFin at h ⊢
    split
    ·rfl
    ·rename_i hl2;rw[if_neg hl2] at h;exact absurd rfl h
 ·rename_i hk
  rw[if_neg hk]
  unfold opP at h ⊢
  cases e:xs.findIdx? (keyB c.client c.tag) with
  | none=>rfl
  | some i =>
   rw[e] at h
   dsimp only at h ⊢
   cases e2:stepS (xs.getD i sess0) c with
   | error k=>rfl
   | ok s=>rw[e2] at h;exact absurd rfl h
theorem BK.cellsB {base:Nat} {X:World} {K M:Nat} {ov:Value} {n:Nat} {ps:List (Sess × Value)} {bs:List Nat} (h:BK base X K M ov n ps bs) {d:Nat} (hd:BIn K M ov ps bs d) (hm:d≠M):∃cs t,X.heap[d]?=some (.cells cs t (0,0)):=by
 rcases hd with hd|hd|hd|hd|⟨p,hp,hd⟩
 ·subst hd;exact⟨_,_,h.box⟩
 ·exact absurd hd hm
 ·obtain⟨cs,e⟩:=h.row.blk hd
  exact⟨cs,_,e⟩
 ·obtain⟨i,hi,rfl⟩:=List.mem_iff_getElem.1 hd
  exact⟨_,_,h.ses i (by rw[←h.len];exact hi) hi⟩
 ·obtain⟨cs,e⟩:=(h.els p hp).2.blk hd
  exact⟨cs,_,e⟩
structure RC (x1:World) (base K M Bb Bi B5:Nat):Prop where
 a:x1.heap.size≤base
 b:M<Bb
 c:Bb<Bi
 d:Bi<B5
 e:x1.heap.size≤Bb
structure RI (x1:World) (base K M Bb Bi B5:Nat) (ib:Option Obj) (n:Nat) (ys:List Sess) (X:World):Prop where
 book:∃ov nm ps bs,BK base X K M ov nm ps bs∧ps.map Prod.fst=ys∧nm≤n∧∀d,BIn K M ov ps bs d→d<Bb∨B5≤d
 ptr:Box X Bb 57 #[.pointer (some ⟨K,0,none⟩)]
 img:X.heap[Bi]?=ib
 below:Below x1.heap.size x1 X
 size:B5≤X.heap.size
section
variable {x1:World} {base K M Bb Bi B5:Nat} {ib:Option Obj} {n:Nat} {ys:List Sess} {X Y:World}
theorem RI.bel (h:RI x1 base K M Bb Bi B5 ib n ys X) (hc:RC x1 base K M Bb Bi B5) (hb:Below X.heap.size X Y):RI x1 base K M Bb Bi B5 ib n ys Y:=by
 obtain⟨ov,nm,ps,bs,h1,h2,h3,h4⟩:=h.book
 have:=hc.d
 have:=h.size
 exact⟨⟨ov,nm,ps,bs,h1.below hb,h2,h3,h4⟩,h.ptr.below hb,(hb.block Bi (by omega)).trans h.img,bjoin hb h.below,Nat.le_trans h.size hb.size⟩
theorem RI.turned (h:RI x1 base K M Bb Bi B5 ib n ys X) (hc:RC x1 base K M Bb Bi B5) {row:Option Nat} (hg:X.grownBy Y row) (hr:∀r,row=some r→B5≤r∧∃o:Obj,X.heap[r]?=some o∧o.isCells=false):RI x1 base K M Bb Bi B5 ib n ys Y:=by
 obtain⟨ov,nm,ps,bs,h1,h2,h3,h4⟩:=h.book
 have c1:=hc.b;have c2:=hc.c;have c3:=hc.d;have c4:=hc.e
 have hs:=h.size
 have hlow:∀k,k<B5→Y.heap[k]?=X.heap[k]?:=fun k hk=>hg.block k (by omega) fun e=>by have:=(hr k e.symm).1;omega
 refine⟨⟨ov,nm,ps,bs,h1.keep fun d hd=>?_,h2,h3,h4⟩,h.ptr.keep (hlow Bb (by omega)),(hlow Bi c3).trans h.img,?_,Nat.le_trans hs hg.size⟩
 ·by_cases hm:d=M
  ·subst hm;exact hlow d (by omega)
  ·refine hg.block d (h1.own hd).2 fun e=>?_
   obtain⟨_,o,ho,hoc⟩:=hr d e.symm
   obtain⟨cs,t,e2⟩:=h1.cellsB hd hm
   rw[e2] at ho
   cases ho
   cases hoc
 ·exact h.below.trans ⟨hg.os,hg.tape,hg.output,hg.size,fun k hk=>hlow k (by omega)⟩
theorem RI.step {ov:Value} {nm:Nat} {ps:List (Sess × Value)} {bs:List Nat} (h:RI x1 base K M Bb Bi B5 ib n ys X) (hc:RC x1 base K M Bb Bi B5) (hbk:BK base X K M ov nm ps bs) (hnm:nm≤n) (hin:∀d,BIn K M ov ps bs d→d<Bb∨B5≤d) {ov':Value} {n':Nat} {ps':List (Sess × Value)} {bs':List Nat} {ys':List Sess} (hbk':BK base Y K M ov' n' ps' bs') (he:ps'.map Prod.fst=ys') (hn':n'≤nm+1) (hft:Ft (BIn K M ov ps bs) X (BIn K M ov' ps' bs') Y) (hb:Below base X Y) :
  RI x1 base K M Bb Bi B5 ib (n+1) ys' Y∧KeepsFrom B5 X Y:=by
 have c0:=hc.a;have c1:=hc.b;have c2:=hc.c;have c3:=hc.d;have c4:=hc.e
 have hs:=h.size
 have hout:∀d,Bb≤d→d<B5→Y.heap[d]?=X.heap[d]?:=fun d h1 h2=>hft.out d (by omega) fun h3=>by rcases hin d h3 with h4|h4 <;> omega
 refine⟨⟨⟨ov',n',ps',bs',hbk',he,by omega,fun d hd=>?_⟩,h.ptr.keep (hout Bb (leR _) (by omega)),(hout Bi (by omega) c3).trans h.img,h.below.trans (hb.mono c0),Nat.le_trans hs hft.size⟩,hft.size,fun k o hk ho hoc=>?_⟩
 ·rcases hft.grow d hd with h1|h1
  ·exact hin d h1
  ·right;omega
 ·have hlt:k<X.heap.size:=(Array.getElem?_eq_some_iff.1 ho).1
  rw[hft.out k hlt fun h1=>?_,ho]
  obtain⟨cs,t,e2⟩:=hbk.cellsB h1 (by omega)
  rw[e2] at ho
  cases ho
  cases hoc
end
theorem keepsFrom_below {B:Nat} {X Y:World} (hb:Below X.heap.size X Y):KeepsFrom B X Y:=⟨hb.size,fun k o _ hk _=>(hb.block k (Array.getElem?_eq_some_iff.1 hk).1).trans hk⟩
abbrev RT:={ p:ByteArray × Nat // p.1.size≤60000 }
theorem records_stops (img:ByteArray) (hI:img.size≤1048576) (Bi:Nat) (w0:World) (hBi:w0.heap[Bi]?=some (.cells #[.string img] 9 (0,0))) :
  SeqStopsK (α:=RT) Fence.wide 5 Tryz.prog 80 #[.pointer (some ⟨Bi,0,none⟩)] (fun x=>#[.string x.val.1,.int .i64 ((x.val.2:Nat):Int)]) (fun X X'=>X'.heap[Bi]?=X.heap[Bi]?) (fun ls=>ls.map Subtype.val=recsA img) (fun ls=>∃k,ls.map Subtype.val=recsK img k) 32769 w0:=by
 intro l J Jx X hX hJ hJx hY h0
 have hlt:Bi<w0.heap.size:=(Array.getElem?_eq_some_iff.1 hBi).1
 refine(records1_sz 5 l Bi img (by omega) hI (fun pre W=>∃ls:List RT,ls.map Subtype.val=pre∧J ls W) (fun pre W=>∃ls:List RT,ls.map Subtype.val=pre∧Jx ls W) X ?_ ?_ ((hX.block Bi hlt).trans hBi) ⟨[],rfl,h0⟩).mono ?_
 ·rintro pre W W' row ⟨ls,he,hj⟩ hg hr
  exact⟨ls,he,hJ ls W W' row hj hg hr⟩
 ·rintro pre x W1 ⟨ls,he,hj⟩ hlen hsz
  refine(hY ls ⟨x,hsz⟩ W1 hj (by rw[←he,List.length_map] at hlen;exact hlen)).mono ?_
  rintro e w' (⟨h1,h2,h3⟩|⟨h1,h2⟩)
  ·exact .inl ⟨h1,⟨ls++[⟨x,hsz⟩],by rw[List.map_append,he];rfl,h2⟩,h3⟩
  ·exact .inr ⟨h1,⟨ls++[⟨x,hsz⟩],by rw[List.map_append,he];rfl,h2⟩⟩
 ·rintro e W' ⟨hv,⟨ys,rfl,ls,he,hj⟩|⟨pre,⟨k,rfl⟩,ls,he,hj⟩⟩
  ·exact⟨hv,.inl ⟨ls,he,hj⟩⟩
  ·exact⟨hv,.inr ⟨ls,⟨k,he⟩,hj⟩⟩
theorem TE.cellsB {base:Nat} {X:World} {v:Value} {ps:List (Sess × Value)} (h:TE base X v ps) {d:Nat} (hd:TE.In v ps d):∃cs t,X.heap[d]?=some (.cells cs t (0,0)):=by
 rcases hd with hd|⟨p,hp,hd⟩
 ·obtain⟨cs,e⟩:=h.row.blk hd
  exact⟨cs,_,e⟩
 ·obtain⟨cs,e⟩:=(h.els p hp).2.blk hd
  exact⟨cs,_,e⟩
theorem TE.putObj {base:Nat} {X:World} {v:Value} {ps:List (Sess × Value)} (h:TE base X v ps) {D:Nat} {o:Obj} (hD:X.heap[D]?=some o) (ho:o.isCells=false) (o':Obj):TE base (X.putObj D o') v ps :=
 h.keep fun d hd=>World.putObj_heap_other fun e=>by
  obtain⟨cs,t,e2⟩:=h.cellsB hd
  rw[e,hD] at e2
  injection e2 with e2
  subst e2
  cases ho
end Go.Proofs.YtglcdcekkglmiaaGreatDoor.Msg
