import Derived.Test.YtglcdcekkglmiaaGreatDoorG24
namespace Go.Proofs.YtglcdcekkglmiaaGreatDoor.Msg
open Go.ChangeShapes Go.WideShapes Go.ChangeAt Go.RowKit
set_option linter.unusedVariables false
set_option linter.unusedSimpArgs false
theorem row_ptr {base:Nat} {X:World} {ao:Option Addr} {n co:Nat} {bs:List Nat} (h:FB pC 1 84 base X (.slice ao n co) bs) (hz:bs.length≤9223372036854775807) (k:Nat) (hk:k<bs.length):∃g off,ao=some ⟨g,off,none⟩∧g<X.heap.size∧X.cell? ⟨g,off+k,none⟩=some (.pointer (some ⟨bs[k],0,none⟩)):=by
 obtain⟨h0,hA⟩:=FB.at (C:=pC) (c:=1) (Z:=fun _=>True) (fun _=>rfl) h hz (fun _ _=>trivial)
 rcases hA with⟨a9,c9,e9,e2⟩|⟨b9,off9,c9,e9,hbb,hA⟩
 ·rw[e2] at hk;simp at hk
 ·injection e9 with e1 _ _
  have:=(hA k hk).1 0 (by simp[pC])
  exact⟨b9,off9,e1,hbb.2,by simpa [pC] using this⟩
set_option maxRecDepth 100000 in
set_option maxHeartbeats 16000000 in
theorem table_any {base:Nat} {w:World} {K M:Nat} {ov:Value} {nm:Nat} {ps:List (Sess × Value)} {bs:List Nat} (h:BK base w K M ov nm ps bs) (hbase:base≤w.heap.size) (hl:ps.length≤1000) :
  Calls Tryz.prog 31 #[.pointer (some ⟨K,0,none⟩)] w fun e w'=>∃t,e=.returned (.agg #[t])∧TE base w' t ps∧Below w.heap.size w w':=by
 have HH:=hide h
 obtain⟨aw,cw,rfl,_⟩:=h.row.form
 obtain⟨n,hnn⟩:∃n,bs.length=n:=⟨_,rfl⟩
 have HN:=hide hnn
 have HPN:Hid (ps.length=n):=by rw[←h.len];exact hnn
 have hn:n≤1000:=by rw[←HPN.out];exact hl
 rw[hnn] at HH
 obtain⟨x2,hx2⟩:∃x,(w.alloc (Obj.cells #[.slice none 0 0] 25)).alloc (Obj.cells #[.slice none 0 0] 25)=x:=⟨_,rfl⟩
 have HR2:Hid (Box x2 w.heap.size 25 #[.slice none 0 0]):=by rw[←hx2];exact(Box.new _ _ _).alloc _
 have HO2:Hid (Box x2 (w.heap.size+1) 25 #[.slice none 0 0]):=by
  have:=Box.new (w.alloc (Obj.cells #[.slice none 0 0] 25)) 25 #[.slice none 0 0]
  rw[Deep.nblk_alloc,hx2] at this
  exact this
 have HB2:Hid (Below w.heap.size w x2):=by
  rw[←hx2]
  have h1:=(Below.refl w.heap.size w).alloc (leR _) (Obj.cells #[.slice none 0 0] 25)
  exact h1.alloc h1.size _
 have k0:x2.cell? ⟨K,0,none⟩=some (.slice aw n cw):=(HH.out.box.below HB2.out).cell 0 (by simp)
 have HX2:=hide hx2
 clear h hnn hx2 hl
 go_enter Tryz.func31,Tryz.ntmps31
 go_upto_region 2 with fail
 (try rw[HX2.out])
 go_wp2_with fail
 go_loopg [11] n (fun q i wr=>∃(k:Nat) (ao:Option Addr) (co:Nat),k≤n∧q=n - k∧i=.int .i64 (k:Int)∧Box wr (w.heap.size+1) 25 #[.slice ao k co]∧Box wr w.heap.size 25 #[.slice none 0 0]∧FB tsC 7 41 (w.heap.size+2) wr (.slice ao k co) (ps.take k)∧Below w.heap.size w wr)
 case atStart=>exact⟨0,none,0,zrL _,rfl,rfl,HO2.out,HR2.out,FB.nil _ _ _ _ _,HB2.out⟩
 case round =>
  obtain⟨k,ao,co,hk,rfl,rfl,hO,hR,hF,hb⟩:=hrel
  obtain⟨Y,rfl⟩:∃x,x=wr:=⟨_,rfl⟩
  have HO:=hide hO
  have HR:=hide hR
  have HF:=hide hF
  have HB:=hide hb
  clear hO hR hF hb k0
  by_cases hlt:k<n
  ·have hki:(k:Int)<(n:Int):=by omega
   have hk0:(0:Int)≤(k:Int):=by omega
   have hkb:k<bs.length:=by rw[HN.out];exact hlt
   have hkp:k<ps.length:=by rw[HPN.out];exact hlt
   obtain⟨g,off,rfl,hgl,hgc⟩:=row_ptr HH.out.row (by rw[HN.out];omega) k hkb
   obtain⟨b,hbk⟩:∃b,bs[k]=b:=⟨_,rfl⟩
   have hBs:=HH.out.ses k hkp hkb
   rw[hbk] at hgc hBs
   have m0:Y.cell? ⟨g,off+k,none⟩=some (.pointer (some ⟨b,0,none⟩)):=(HB.out.cell (p:=⟨g,off+k,none⟩) hgl).trans hgc
   obtain⟨⟨⟨client,tag,query,page,state,rows,cursor⟩,u⟩,hpk⟩:∃p,ps[k]=p:=⟨_,rfl⟩
   rw[hpk] at hBs
   have HBS:=hide hBs
   have hFu:=(HH.out.els ps[k] (List.getElem_mem hkp)).2
   rw[hpk] at hFu
   obtain⟨ar,cr,hu,_⟩:=hFu.form
   dsimp only at hu
   have HTK:Hid (ps.take (k+1)=ps.take k++[(⟨client,tag,query,page,state,rows,cursor⟩,u)]):=by show _=_;rw[List.take_succ_eq_append_getElem hkp,hpk]
   have KS:Hid (∀U,Below w.heap.size w U→Box U (w.heap.size+1) 25 #[.slice ao k co]→(fun U:World=>U.cell? ⟨w.heap.size+1,0,none⟩=some (.slice ao k co)∧U.cell? ⟨b,0,none⟩=some (.int .i64 client)∧U.cell? ⟨b,1,none⟩=some (.string tag)∧U.cell? ⟨b,2,none⟩=some (.string query)∧U.cell? ⟨b,3,none⟩=some (.int .i64 page)∧U.cell? ⟨b,4,none⟩=some (.int .i64 state)∧U.cell? ⟨b,5,none⟩=some u∧U.cell? ⟨b,6,none⟩=some (.int .i64 cursor)) U):=fun U hU hO=>by
    have o2:=HBS.out.below hU
    exact⟨hO.cell 0 (by simp),o2.cell 0 (by simp[tsC]),o2.cell 1 (by simp[tsC]),o2.cell 2 (by simp[tsC]),o2.cell 3 (by simp[tsC]),o2.cell 4 (by simp[tsC]),o2.cell 5 (by simp[tsC]),o2.cell 6 (by simp[tsC])⟩
   obtain⟨D,hDe⟩:∃D,Y.drew=D:=⟨_,rfl⟩
   have hD:Below Y.heap.size Y D:=by rw[←hDe];exact(Below.refl _ _).drew
   have hBD:=bjoin hD HB.out
   have hOD:=HO.out.below hD
   have hRD:=HR.out.below hD
   have hFD:=HF.out.below hD
   have hSd:(fun U:World=>U.cell? ⟨w.heap.size+1,0,none⟩=some (.slice ao k co)∧U.cell? ⟨b,0,none⟩=some (.int .i64 client)∧U.cell? ⟨b,1,none⟩=some (.string tag)∧U.cell? ⟨b,2,none⟩=some (.string query)∧U.cell? ⟨b,3,none⟩=some (.int .i64 page)∧U.cell? ⟨b,4,none⟩=some (.int .i64 state)∧U.cell? ⟨b,5,none⟩=some u∧U.cell? ⟨b,6,none⟩=some (.int .i64 cursor)) D:=KS.out D hBD hOD
   have hlen:(ps.take k).length=k:=by rw[List.length_take];omega
   obtain⟨a8,c8,w8,hr8',hF8,ho8,hv8⟩:=row_more (C:=tsC) (c:=7) (bytes:=88) (e:=41) Tryz.underlying23 info_Sess rfl (by decide) hFD (⟨client,tag,query,page,state,rows,cursor⟩,u) rfl (fun z hz=>by
    have hz':z=.int .i64 client∨z=.string tag∨z=.string query∨z=.int .i64 page∨z=.int .i64 state∨z=u∨z=.int .i64 cursor:=by simpa [tsC] using hz
    rcases hz' with rfl|rfl|rfl|rfl|rfl|h|rfl
    all_goals first|rfl|(rw[h,hu];rfl)) (by have:=hOD.lt;omega) hlen (by omega) (by decide)
   have hr8:(Builtin.append_ #[23,23] 23 #[.slice ao k co,.slice (some ⟨D.heap.size,0,none⟩) 1 1]).run Tryz.prog (D.alloc (.cells #[.int .i64 client,.string tag,.string query,.int .i64 page,.int .i64 state,u,.int .i64 cursor] 41))=.ok (.slice a8 (k+1) c8) w8:=hr8'
   have hal:=(Below.refl D.heap.size D).alloc (leR _) (Obj.cells #[.int .i64 client,.string tag,.string query,.int .i64 page,.int .i64 state,u,.int .i64 cursor] 41)
   have hSA:=KS.out _ (bjoin hal hBD) (hOD.below hal)
   have hO8:=hOD.only ho8 (fun hm=>by have:=(hFD.own _ hm).1;omega)
   have hR8:=hRD.only ho8 (fun hm=>by have:=(hFD.own _ hm).1;omega)
   have hB8:Below w.heap.size w w8:=hBD.trans (ho8.below hBD.size fun d hd=>by have:=(hFD.own d hd).1;omega)
   have hS8:=KS.out w8 hB8 hO8
   have o0:w8.cell? ⟨w.heap.size+1,0,none⟩=some (.slice ao k co):=hO8.cell 0 (by simp)
   have of:w8.frozen? ⟨w.heap.size+1,0,none⟩=false:=hO8.frozen 0
   have ol:w.heap.size+1<w8.heap.size:=hO8.lt
   have HO9:Hid (Box (w8.setCell ⟨w.heap.size+1,0,none⟩ (.slice a8 (k+1) c8)) (w.heap.size+1) 25 #[.slice a8 (k+1) c8]):=hide (by have:=hO8.set 0 (.slice a8 (k+1) c8);simpa using this)
   have HR9:Hid (Box (w8.setCell ⟨w.heap.size+1,0,none⟩ (.slice a8 (k+1) c8)) w.heap.size 25 #[.slice none 0 0]):=hR8.other (by simp) _
   have HF9:Hid (FB tsC 7 41 (w.heap.size+2) (w8.setCell ⟨w.heap.size+1,0,none⟩ (.slice a8 (k+1) c8)) (.slice a8 (k+1) c8) (ps.take (k+1))):=by rw[HTK.out];exact hF8.set1 (by omega) _
   have HB9:=hide (hB8.setCell (p:=⟨w.heap.size+1,0,none⟩) (Nat.le_succ _) (.slice a8 (k+1) c8))
   rw[hu] at hSd hSA hS8 hr8
   clear hgc hBs hFu hpk hbk hkb hkp hF8 ho8 hv8 hr8' hO8 hR8 hB8 hal hlen hFD hOD hRD hBD
   go_upto_region 5 with fail
   refine wp_region_two (fun U:World=>U.cell? ⟨w.heap.size+1,0,none⟩=some (.slice ao k co)∧U.cell? ⟨b,0,none⟩=some (.int .i64 client)∧U.cell? ⟨b,1,none⟩=some (.string tag)∧U.cell? ⟨b,2,none⟩=some (.string query)∧U.cell? ⟨b,3,none⟩=some (.int .i64 page)∧U.cell? ⟨b,4,none⟩=some (.int .i64 state)∧U.cell? ⟨b,5,none⟩=some (.slice ar rows.length cr)∧U.cell? ⟨b,6,none⟩=some (.int .i64 cursor)) 7 (by kernel_rfl) ?_
   rw[hDe]
   clear hDe
   refine wpTwo_take (i:=0) (some 15) (v:=?v0_5) rfl rfl (by kernel_rfl) (by kernel_rfl) (by kernel_rfl) (by kernel_rfl) (fun _ _ _ h=>h) hSd (Or.inl ⟨by rfl,?hy0_5⟩) ?rest0_5
   case hy0_5=>(intro w hSw;(try dsimp only at hSw);go_simp;try with_reducible rfl)
   try simp only[Act.put,List.setIfInBounds_toArray,List.set_cons_zero,List.set_cons_succ]
   refine wpTwo_take (i:=1) (some 16) (v:=?v1_5) rfl rfl (by kernel_rfl) (by kernel_rfl) (by kernel_rfl) (by kernel_rfl) (fun _ _ _ h=>h) hSd (Or.inl ⟨by rfl,?hy1_5⟩) ?rest1_5
   case hy1_5=>(intro w hSw;(try dsimp only at hSw);go_simp;try with_reducible rfl)
   try simp only[Act.put,List.setIfInBounds_toArray,List.set_cons_zero,List.set_cons_succ]
   refine wpTwo_take (i:=2) (some 17) (v:=?v2_5) rfl rfl (by kernel_rfl) (by kernel_rfl) (by kernel_rfl) (by kernel_rfl) (fun _ _ _ h=>h) hSd (Or.inl ⟨by rfl,?hy2_5⟩) ?rest2_5
   case hy2_5=>(intro w hSw;(try dsimp only at hSw);go_simp;try with_reducible rfl)
   try simp only[Act.put,List.setIfInBounds_toArray,List.set_cons_zero,List.set_cons_succ]
   refine wpTwo_take (i:=3) (some 18) (v:=?v3_5) rfl rfl (by kernel_rfl) (by kernel_rfl) (by kernel_rfl) (by kernel_rfl) (fun _ _ _ h=>h) hSd (Or.inl ⟨by rfl,?hy3_5⟩) ?rest3_5
   case hy3_5=>(intro w hSw;(try dsimp only at hSw);go_simp;try with_reducible rfl)
   try simp only[Act.put,List.setIfInBounds_toArray,List.set_cons_zero,List.set_cons_succ]
   refine wpTwo_take (i:=4) (some 19) (v:=?v4_5) rfl rfl (by kernel_rfl) (by kernel_rfl) (by kernel_rfl) (by kernel_rfl) (fun _ _ _ h=>h) hSd (Or.inl ⟨by rfl,?hy4_5⟩) ?rest4_5
   case hy4_5=>(intro w hSw;(try dsimp only at hSw);go_simp;try with_reducible rfl)
   try simp only[Act.put,List.setIfInBounds_toArray,List.set_cons_zero,List.set_cons_succ]
   refine wpTwo_one (j:=5) (by kernel_rfl) rfl (fun K2 hK=>?_)
   go_simp
   refine hK.out _ _ (fun _=>hSA) ?_
   clear hK K2
   try simp only[Act.put,List.setIfInBounds_toArray,List.set_cons_zero,List.set_cons_succ]
   refine wpTwo_one (j:=6) (by kernel_rfl) rfl (fun K2 hK=>?_)
   refine step_app rfl _ _ 23 rfl hr8 (by first|rfl|simp[Act.eval,Act.put]) (by first|rfl|simp[Act.eval,Act.put]) ?_
   show K2 (Act.put _ (some 21) _) _
   refine hK.out _ _ (fun _=>hS8) ?_
   clear hK K2
   try simp only[Act.put,List.setIfInBounds_toArray,List.set_cons_zero,List.set_cons_succ]
   refine wpTwo_one (j:=7) (by kernel_rfl) rfl (fun K2 hK=>?_)
   go_simp
   refine hK.out _ _ (fun h=>absurd h (by decide)) ?_
   clear hK K2
   refine wpTwo_one (j:=8) (by kernel_rfl) rfl (fun K2 hK=>?_)
   go_simp
   refine hK.out _ _ (fun h=>absurd h (by decide)) ?_
   clear hK K2
   refine wpTwo_done (by kernel_rfl) ?_ _
   clear hSd hSA hS8 hr8 o0 of ol hD m0
   go_wp2_with fail
   go_roundg (n - (k+1))
   case measure=>omega
   case rel=>exact⟨k+1,a8,c8,by omega,rfl,by go_num,HO9.out,HR9.out,HF9.out,HB9.out⟩
  ·have hki:¬(k:Int)<(n:Int):=by omega
   obtain rfl:k=n:=by omega
   have o0:Y.cell? ⟨w.heap.size+1,0,none⟩=some (.slice ao k co):=HO.out.cell 0 (by simp)
   have r0:Y.cell? ⟨w.heap.size,0,none⟩=some (.slice none 0 0):=HR.out.cell 0 (by simp)
   have rf:Y.frozen? ⟨w.heap.size,0,none⟩=false:=HR.out.frozen 0
   have rl:w.heap.size<Y.heap.size:=HR.out.lt
   have HFE:Hid (∀x,TE base (Y.setCell ⟨w.heap.size,0,none⟩ x) (.slice ao k co) ps∧Below w.heap.size w (Y.setCell ⟨w.heap.size,0,none⟩ x)):=fun x=>by
    have hb:=HB.out.setCell (p:=⟨w.heap.size,0,none⟩) (leR _) x
    have hr:=(HF.out.set1 (b:=w.heap.size) (o:=0) (by omega) x).low (base':=base) (by omega)
    rw[←HPN.out,List.take_length] at hr
    rw[HPN.out] at hr
    exact⟨⟨hr,fun p hp=>⟨(HH.out.els p hp).1,(HH.out.els p hp).2.below hb⟩,HH.out.nd⟩,hb⟩
   go_wp2_with fail
   exact bodyPost_ret (v:=.agg #[.slice ao k co]) (by simp[results,Tryz.results31,go_sem,r0,rl]) rfl ⟨_,rfl,(HFE.out _).1,(HFE.out _).2⟩
def idxI (zs:List Int) (x:Int):Int:=match zs.findIdx? (fun z=>decide (x=z)) with
 | some i=>(i:Int)
 | none=>-1
theorem idxI_hit {zs:List Int} {x:Int} {k:Nat} (h:k<zs.length) (h1:∀i (hi:i<k),x≠zs[i]'(by omega)) (h2:x=zs[k]):idxI zs x=(k:Int):=by
 unfold idxI
 have:zs.findIdx? (fun z=>decide (x=z))=some k:=by
  rw[List.findIdx?_eq_some_iff_getElem]
  exact⟨h,by simpa using h2,fun j hj=>by simpa using h1 j hj⟩
 rw[this]
theorem idxI_no {zs:List Int} {x:Int} (h1:∀i (hi:i<zs.length),x≠zs[i]):idxI zs x = -1:=by
 unfold idxI
 have:zs.findIdx? (fun z=>decide (x=z))=none:=by
  rw[List.findIdx?_eq_none_iff]
  intro z hz
  obtain⟨i,hi,rfl⟩:=List.getElem_of_mem hz
  simpa using h1 i hi
 rw[this]
theorem idxI_mem (zs:List Int) (x:Int):decide (idxI zs x ≥ 0)=decide (x∈zs):=by
 by_cases h:x∈zs
 ·have h1:∃k,zs.findIdx? (fun z=>decide (x=z))=some k:=by
   cases e:zs.findIdx? (fun z=>decide (x=z)) with
   | some k=>exact⟨k,rfl⟩
   | none =>
    rw[List.findIdx?_eq_none_iff] at e
    have:=e x h
    simp at this
  obtain⟨k,hk⟩:=h1
  have:idxI zs x=(k:Int):=by unfold idxI;rw[hk]
  rw[this,decide_eq_true h,decide_eq_true (by omega)]
 ·have:idxI zs x = -1:=idxI_no fun i hi e=>h (e ▸ List.getElem_mem hi)
  rw[this,decide_eq_false h]
  rfl
def IntsIn (w:World) (b:Nat) (zs:List Int):Prop:=∀i (h:i<zs.length),w.cell? ⟨b,i,none⟩=some (.int .i64 zs[i])
set_option maxRecDepth 100000 in
set_option maxHeartbeats 4000000 in
theorem indexI_any (zs:List Int) (b c:Nat) (x:Int) (w:World) (hv:IntsIn w b zs) (hl:zs.length≤100) :
  Calls Tryz.prog 114 #[.slice (some ⟨b,0,none⟩) zs.length c,.int .i64 x] w fun e w'=>e=.returned (.int .i64 (idxI zs x))∧w'=w:=by
 have HV:=hide hv
 obtain⟨n,hn⟩:∃n,zs.length=n:=⟨_,rfl⟩
 have HN:=hide hn
 rw[hn] at hl ⊢
 clear hv hn
 go_enter Tryz.func114,Tryz.ntmps114
 go_wp2_with fail
 go_loopg [8] n (fun q i wr=>∃k:Nat,k≤n∧q=n - k∧i=.int .i64 (k:Int)∧(∀j (hj:j<zs.length),j<k→x≠zs[j])∧wr=w)
 case atStart=>exact⟨0,zrL _,rfl,rfl,fun j _ h=>absurd h (by omega),rfl⟩
 case round =>
  obtain⟨k,hk,rfl,rfl,hno,rfl⟩:=hrel
  have HNO:=hide hno
  clear hno
  by_cases hlt:k<n
  ·have hki:(k:Int)<(n:Int):=by omega
   have hk0:(0:Int)≤(k:Int):=by omega
   have hkl:k<zs.length:=by rw[HN.out];exact hlt
   obtain⟨z,hz⟩:∃z,zs[k]=z:=⟨_,rfl⟩
   have m0:wr.cell? ⟨b,k,none⟩=some (.int .i64 z):=by rw[←hz];exact HV.out k hkl
   by_cases he:x=z
   ·have heb:(x == z)=true:=by simpa using he
    have HX:=hide (idxI_hit hkl (fun i hi=>HNO.out i (by omega) hi) (by rw[hz];exact he))
    clear he hz
    go_wp2_with fail
    go_ret
    exact⟨ret_int HX.out.symm,rfl⟩
   ·have heb:(x == z)=false:=by simpa using he
    have HX:Hid (∀j (hj:j<zs.length),j<k+1→x≠zs[j]):=fun j hj hjk=>by
     by_cases e:j=k
     ·subst e;rw[hz];exact he
     ·exact HNO.out j hj (by omega)
    clear he hz
    go_wp2_with fail
    go_roundg (n - (k+1))
    case measure=>omega
    case rel=>exact⟨k+1,by omega,rfl,by go_num,HX.out,rfl⟩
  ·have hki:¬(k:Int)<(n:Int):=by omega
   obtain rfl:k=n:=by omega
   have HX:=hide (idxI_no (zs:=zs) (x:=x) fun i hi=>HNO.out i hi (by rw[←HN.out];exact hi))
   go_wp2_with fail
   go_ret
   exact⟨ret_int HX.out.symm,rfl⟩
set_option maxHeartbeats 2000000 in
theorem containsI_any (zs:List Int) (b c:Nat) (x:Int) (w:World) (hv:IntsIn w b zs) (hl:zs.length≤100) :
  Calls Tryz.prog 98 #[.slice (some ⟨b,0,none⟩) zs.length c,.int .i64 x] w fun e w'=>e=.returned (.bool (decide (x∈zs)))∧w'=w:=by
 have HI:=hide (indexI_any zs b c x w hv hl)
 have HM:=hide (idxI_mem zs x)
 obtain⟨r,hr⟩:∃r,idxI zs x=r:=⟨_,rfl⟩
 rw[hr] at HI HM
 obtain⟨n,hn⟩:∃n,zs.length=n:=⟨_,rfl⟩
 rw[hn] at HI ⊢
 clear hr hn hv hl
 go_enter Tryz.func98,Tryz.ntmps98
 go_wp2_with fail
 refine HI.out.mono ?_
 rintro e y ⟨rfl,hy⟩
 (try rw[hy])
 go_wp2_with fail
 go_ret
 exact⟨ret_bool HM.out,by first|rfl|exact hy⟩
theorem keyF_idx:∀(ps:List (Sess × Value)) (bs:List Nat) (c:Int) (t:ByteArray),bs.length=ps.length→keyF ps bs c t=((ps.map Prod.fst).findIdx? (keyB c t)).bind fun i=>bs[i]?
 | [],[],c,t,_=>by simp[keyF]
 | [],b :: bs,c,t,h=>by simp at h
 | p :: ps,[],c,t,h=>by simp at h
 | p :: ps,b :: bs,c,t,h=>by
  have ih:=keyF_idx ps bs c t (by simpa using h)
  have e:keyB c t p.1=(decide (p.1.client=c) && decide (p.1.tag=t)):=by
   unfold keyB
   congr 1
   by_cases ht:p.1.tag=t
   ·rw[decide_eq_true ht,ht];simp
   ·rw[decide_eq_false ht]
    simp only[beq_eq_false_iff_ne]
    intro h2
    rw[ByteArray.toList_eq,ByteArray.toList_eq] at h2
    apply ht
    cases hx:p.1.tag
    cases hy:t
    rw[hx,hy] at h2
    simp at h2
    rw[h2]
  unfold keyF at ih ⊢
  rw[List.zip_cons_cons,List.find?_cons,List.map_cons,List.findIdx?_cons]
  cases hk:keyB c t p.1 with
  | true=>rw[e] at hk;simp[hk]
  | false =>
   rw[e] at hk
   simp only[hk]
   rw[ih]
   cases List.findIdx? (keyB c t) (ps.map Prod.fst) <;> simp
def foundB (ps:List (Sess × Value)) (bs:List Nat) (c:Int) (t:ByteArray) (zs:List Int):Option Nat:=((ps.map Prod.fst).findIdx? (keyB c t)).bind fun i=>if ((ps.map Prod.fst).getD i sess0).state∈zs then bs[i]? else none
set_option maxRecDepth 100000 in
set_option maxHeartbeats 8000000 in
theorem find_any {base:Nat} {w:World} {K M:Nat} {ov:Value} {nm:Nat} {ps:List (Sess × Value)} {bs:List Nat} (h:BK base w K M ov nm ps bs) (c:Int) (t:ByteArray) (hc:(Lit.int .i64 c).wf=true) (ht:t.size≤9223372036854775807) (zs:List Int) (zb zc:Nat) (hz:IntsIn w zb zs) (hzb:zb<w.heap.size) (hl:zs.length≤100) :
  Calls Tryz.prog 86 #[.pointer (some ⟨K,0,none⟩),keyV c t,.slice (some ⟨zb,0,none⟩) zs.length zc] w fun e w'=>e=.returned (outV (foundB ps bs c t zs))∧Below w.heap.size w w':=by
 have HH:=hide h
 have HKI:=hide (keyF_idx ps bs c t h.len)
 have HFB:Hid (foundB ps bs c t zs=((ps.map Prod.fst).findIdx? (keyB c t)).bind fun i=>if ((ps.map Prod.fst).getD i sess0).state∈zs then bs[i]? else none):=rfl
 obtain⟨R,hR⟩:∃R,foundB ps bs c t zs=R:=⟨_,rfl⟩
 rw[hR] at HFB ⊢
 unfold keyV
 obtain⟨x1,hx1⟩:∃x,w.alloc (Obj.cells #[.int .i64 c,.string t] 95)=x:=⟨_,rfl⟩
 have b1:Below w.heap.size w x1:=by rw[←hx1];exact alcB _ _
 have HO1:Hid (Box x1 w.heap.size 95 #[.int .i64 c,.string t]):=by rw[←hx1];exact Box.new _ _ _
 have HH1:=hide (h.below b1)
 have HB1:=hide b1
 have HX1:=hide hx1
 have KS:Hid (∀U,Below x1.heap.size x1 U→(fun U:World=>U.cell? ⟨K,1,none⟩=some (.map (some M))∧U.cell? ⟨w.heap.size,0,none⟩=some (.int .i64 c)∧U.cell? ⟨w.heap.size,1,none⟩=some (.string t)) U):=fun U hU=>by
  have o1:=(HH1.out.below hU).box
  have o2:=HO1.out.below hU
  exact⟨o1.cell 1 (by simp),o2.cell 0 (by simp),o2.cell 1 (by simp)⟩
 obtain⟨D,hDe⟩:∃D,x1.drew=D:=⟨_,rfl⟩
 have hD:Below x1.heap.size x1 D:=by rw[←hDe];exact(Below.refl _ _).drew
 have hSd:(fun U:World=>U.cell? ⟨K,1,none⟩=some (.map (some M))∧U.cell? ⟨w.heap.size,0,none⟩=some (.int .i64 c)∧U.cell? ⟨w.heap.size,1,none⟩=some (.string t)) D:=KS.out D hD
 have hlk:=(HH1.out.below hD).map.look c t hc ht
 have HBD:=hide (bjoin hD HB1.out)
 have HHD:=hide (HH1.out.below hD)
 have HZD:Hid (IntsIn D zb zs):=fun i hi=>(HBD.out.cell (p:=⟨zb,i,none⟩) hzb).trans (hz i hi)
 obtain⟨m,hm⟩:∃m,zs.length=m:=⟨_,rfl⟩
 have HCT:=hide (fun x=>containsI_any zs zb zc x D HZD.out hl)
 rw[hm] at HCT ⊢
 obtain⟨o,ho⟩:∃o,(ps.map Prod.fst).findIdx? (keyB c t)=o:=⟨_,rfl⟩
 rw[ho] at HKI HFB
 clear h hR hx1 b1 hz hzb hl hm hD
 cases o with
 | none =>
  have HKN:Hid (keyF ps bs c t=none):=HKI.out
  have HRN:Hid (R=none):=HFB.out
  have hlook:(Instr.lookup 81 (.map (some M)) (.agg #[.int .i64 c,.string t]) false).run Tryz.prog D=.ok (.pointer none) D:=by rw[HKN.out] at hlk;exact hlk
  clear hlk
  go_enter Tryz.func86,Tryz.ntmps86
  go_upto_region 1 with fail
  (try rw[HX1.out])
  refine wp_region_two (fun U:World=>U.cell? ⟨K,1,none⟩=some (.map (some M))∧U.cell? ⟨w.heap.size,0,none⟩=some (.int .i64 c)∧U.cell? ⟨w.heap.size,1,none⟩=some (.string t)) 7 (by kernel_rfl) ?_
  rw[hDe]
  clear hDe
  refine wpTwo_take (i:=0) (some 8) (v:=?v0_a) rfl rfl (by kernel_rfl) (by kernel_rfl) (by kernel_rfl) (by kernel_rfl) (fun _ _ _ h=>h) hSd (Or.inl ⟨by rfl,?hy0_a⟩) ?rest0_a
  case hy0_a=>(intro w hSw;(try dsimp only at hSw);go_simp;try with_reducible rfl)
  try simp only[Act.put,List.setIfInBounds_toArray,List.set_cons_zero,List.set_cons_succ]
  refine wpTwo_take (i:=1) (some 9) (v:=?v1_a) rfl rfl (by kernel_rfl) (by kernel_rfl) (by kernel_rfl) (by kernel_rfl) (fun _ _ _ h=>h) hSd (Or.inl ⟨by rfl,?hy1_a⟩) ?rest1_a
  case hy1_a=>(intro w hSw;(try dsimp only at hSw);go_simp;try with_reducible rfl)
  try simp only[Act.put,List.setIfInBounds_toArray,List.set_cons_zero,List.set_cons_succ]
  refine wpTwo_take (i:=2) (some 10) (v:=?v2_a) rfl rfl (by kernel_rfl) (by kernel_rfl) (by kernel_rfl) (by kernel_rfl) (fun _ _ _ h=>h) hSd (Or.inl ⟨by rfl,?hy2_a⟩) ?rest2_a
  case hy2_a=>(intro w hSw;(try dsimp only at hSw);go_simp;try with_reducible rfl)
  try simp only[Act.put,List.setIfInBounds_toArray,List.set_cons_zero,List.set_cons_succ]
  refine wpTwo_take (i:=3) (some 11) (v:=?v3_a) rfl rfl (by kernel_rfl) (by kernel_rfl) (by kernel_rfl) (by kernel_rfl) (fun _ _ _ h=>h) hSd (Or.inl ⟨by rfl,?hy3_a⟩) ?rest3_a
  case hy3_a=>(intro w hSw;(try dsimp only at hSw);go_simp;try with_reducible rfl)
  try simp only[Act.put,List.setIfInBounds_toArray,List.set_cons_zero,List.set_cons_succ]
  refine wpTwo_take (i:=4) (some 12) (v:=?v4_a) rfl rfl (by kernel_rfl) (by kernel_rfl) (by kernel_rfl) (by kernel_rfl) (fun _ _ _ h=>h) hSd (Or.inl ⟨by rfl,?hy4_a⟩) ?rest4_a
  case hy4_a=>(intro w hSw;(try dsimp only at hSw);go_simp;try with_reducible rfl)
  try simp only[Act.put,List.setIfInBounds_toArray,List.set_cons_zero,List.set_cons_succ]
  refine wpTwo_one (j:=5) (by kernel_rfl) rfl (fun K2 hK=>?_)
  go_simp
  refine hK.out _ _ (fun _=>hSd) ?_
  clear hK K2
  try simp only[Act.put,List.setIfInBounds_toArray,List.set_cons_zero,List.set_cons_succ]
  refine wpTwo_one (j:=6) (by kernel_rfl) rfl (fun K2 hK=>?_)
  go_simp
  refine hK.out _ _ (fun _=>hSd) ?_
  clear hK K2
  try simp only[Act.put,List.setIfInBounds_toArray,List.set_cons_zero,List.set_cons_succ]
  refine wpTwo_done (by kernel_rfl) ?_ _
  clear hSd
  clear hlook
  go_wp2_with fail
  go_ret
  exact⟨by rw[HRN.out];rfl,HBD.out⟩
 | some i =>
  have hip:i<ps.length:=by rw[List.findIdx?_eq_some_iff_getElem] at ho;have:=ho.1;rw[List.length_map] at this;exact this
  have hib:i<bs.length:=by rw[HH.out.len];exact hip
  obtain⟨b,hbi⟩:∃b,bs[i]=b:=⟨_,rfl⟩
  have hb?:bs[i]?=some b:=by rw[List.getElem?_eq_getElem hib,hbi]
  have HKN:Hid (keyF ps bs c t=some b):=by rw[HKI.out];exact hb?
  obtain⟨⟨⟨client,tag,query,page,state,rows,cursor⟩,u⟩,hpk⟩:∃p,ps[i]=p:=⟨_,rfl⟩
  have hgd:((ps.map Prod.fst).getD i sess0).state=state:=by rw[map_getD ps i hip,hpk]
  have HRN:Hid (R=if state∈zs then some b else none):=by rw[HFB.out];show (if _ then _ else _)=_;rw[hgd,hb?]
  have hlook:(Instr.lookup 81 (.map (some M)) (.agg #[.int .i64 c,.string t]) false).run Tryz.prog D=.ok (.pointer (some ⟨b,0,none⟩)) D:=by rw[HKN.out] at hlk;exact hlk
  have hBs:=HHD.out.ses i hip hib
  rw[hbi,hpk] at hBs
  have s4:D.cell? ⟨b,4,none⟩=some (.int .i64 state):=hBs.cell 4 (by simp[tsC])
  clear hlk hBs hgd hpk hb? hbi ho
  by_cases hin:state∈zs
  ·have hinb:decide (state∈zs)=true:=decide_eq_true hin
   have HRE:Hid (R=some b):=by rw[HRN.out,if_pos hin];trivial
   go_enter Tryz.func86,Tryz.ntmps86
   go_upto_region 1 with fail
   (try rw[HX1.out])
   refine wp_region_two (fun U:World=>U.cell? ⟨K,1,none⟩=some (.map (some M))∧U.cell? ⟨w.heap.size,0,none⟩=some (.int .i64 c)∧U.cell? ⟨w.heap.size,1,none⟩=some (.string t)) 7 (by kernel_rfl) ?_
   rw[hDe]
   clear hDe
   refine wpTwo_take (i:=0) (some 8) (v:=?v0_b) rfl rfl (by kernel_rfl) (by kernel_rfl) (by kernel_rfl) (by kernel_rfl) (fun _ _ _ h=>h) hSd (Or.inl ⟨by rfl,?hy0_b⟩) ?rest0_b
   case hy0_b=>(intro w hSw;(try dsimp only at hSw);go_simp;try with_reducible rfl)
   try simp only[Act.put,List.setIfInBounds_toArray,List.set_cons_zero,List.set_cons_succ]
   refine wpTwo_take (i:=1) (some 9) (v:=?v1_b) rfl rfl (by kernel_rfl) (by kernel_rfl) (by kernel_rfl) (by kernel_rfl) (fun _ _ _ h=>h) hSd (Or.inl ⟨by rfl,?hy1_b⟩) ?rest1_b
   case hy1_b=>(intro w hSw;(try dsimp only at hSw);go_simp;try with_reducible rfl)
   try simp only[Act.put,List.setIfInBounds_toArray,List.set_cons_zero,List.set_cons_succ]
   refine wpTwo_take (i:=2) (some 10) (v:=?v2_b) rfl rfl (by kernel_rfl) (by kernel_rfl) (by kernel_rfl) (by kernel_rfl) (fun _ _ _ h=>h) hSd (Or.inl ⟨by rfl,?hy2_b⟩) ?rest2_b
   case hy2_b=>(intro w hSw;(try dsimp only at hSw);go_simp;try with_reducible rfl)
   try simp only[Act.put,List.setIfInBounds_toArray,List.set_cons_zero,List.set_cons_succ]
   refine wpTwo_take (i:=3) (some 11) (v:=?v3_b) rfl rfl (by kernel_rfl) (by kernel_rfl) (by kernel_rfl) (by kernel_rfl) (fun _ _ _ h=>h) hSd (Or.inl ⟨by rfl,?hy3_b⟩) ?rest3_b
   case hy3_b=>(intro w hSw;(try dsimp only at hSw);go_simp;try with_reducible rfl)
   try simp only[Act.put,List.setIfInBounds_toArray,List.set_cons_zero,List.set_cons_succ]
   refine wpTwo_take (i:=4) (some 12) (v:=?v4_b) rfl rfl (by kernel_rfl) (by kernel_rfl) (by kernel_rfl) (by kernel_rfl) (fun _ _ _ h=>h) hSd (Or.inl ⟨by rfl,?hy4_b⟩) ?rest4_b
   case hy4_b=>(intro w hSw;(try dsimp only at hSw);go_simp;try with_reducible rfl)
   try simp only[Act.put,List.setIfInBounds_toArray,List.set_cons_zero,List.set_cons_succ]
   refine wpTwo_one (j:=5) (by kernel_rfl) rfl (fun K2 hK=>?_)
   go_simp
   refine hK.out _ _ (fun _=>hSd) ?_
   clear hK K2
   try simp only[Act.put,List.setIfInBounds_toArray,List.set_cons_zero,List.set_cons_succ]
   refine wpTwo_one (j:=6) (by kernel_rfl) rfl (fun K2 hK=>?_)
   go_simp
   refine hK.out _ _ (fun _=>hSd) ?_
   clear hK K2
   try simp only[Act.put,List.setIfInBounds_toArray,List.set_cons_zero,List.set_cons_succ]
   refine wpTwo_done (by kernel_rfl) ?_ _
   clear hSd
   clear hlook
   go_wp2_with fail
   refine(HCT.out state).mono ?_
   rintro e y ⟨rfl,hy⟩
   (try rw[hy])
   clear hy y
   rw[hinb]
   go_wp2_with fail
   go_ret
   exact⟨by rw[HRE.out];rfl,HBD.out⟩
  ·have hinb:decide (state∈zs)=false:=decide_eq_false hin
   have HRE:Hid (R=none):=by rw[HRN.out,if_neg hin];trivial
   go_enter Tryz.func86,Tryz.ntmps86
   go_upto_region 1 with fail
   (try rw[HX1.out])
   refine wp_region_two (fun U:World=>U.cell? ⟨K,1,none⟩=some (.map (some M))∧U.cell? ⟨w.heap.size,0,none⟩=some (.int .i64 c)∧U.cell? ⟨w.heap.size,1,none⟩=some (.string t)) 7 (by kernel_rfl) ?_
   rw[hDe]
   clear hDe
   refine wpTwo_take (i:=0) (some 8) (v:=?v0_d) rfl rfl (by kernel_rfl) (by kernel_rfl) (by kernel_rfl) (by kernel_rfl) (fun _ _ _ h=>h) hSd (Or.inl ⟨by rfl,?hy0_d⟩) ?rest0_d
   case hy0_d=>(intro w hSw;(try dsimp only at hSw);go_simp;try with_reducible rfl)
   try simp only[Act.put,List.setIfInBounds_toArray,List.set_cons_zero,List.set_cons_succ]
   refine wpTwo_take (i:=1) (some 9) (v:=?v1_d) rfl rfl (by kernel_rfl) (by kernel_rfl) (by kernel_rfl) (by kernel_rfl) (fun _ _ _ h=>h) hSd (Or.inl ⟨by rfl,?hy1_d⟩) ?rest1_d
   case hy1_d=>(intro w hSw;(try dsimp only at hSw);go_simp;try with_reducible rfl)
   try simp only[Act.put,List.setIfInBounds_toArray,List.set_cons_zero,List.set_cons_succ]
   refine wpTwo_take (i:=2) (some 10) (v:=?v2_d) rfl rfl (by kernel_rfl) (by kernel_rfl) (by kernel_rfl) (by kernel_rfl) (fun _ _ _ h=>h) hSd (Or.inl ⟨by rfl,?hy2_d⟩) ?rest2_d
   case hy2_d=>(intro w hSw;(try dsimp only at hSw);go_simp;try with_reducible rfl)
   try simp only[Act.put,List.setIfInBounds_toArray,List.set_cons_zero,List.set_cons_succ]
   refine wpTwo_take (i:=3) (some 11) (v:=?v3_d) rfl rfl (by kernel_rfl) (by kernel_rfl) (by kernel_rfl) (by kernel_rfl) (fun _ _ _ h=>h) hSd (Or.inl ⟨by rfl,?hy3_d⟩) ?rest3_d
   case hy3_d=>(intro w hSw;(try dsimp only at hSw);go_simp;try with_reducible rfl)
   try simp only[Act.put,List.setIfInBounds_toArray,List.set_cons_zero,List.set_cons_succ]
   refine wpTwo_take (i:=4) (some 12) (v:=?v4_d) rfl rfl (by kernel_rfl) (by kernel_rfl) (by kernel_rfl) (by kernel_rfl) (fun _ _ _ h=>h) hSd (Or.inl ⟨by rfl,?hy4_d⟩) ?rest4_d
   case hy4_d=>(intro w hSw;(try dsimp only at hSw);go_simp;try with_reducible rfl)
   try simp only[Act.put,List.setIfInBounds_toArray,List.set_cons_zero,List.set_cons_succ]
   refine wpTwo_one (j:=5) (by kernel_rfl) rfl (fun K2 hK=>?_)
   go_simp
   refine hK.out _ _ (fun _=>hSd) ?_
   clear hK K2
   try simp only[Act.put,List.setIfInBounds_toArray,List.set_cons_zero,List.set_cons_succ]
   refine wpTwo_one (j:=6) (by kernel_rfl) rfl (fun K2 hK=>?_)
   go_simp
   refine hK.out _ _ (fun _=>hSd) ?_
   clear hK K2
   try simp only[Act.put,List.setIfInBounds_toArray,List.set_cons_zero,List.set_cons_succ]
   refine wpTwo_done (by kernel_rfl) ?_ _
   clear hSd
   clear hlook
   go_wp2_with fail
   refine(HCT.out state).mono ?_
   rintro e y ⟨rfl,hy⟩
   (try rw[hy])
   clear hy y
   rw[hinb]
   go_wp2_with fail
   go_ret
   exact⟨by rw[HRE.out];rfl,HBD.out⟩
theorem keyF_set {ps:List (Sess × Value)} {bs:List Nat} (hl:bs.length=ps.length) {i:Nat} (hi:i<ps.length) (p:Sess × Value) (h1:p.1.client=ps[i].1.client) (h2:p.1.tag=ps[i].1.tag):keyF (ps.set i p) bs=keyF ps bs:=by
 funext c t
 rw[keyF_idx _ _ _ _ (by rw[List.length_set];exact hl),keyF_idx _ _ _ _ hl]
 have e:∀xs:List Sess,xs.findIdx? (keyB c t)=(xs.map (keyB c t)).findIdx? id:=fun xs=>by rw[List.findIdx?_map];rfl
 rw[e,e,List.map_map,List.map_map,List.map_set]
 have e2:((keyB c t ∘ Prod.fst) p)=(keyB c t ∘ Prod.fst) ps[i]:=by
  show keyB c t p.1=keyB c t ps[i].1
  unfold keyB
  rw[h1,h2]
 rw[e2]
 have e3:(ps.map (keyB c t ∘ Prod.fst)).set i ((keyB c t ∘ Prod.fst) ps[i])=ps.map (keyB c t ∘ Prod.fst):=by
  apply List.ext_getElem
  ·simp
  ·intro j g1 g2
   by_cases hj:j=i
   ·subst hj;simp
   ·rw[List.getElem_set_ne (Ne.symm hj)]
 rw[e3]
theorem BK.put {base:Nat} {X Y:World} {K M:Nat} {ov:Value} {n:Nat} {ps:List (Sess × Value)} {bs:List Nat} (h:BK base X K M ov n ps bs) {i:Nat} (hi:i<ps.length) (hib:i<bs.length) (s:Sess) (u:Value) (hk1:s.client=ps[i].1.client) (hk2:s.tag=ps[i].1.tag) (hs:SmS s)
  (hY:∀b,b<X.heap.size→b≠bs[i]→ps[i].2.ownBlock≠some b→Y.heap[b]?=X.heap[b]?) (hB:Box Y bs[i] 41 (tsC (s,u)).toArray) (hF:FB tC 1 9 base Y u s.rows) (hu:∀b,u.ownBlock=some b→ps[i].2.ownBlock=some b∨X.heap.size≤b):BK base Y K M ov n (ps.set i (s,u)) bs:=by
 have hbi:X.heap[bs[i]]?=some (.cells _ 41 (0,0)):=h.ses i hi hib
 have hri:∀d,ps[i].2.ownBlock=some d→∃cs,X.heap[d]?=some (.cells cs 9 (0,0)):=fun d hd=>(h.els _ (List.getElem_mem hi)).2.blk hd
 have keepT:∀(d:Nat) (cs:Array Value) (t:TypeId),X.heap[d]?=some (Obj.cells cs t (0,0))→t≠41→t≠9→Y.heap[d]?=X.heap[d]?:=fun d cs t hd h1 h2 =>
  hY d (by rcases Nat.lt_or_ge d X.heap.size with h'|h';exact h';rw[Array.getElem?_eq_none h'] at hd;cases hd) (blk_ne hd hbi h1) fun e=>by
   obtain⟨cs2,e2⟩:=hri d e
   exact blk_ne hd e2 h2 rfl
 refine⟨h.box.keep (keepT K _ _ h.box (by decide) (by decide)),h.row.keep fun d hd=>?_,?_,by rw[List.length_set];exact h.len,fun j g1 g2=>?_,h.lob,h.nb,fun p hp=>?_,nd_set h.nd hi (s,u) fun b hb j hj hne e=>?_,h.lows⟩
 ·obtain⟨cs,e⟩:=h.row.blk (b:=d) (by simpa using hd)
  exact keepT d _ _ e (by decide) (by decide)
 ·rw[keyF_set h.len hi (s,u) hk1 hk2]
  exact h.map.keep (hY M h.map.lt (fun e=>h.map.neB hbi e.symm) fun e=>by
   obtain⟨cs2,e2⟩:=hri M e
   exact h.map.neB e2 rfl)
 ·rw[List.length_set] at g1
  by_cases hj:j=i
  ·subst hj
   rw[List.getElem_set_self]
   exact hB
  ·rw[List.getElem_set_ne (Ne.symm hj)]
   have hb0:=h.ses j g1 g2
   refine hb0.keep (hY _ hb0.lt (fun e=>hj ?_) fun e=>?_)
   ·rcases Nat.lt_or_ge j i with hlt|hge
    ·exact absurd e (List.pairwise_iff_getElem.1 h.nb j i g2 hib hlt)
    ·by_cases hji:j=i
     ·exact hji
     ·exact absurd e.symm (List.pairwise_iff_getElem.1 h.nb i j hib g2 (by omega))
   ·obtain⟨cs2,e2⟩:=hri _ e
    exact blk_ne (show X.heap[bs[j]]?=some (.cells _ 41 (0,0)) from hb0) e2 (by decide) rfl
 ·obtain⟨j,hj,rfl⟩:=List.mem_iff_getElem.1 hp
  rw[List.length_set] at hj
  by_cases hji:j=i
  ·subst hji
   rw[List.getElem_set_self]
   exact⟨hs,hF⟩
  ·rw[List.getElem_set_ne (Ne.symm hji)]
   have he:=h.els ps[j] (List.getElem_mem hj)
   refine⟨he.1,he.2.keep fun b hb=>hY b (he.2.own b hb).2 (fun e=>?_) fun e=>nd_at h.nd hi hj hji e (by simpa using hb)⟩
   obtain⟨cs2,e2⟩:=he.2.blk (b:=b) (by simpa using hb)
   exact blk_ne e2 hbi (by decide) e
 ·rcases hu b hb with h1|h1
  ·exact nd_at h.nd hi hj hne h1 e
  ·have:=((h.els ps[j] (List.getElem_mem hj)).2.own b (by rw[e];simp)).2
   omega
theorem found_some {ps:List (Sess × Value)} {bs:List Nat} {c:Int} {t:ByteArray} {zs:List Int} {b:Nat} (h:foundB ps bs c t zs=some b):∃i,∃(hb:i<bs.length),(ps.map Prod.fst).findIdx? (keyB c t)=some i∧bs[i]=b∧((ps.map Prod.fst).getD i sess0).state∈zs:=by
 unfold foundB at h
 cases e:(ps.map Prod.fst).findIdx? (keyB c t) with
 | none=>rw[e] at h;cases h
 | some i =>
  rw[e] at h
  simp only[Option.bind_some] at h
  split at h
  ·rename_i hz
   obtain⟨hb,e2⟩:=List.getElem?_eq_some_iff.1 h
   exact⟨i,hb,rfl,e2,hz⟩
  ·cases h
theorem found_none {ps:List (Sess × Value)} {bs:List Nat} {c:Int} {t:ByteArray} {zs:List Int} (hl:bs.length=ps.length) (h:foundB ps bs c t zs=none):(ps.map Prod.fst).findIdx? (keyB c t)=none∨∃i,(ps.map Prod.fst).findIdx? (keyB c t)=some i∧¬((ps.map Prod.fst).getD i sess0).state∈zs:=by
 unfold foundB at h
 cases e:(ps.map Prod.fst).findIdx? (keyB c t) with
 | none=>exact .inl rfl
 | some i =>
  rw[e] at h
  simp only[Option.bind_some] at h
  split at h
  ·have hi:i<(ps.map Prod.fst).length:=by rw[List.findIdx?_eq_some_iff_getElem] at e;exact e.1
   rw[List.length_map] at hi
   rw[List.getElem?_eq_getElem (by omega)] at h
   cases h
  ·rename_i hz
   exact .inr ⟨i,rfl,hz⟩
end Go.Proofs.YtglcdcekkglmiaaGreatDoor.Msg
