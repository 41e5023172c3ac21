import Derived.Test.YtglcdcekkglmiaaGreatDoorG21
namespace Go.Proofs.YtglcdcekkglmiaaGreatDoor.Msg
open Go.ChangeShapes Go.WideShapes Go.ChangeAt Go.RowKit
set_option linter.unusedVariables false
set_option linter.unusedSimpArgs false
theorem keyF_none {ps:List (Sess × Value)} {bs:List Nat} (hl:bs.length=ps.length) {c:Int} {t:ByteArray} (h:keyF ps bs c t=none):∀p∈ps,¬(p.1.client=c∧p.1.tag=t):=fun p hp ⟨e1,e2⟩=>by
 unfold keyF at h
 rw[Option.map_eq_none_iff,List.find?_eq_none] at h
 obtain⟨i,hi,rfl⟩:=List.mem_iff_getElem.1 hp
 have hm:(ps[i],bs[i]'(by omega))∈ps.zip bs:=by
  rw[List.mem_iff_getElem]
  exact⟨i,by rw[List.length_zip];omega,by rw[List.getElem_zip]⟩
 have:=h _ hm
 simp[e1,e2] at this
theorem keyF_some {ps:List (Sess × Value)} {bs:List Nat} {c:Int} {t:ByteArray} {b:Nat} (h:keyF ps bs c t=some b):∃p∈ps,p.1.client=c∧p.1.tag=t:=by
 unfold keyF at h
 rw[Option.map_eq_some_iff] at h
 obtain⟨q,hq,_⟩:=h
 have h1:=List.find?_some hq
 have h2:=List.mem_of_find?_eq_some hq
 simp at h1
 exact⟨q.1,(List.of_mem_zip h2).1,h1⟩
theorem same_iff (x y:Sess):sameB x y=true ↔ y.client=x.client∧y.tag=x.tag:=by
 unfold sameB
 simp only[Bool.and_eq_true,decide_eq_true_eq,beq_iff_eq]
 constructor
 ·rintro⟨h1,h2⟩
  refine⟨h1.symm,?_⟩
  rw[ByteArray.toList_eq,ByteArray.toList_eq] at h2
  cases hx:x.tag
  cases hy:y.tag
  rw[hx,hy] at h2
  simp at h2
  rw[h2]
 ·rintro⟨h1,h2⟩
  exact⟨h1.symm,by rw[h2]⟩
def BkPost (w:World) (xs:List Sess) (e:Ending) (w':World):Prop :=
 (if tblB xs=true then ∃K M ov n ps bs,e=.returned (.pointer (some ⟨K,0,none⟩))∧BK (w.heap.size+1) w' K M ov n ps bs∧ps.map Prod.fst=xs∧n≤16 else e=.returned (.pointer none))∧Below w.heap.size w w'
theorem BkPost.no {w w':World} {xs:List Sess} (h:tblB xs=false) (hb:Below w.heap.size w w'):BkPost w xs (.returned (.pointer none)) w':=⟨by rw[h,if_neg (by decide)],hb⟩
theorem client_wf {s:Sess} (h:sessB s=true):(Lit.int .i64 s.client).wf=true:=by
 unfold sessB clientB at h
 simp only[Bool.and_eq_true,decide_eq_true_eq] at h
 obtain⟨⟨⟨h1,h2⟩,_⟩,_⟩:=h
 simp[Lit.wf,IntKind.min,IntKind.max,IntKind.signed,IntKind.bits]
 omega
set_option maxRecDepth 100000 in
set_option maxHeartbeats 16000000 in
theorem bookOf_any (xs:List Sess) (v:Value) (w:World) {lo:Nat} (hv:SesssAt lo w v xs) :
  Calls Tryz.prog 28 #[.agg #[v]] w (BkPost w xs):=by
 have HV:=hide hv
 obtain⟨a,cap,rfl,_⟩:=At.form hv
 obtain⟨n,hnn⟩:∃n,xs.length=n:=⟨_,rfl⟩
 have HN:=hide hnn
 rw[hnn]
 obtain⟨x1,hx1⟩:∃x,w.alloc (Obj.cells #[.slice a n cap] 25)=x:=⟨_,rfl⟩
 have b1:Below w.heap.size w x1:=by rw[←hx1];exact alcB _ _
 have s1:x1.heap.size=w.heap.size+1:=by rw[←hx1];simp
 have HO1:Hid (Box x1 w.heap.size 25 #[.slice a n cap]):=by rw[←hx1];exact Box.new _ _ _
 have HB1:=hide b1
 have HS1:=hide s1
 have HX1:=hide hx1
 have c0:x1.cell? ⟨w.heap.size,0,none⟩=some (.slice a n cap):=HO1.out.cell 0 (by simp)
 have hnl:n≤9223372036854775807:=by rw[←hnn];exact hv.1
 clear hv hnn hx1 b1 s1
 by_cases hbig:(n:Int) > 16
 ·have HX:=hide (BkPost.no (w':=x1) (show tblB xs=false by unfold tblB;rw[decide_eq_false (p:=xs.length≤16) (by rw[HN.out];omega)];rfl) HB1.out)
  go_enter Tryz.func28,Tryz.ntmps28
  go_upto_region 1 with fail
  (try rw[HX1.out])
  go_wp2_with fail
  go_ret
  exact HX.out
 have hn16:n≤16:=by omega
 obtain⟨M,hM⟩:∃M,x1.heap.size=M:=⟨_,rfl⟩
 obtain⟨K,hK⟩:∃K,x1.heap.size+1=K:=⟨_,rfl⟩
 obtain⟨x3,hx3⟩:∃x,(x1.alloc (.map #[] 0)).alloc (Obj.cells #[.slice none 0 0,.map (some x1.heap.size)] 83)=x:=⟨_,rfl⟩
 have HBK0:Hid (BK (w.heap.size+1) x3 K M (.slice none 0 0) 0 [] []):=by
  have hs:=HS1.out
  refine⟨?_,FB.nil _ _ _ _ _,?_,rfl,fun i h=>absurd h (by simp),by simp,by simp,by simp,by simp,by omega,by omega⟩
  ·rw[←hx3,←hK,←hM]
   have:=Box.new (x1.alloc (.map #[] 0)) 83 #[.slice none 0 0,.map (some x1.heap.size)]
   rw[Deep.nblk_alloc] at this
   exact this
  ·have e0:keyF [] []=fun _ _=>none:=by funext c t;simp[keyF]
   rw[e0,←hM,←hx3]
   exact(MapF.new x1).keep (((Below.refl (x1.alloc (.map #[] 0)).heap.size (x1.alloc (.map #[] 0))).alloc (leR _) _).block x1.heap.size (by simp))
 have HB3:Hid (Below x1.heap.size x1 x3):=by
  rw[←hx3]
  have h1:=(Below.refl x1.heap.size x1).alloc (leR _) (.map #[] 0)
  exact h1.alloc h1.size _
 have HX3:=hide hx3
 have HMM:=hide hM
 have HKK:=hide hK
 clear hx3 hM hK
 go_enter Tryz.func28,Tryz.ntmps28
 go_upto_region 1 with fail
 (try rw[HX1.out])
 have hmm:=@run_makeMap Tryz.prog
 go_upto_region 4 with fail
 clear hmm
 (try rw[HX3.out])
 (try rw[HKK.out])
 have d0:x3.cell? ⟨w.heap.size,0,none⟩=some (.slice a n cap):=(HO1.out.below HB3.out).cell 0 (by simp)
 clear c0
 go_wp2_with fail
 go_loopg [16] n (fun q i wr=>∃(k nm:Nat) (ov:Value) (ps:List (Sess × Value)) (bs:List Nat),k≤n∧q=n - k∧i=.int .i64 (k:Int)∧BK (w.heap.size+1) wr K M ov nm ps bs∧ps.map Prod.fst=xs.take k∧nm≤k∧(∀j (hj:j<xs.length),j<k→placeOk xs j hj)∧Below (w.heap.size+1) x1 wr)
 case atStart=>exact⟨0,0,_,[],[],zrL _,rfl,rfl,HBK0.out,by simp,leR _,fun j _ h=>absurd h (by omega),by have:=HB3.out;rw[HS1.out] at this;exact this⟩
 case round =>
  obtain⟨k,nm,ov,ps,bs,hk,rfl,rfl,hBK,hmap,hnm,hpl,hbl⟩:=hrel
  obtain⟨Y,rfl⟩:∃x,x=wr:=⟨_,rfl⟩
  have HBK:=hide hBK
  have HMAP:=hide hmap
  have HPL:=hide hpl
  have HBL:=hide hbl
  have HBW:Hid (Below w.heap.size w Y):=HB1.out.trans (hbl.mono (by omega))
  have HLN:Hid (ps.length=k):=by rw[←List.length_map (f:=Prod.fst),hmap,List.length_take,HN.out];show _=_;omega
  have HNM:=hide hnm
  clear hBK hmap hpl hbl hnm d0
  by_cases hlt:k<n
  ·have hki:(k:Int)<(n:Int):=by omega
   have hk0:(0:Int)≤(k:Int):=by omega
   have hkl:k<xs.length:=by rw[HN.out];exact hlt
   obtain⟨a',cap',ea,hel⟩:=At.form HV.out
   injection ea with ea1 eaN ea3
   clear eaN
   subst ea1 ea3
   obtain⟨bb,off,rfl,_,hbw,g⟩:=hel k hkl
   obtain⟨s,hs⟩:∃s,xs[k]=s:=⟨_,rfl⟩
   rw[hs] at g
   have HXK:=hide hs
   obtain⟨p,hp⟩:∃p,off+k * 7=p:=⟨_,rfl⟩
   rw[hp] at g
   obtain⟨g0,g1,g2,g3,g4,g6,z1,z2,ve,g5,hrows⟩:=g
   obtain⟨ar,cr,rfl,_⟩:=At.form hrows
   obtain⟨client,tag,query,page,state,rows,cursor⟩:=s
   dsimp only at g0 g1 g2 g3 g4 g5 g6 z1 z2 hrows
   obtain⟨nr,hnr⟩:∃q,rows.length=q:=⟨_,rfl⟩
   have HNR:=hide hnr
   rw[hnr] at g5 hrows
   have m0:Y.cell? ⟨bb,p,none⟩=some (.int .i64 client):=(HBW.out.cell (p:=⟨bb,p,none⟩) hbw).trans g0
   have m1:Y.cell? ⟨bb,p+1,none⟩=some (.string tag):=(HBW.out.cell (p:=⟨bb,p+1,none⟩) hbw).trans g1
   have m2:Y.cell? ⟨bb,p+2,none⟩=some (.string query):=(HBW.out.cell (p:=⟨bb,p+2,none⟩) hbw).trans g2
   have m3:Y.cell? ⟨bb,p+3,none⟩=some (.int .i64 page):=(HBW.out.cell (p:=⟨bb,p+3,none⟩) hbw).trans g3
   have m4:Y.cell? ⟨bb,p+4,none⟩=some (.int .i64 state):=(HBW.out.cell (p:=⟨bb,p+4,none⟩) hbw).trans g4
   have m5:Y.cell? ⟨bb,p+5,none⟩=some (.slice ar nr cr):=(HBW.out.cell (p:=⟨bb,p+5,none⟩) hbw).trans g5
   have m6:Y.cell? ⟨bb,p+6,none⟩=some (.int .i64 cursor):=(HBW.out.cell (p:=⟨bb,p+6,none⟩) hbw).trans g6
   have HROW:=hide hrows
   obtain⟨X1,hX1⟩:∃x,Y.alloc (Obj.cells #[.int .i64 client,.string tag,.string query,.int .i64 page,.int .i64 state,.slice ar nr cr,.int .i64 cursor] 41)=x:=⟨_,rfl⟩
   have bX1:Below Y.heap.size Y X1:=by rw[←hX1];exact alcB _ _
   obtain⟨b,hbe⟩:∃b,Y.heap.size=b:=⟨_,rfl⟩
   have HBX:Hid (Box X1 b 41 #[.int .i64 client,.string tag,.string query,.int .i64 page,.int .i64 state,.slice ar nr cr,.int .i64 cursor]):=by rw[←hX1,←hbe];exact Box.new _ _ _
   have HBK1:=hide (HBK.out.below bX1)
   have HBW1:=hide (bjoin bX1 HBW.out)
   have HBL1:Hid (Below (w.heap.size+1) x1 X1):=HBL.out.trans (bX1.mono (by have:=HBL.out.size;have:=HS1.out;omega))
   have HBE:=hide hbe
   have HX1':=hide hX1
   have HIS0:=hide (fun W (h:Below w.heap.size w W)=>isSession_any ⟨client,tag,query,page,state,rows,cursor⟩ (.slice ar nr cr) W z1 z2 (At.kept kept_str HROW.out h))
   unfold sessV at HIS0
   dsimp only at HIS0
   have HKEY:=hide (fun W=>skey_any ⟨client,tag,query,page,state,rows,cursor⟩ ar nr cr W)
   unfold sessV keyV at HKEY
   dsimp only at HKEY
   clear hs hnr hbe hX1 bX1 g0 g1 g2 g3 g4 g5 g6 hrows hel
   go_upto_region 7 with fail
   (try rw[HX1'.out])
   (try rw[HBE.out])
   clear m0 m1 m2 m3 m4 m5 m6 hp
   have KS:Hid (∀U,Below X1.heap.size X1 U→(fun U:World=>U.cell? ⟨K,1,none⟩=some (.map (some M))∧U.cell? ⟨b,0,none⟩=some (.int .i64 client)∧U.cell? ⟨b,1,none⟩=some (.string tag)∧U.cell? ⟨b,2,none⟩=some (.string query)∧U.cell? ⟨b,3,none⟩=some (.int .i64 page)∧U.cell? ⟨b,4,none⟩=some (.int .i64 state)∧U.cell? ⟨b,5,none⟩=some (.slice ar nr cr)∧U.cell? ⟨b,6,none⟩=some (.int .i64 cursor)) U):=fun U hU=>by
    have o1:=(HBK1.out.below hU).box
    have o2:=HBX.out.below hU
    exact⟨o1.cell 1 (by simp),o2.cell 0 (by simp),o2.cell 1 (by simp),o2.cell 2 (by simp),o2.cell 3 (by simp),o2.cell 4 (by simp),o2.cell 5 (by simp),o2.cell 6 (by simp)⟩
   obtain⟨D,hDe⟩:∃D,X1.drew=D:=⟨_,rfl⟩
   have hD:Below X1.heap.size X1 D:=by rw[←hDe];exact(Below.refl _ _).drew
   have hSd:(fun U:World=>U.cell? ⟨K,1,none⟩=some (.map (some M))∧U.cell? ⟨b,0,none⟩=some (.int .i64 client)∧U.cell? ⟨b,1,none⟩=some (.string tag)∧U.cell? ⟨b,2,none⟩=some (.string query)∧U.cell? ⟨b,3,none⟩=some (.int .i64 page)∧U.cell? ⟨b,4,none⟩=some (.int .i64 state)∧U.cell? ⟨b,5,none⟩=some (.slice ar nr cr)∧U.cell? ⟨b,6,none⟩=some (.int .i64 cursor)) D:=KS.out D hD
   have HIS:=hide (HIS0.out D (bjoin hD HBW1.out))
   obtain⟨sb,hsb⟩:∃q,sessB ⟨client,tag,query,page,state,rows,cursor⟩=q:=⟨_,rfl⟩
   have HSB:=hide hsb
   cases sb
   ·have HX:Hid (tblB xs=false):=tblB_no hkl (fun h=>by have:=h.1;rw[HXK.out,HSB.out] at this;cases this)
    refine wp_region_two (fun U:World=>U.cell? ⟨K,1,none⟩=some (.map (some M))∧U.cell? ⟨b,0,none⟩=some (.int .i64 client)∧U.cell? ⟨b,1,none⟩=some (.string tag)∧U.cell? ⟨b,2,none⟩=some (.string query)∧U.cell? ⟨b,3,none⟩=some (.int .i64 page)∧U.cell? ⟨b,4,none⟩=some (.int .i64 state)∧U.cell? ⟨b,5,none⟩=some (.slice ar nr cr)∧U.cell? ⟨b,6,none⟩=some (.int .i64 cursor)) 13 (by kernel_rfl) ?_
    rw[hDe]
    clear hDe
    refine wpTwo_take (i:=0) (some 20) (v:=?v0_n) rfl rfl (by kernel_rfl) (by kernel_rfl) (by kernel_rfl) (by kernel_rfl) (fun _ _ _ h=>h) hSd (Or.inl ⟨by rfl,?hy0_n⟩) ?rest0_n
    case hy0_n=>(intro w hSw;(try dsimp only at hSw);go_simp;try with_reducible rfl)
    try simp only[Act.put,List.setIfInBounds_toArray,List.set_cons_zero,List.set_cons_succ]
    refine wpTwo_one (j:=1) (by kernel_rfl) rfl (fun K2 hK=>?_)
    go_simp
    refine HIS.out.mono ?_
    rintro e U ⟨rfl,hbU⟩
    dsimp only
    have hUX:Below X1.heap.size X1 U:=bjoin hbU hD
    have hSu:=KS.out U hUX
    refine hK.out _ _ (fun _=>hSu) ?_
    clear hK K2
    try simp only[Act.put,List.setIfInBounds_toArray,List.set_cons_zero,List.set_cons_succ]
    rw[hsb]
    refine wpTwo_take (i:=2) (some 22) (v:=?v2_n) rfl rfl (by kernel_rfl) (by kernel_rfl) (by kernel_rfl) (by kernel_rfl) (fun _ _ _ h=>h) hSu (Or.inl ⟨by rfl,?hy2_n⟩) ?rest2_n
    case hy2_n=>(intro w hSw;(try dsimp only at hSw);go_simp;try with_reducible rfl)
    try simp only[Act.put,List.setIfInBounds_toArray,List.set_cons_zero,List.set_cons_succ]
    refine wpTwo_take (i:=3) (some 23) (v:=?v3_n) rfl rfl (by kernel_rfl) (by kernel_rfl) (by kernel_rfl) (by kernel_rfl) (fun _ _ _ h=>h) hSu (Or.inl ⟨by rfl,?hy3_n⟩) ?rest3_n
    case hy3_n=>(intro w hSw;(try dsimp only at hSw);go_simp;try with_reducible rfl)
    try simp only[Act.put,List.setIfInBounds_toArray,List.set_cons_zero,List.set_cons_succ]
    refine wpTwo_take (i:=4) (some 24) (v:=undef) rfl rfl (by kernel_rfl) (by kernel_rfl) (by kernel_rfl) (by kernel_rfl) (fun _ _ _ h=>h) hSu (Or.inr ⟨by rfl,rfl⟩) ?rest4_n
    try simp only[Act.put,List.setIfInBounds_toArray,List.set_cons_zero,List.set_cons_succ]
    refine wpTwo_take (i:=5) (some 25) (v:=undef) rfl rfl (by kernel_rfl) (by kernel_rfl) (by kernel_rfl) (by kernel_rfl) (fun _ _ _ h=>h) hSu (Or.inr ⟨by rfl,rfl⟩) ?rest5_n
    try simp only[Act.put,List.setIfInBounds_toArray,List.set_cons_zero,List.set_cons_succ]
    refine wpTwo_take (i:=6) (some 26) (v:=undef) rfl rfl (by kernel_rfl) (by kernel_rfl) (by kernel_rfl) (by kernel_rfl) (fun _ _ _ h=>h) hSu (Or.inr ⟨by rfl,rfl⟩) ?rest6_n
    try simp only[Act.put,List.setIfInBounds_toArray,List.set_cons_zero,List.set_cons_succ]
    refine wpTwo_take (i:=7) (some 27) (v:=undef) rfl rfl (by kernel_rfl) (by kernel_rfl) (by kernel_rfl) (by kernel_rfl) (fun _ _ _ h=>h) hSu (Or.inr ⟨by rfl,rfl⟩) ?rest7_n
    try simp only[Act.put,List.setIfInBounds_toArray,List.set_cons_zero,List.set_cons_succ]
    refine wpTwo_take (i:=8) (some 28) (v:=undef) rfl rfl (by kernel_rfl) (by kernel_rfl) (by kernel_rfl) (by kernel_rfl) (fun _ _ _ h=>h) hSu (Or.inr ⟨by rfl,rfl⟩) ?rest8_n
    try simp only[Act.put,List.setIfInBounds_toArray,List.set_cons_zero,List.set_cons_succ]
    refine wpTwo_take (i:=9) (some 29) (v:=undef) rfl rfl (by kernel_rfl) (by kernel_rfl) (by kernel_rfl) (by kernel_rfl) (fun _ _ _ h=>h) hSu (Or.inr ⟨by rfl,rfl⟩) ?rest9_n
    try simp only[Act.put,List.setIfInBounds_toArray,List.set_cons_zero,List.set_cons_succ]
    refine wpTwo_take (i:=10) (some 30) (v:=undef) rfl rfl (by kernel_rfl) (by kernel_rfl) (by kernel_rfl) (by kernel_rfl) (fun _ _ _ h=>h) hSu (Or.inr ⟨by rfl,rfl⟩) ?rest10_n
    try simp only[Act.put,List.setIfInBounds_toArray,List.set_cons_zero,List.set_cons_succ]
    refine wpTwo_take (i:=11) (some 31) (v:=undef) rfl rfl (by kernel_rfl) (by kernel_rfl) (by kernel_rfl) (by kernel_rfl) (fun _ _ _ h=>h) hSu (Or.inr ⟨by rfl,rfl⟩) ?rest11_n
    try simp only[Act.put,List.setIfInBounds_toArray,List.set_cons_zero,List.set_cons_succ]
    refine wpTwo_take (i:=12) (some 32) (v:=?v12_n) rfl rfl (by kernel_rfl) (by kernel_rfl) (by kernel_rfl) (by kernel_rfl) (fun _ _ _ h=>h) hSu (Or.inl ⟨by rfl,?hy12_n⟩) ?rest12_n
    case hy12_n=>(intro w hSw;(try dsimp only at hSw);go_simp;try with_reducible rfl)
    try simp only[Act.put,List.setIfInBounds_toArray,List.set_cons_zero,List.set_cons_succ]
    refine wpTwo_done (by kernel_rfl) ?_ _
    clear hSd hSu hD hbU
    have HFIN:=hide (BkPost.no HX.out (bjoin hUX HBW1.out))
    go_wp2_with fail
    go_ret
    exact HFIN.out
   ·obtain⟨o,ho⟩:∃o,keyF ps bs client tag=o:=⟨_,rfl⟩
    have HLK0:=hide (fun U (hU:Below X1.heap.size X1 U)=>(HBK1.out.below hU).map.look client tag (client_wf hsb) z1)
    rw[ho] at HLK0
    cases o with
    | some b0 =>
     have HX:Hid (tblB xs=false):=tblB_no hkl (fun h=>by
      obtain⟨q,hq,e1,e2⟩:=keyF_some ho
      have hqm:q.1∈xs.take k:=by rw[←HMAP.out];exact List.mem_map.2 ⟨q,hq,rfl⟩
      obtain⟨j,hj,ej⟩:=List.mem_iff_getElem.1 hqm
      rw[List.length_take] at hj
      rw[List.getElem_take] at ej
      have:=h.2 j (by omega)
      rw[HXK.out,ej,(same_iff _ _).2 ⟨e1,e2⟩] at this
      cases this)
     have HLK:Hid (∀U,Below X1.heap.size X1 U→(Instr.lookup 81 (.map (some M)) (.agg #[.int .i64 client,.string tag]) false).run Tryz.prog U=.ok (.pointer (some ⟨b0,0,none⟩)) U):=HLK0.out
     clear ho
     refine wp_region_two (fun U:World=>U.cell? ⟨K,1,none⟩=some (.map (some M))∧U.cell? ⟨b,0,none⟩=some (.int .i64 client)∧U.cell? ⟨b,1,none⟩=some (.string tag)∧U.cell? ⟨b,2,none⟩=some (.string query)∧U.cell? ⟨b,3,none⟩=some (.int .i64 page)∧U.cell? ⟨b,4,none⟩=some (.int .i64 state)∧U.cell? ⟨b,5,none⟩=some (.slice ar nr cr)∧U.cell? ⟨b,6,none⟩=some (.int .i64 cursor)) 13 (by kernel_rfl) ?_
     rw[hDe]
     clear hDe
     refine wpTwo_take (i:=0) (some 20) (v:=?v0_s) rfl rfl (by kernel_rfl) (by kernel_rfl) (by kernel_rfl) (by kernel_rfl) (fun _ _ _ h=>h) hSd (Or.inl ⟨by rfl,?hy0_s⟩) ?rest0_s
     case hy0_s=>(intro w hSw;(try dsimp only at hSw);go_simp;try with_reducible rfl)
     try simp only[Act.put,List.setIfInBounds_toArray,List.set_cons_zero,List.set_cons_succ]
     refine wpTwo_one (j:=1) (by kernel_rfl) rfl (fun K2 hK=>?_)
     go_simp
     refine HIS.out.mono ?_
     rintro e U ⟨rfl,hbU⟩
     dsimp only
     have hUX:Below X1.heap.size X1 U:=bjoin hbU hD
     have hSu:=KS.out U hUX
     refine hK.out _ _ (fun _=>hSu) ?_
     clear hK K2
     try simp only[Act.put,List.setIfInBounds_toArray,List.set_cons_zero,List.set_cons_succ]
     rw[hsb]
     refine wpTwo_take (i:=2) (some 22) (v:=?v2_s) rfl rfl (by kernel_rfl) (by kernel_rfl) (by kernel_rfl) (by kernel_rfl) (fun _ _ _ h=>h) hSu (Or.inl ⟨by rfl,?hy2_s⟩) ?rest2_s
     case hy2_s=>(intro w hSw;(try dsimp only at hSw);go_simp;try with_reducible rfl)
     try simp only[Act.put,List.setIfInBounds_toArray,List.set_cons_zero,List.set_cons_succ]
     refine wpTwo_take (i:=3) (some 23) (v:=?v3_s) rfl rfl (by kernel_rfl) (by kernel_rfl) (by kernel_rfl) (by kernel_rfl) (fun _ _ _ h=>h) hSu (Or.inl ⟨by rfl,?hy3_s⟩) ?rest3_s
     case hy3_s=>(intro w hSw;(try dsimp only at hSw);go_simp;try with_reducible rfl)
     try simp only[Act.put,List.setIfInBounds_toArray,List.set_cons_zero,List.set_cons_succ]
     refine wpTwo_take (i:=4) (some 24) (v:=?v4_s) rfl rfl (by kernel_rfl) (by kernel_rfl) (by kernel_rfl) (by kernel_rfl) (fun _ _ _ h=>h) hSu (Or.inl ⟨by rfl,?hy4_s⟩) ?rest4_s
     case hy4_s=>(intro w hSw;(try dsimp only at hSw);go_simp;try with_reducible rfl)
     try simp only[Act.put,List.setIfInBounds_toArray,List.set_cons_zero,List.set_cons_succ]
     refine wpTwo_take (i:=5) (some 25) (v:=?v5_s) rfl rfl (by kernel_rfl) (by kernel_rfl) (by kernel_rfl) (by kernel_rfl) (fun _ _ _ h=>h) hSu (Or.inl ⟨by rfl,?hy5_s⟩) ?rest5_s
     case hy5_s=>(intro w hSw;(try dsimp only at hSw);go_simp;try with_reducible rfl)
     try simp only[Act.put,List.setIfInBounds_toArray,List.set_cons_zero,List.set_cons_succ]
     refine wpTwo_take (i:=6) (some 26) (v:=?v6_s) rfl rfl (by kernel_rfl) (by kernel_rfl) (by kernel_rfl) (by kernel_rfl) (fun _ _ _ h=>h) hSu (Or.inl ⟨by rfl,?hy6_s⟩) ?rest6_s
     case hy6_s=>(intro w hSw;(try dsimp only at hSw);go_simp;try with_reducible rfl)
     try simp only[Act.put,List.setIfInBounds_toArray,List.set_cons_zero,List.set_cons_succ]
     refine wpTwo_take (i:=7) (some 27) (v:=?v7_s) rfl rfl (by kernel_rfl) (by kernel_rfl) (by kernel_rfl) (by kernel_rfl) (fun _ _ _ h=>h) hSu (Or.inl ⟨by rfl,?hy7_s⟩) ?rest7_s
     case hy7_s=>(intro w hSw;(try dsimp only at hSw);go_simp;try with_reducible rfl)
     try simp only[Act.put,List.setIfInBounds_toArray,List.set_cons_zero,List.set_cons_succ]
     refine wpTwo_take (i:=8) (some 28) (v:=?v8_s) rfl rfl (by kernel_rfl) (by kernel_rfl) (by kernel_rfl) (by kernel_rfl) (fun _ _ _ h=>h) hSu (Or.inl ⟨by rfl,?hy8_s⟩) ?rest8_s
     case hy8_s=>(intro w hSw;(try dsimp only at hSw);go_simp;try with_reducible rfl)
     try simp only[Act.put,List.setIfInBounds_toArray,List.set_cons_zero,List.set_cons_succ]
     refine wpTwo_one (j:=9) (by kernel_rfl) rfl (fun K2 hK=>?_)
     go_simp
     refine(HKEY.out U).mono ?_
     rintro e U2 ⟨rfl,hbU2⟩
     dsimp only
     have hUX2:Below X1.heap.size X1 U2:=bjoin hbU2 hUX
     have hSu2:=KS.out U2 hUX2
     have hlook:=HLK.out U2 hUX2
     refine hK.out _ _ (fun _=>hSu2) ?_
     clear hK K2
     try simp only[Act.put,List.setIfInBounds_toArray,List.set_cons_zero,List.set_cons_succ]
     refine wpTwo_one (j:=10) (by kernel_rfl) rfl (fun K2 hK=>?_)
     go_simp
     refine hK.out _ _ (fun _=>hSu2) ?_
     clear hK K2
     try simp only[Act.put,List.setIfInBounds_toArray,List.set_cons_zero,List.set_cons_succ]
     refine wpTwo_take (i:=11) (some 31) (v:=?v11_s) rfl rfl (by kernel_rfl) (by kernel_rfl) (by kernel_rfl) (by kernel_rfl) (fun _ _ _ h=>h) hSu2 (Or.inl ⟨by rfl,?hy11_s⟩) ?rest11_s
     case hy11_s=>(intro w hSw;(try dsimp only at hSw);go_simp;try with_reducible rfl)
     try simp only[Act.put,List.setIfInBounds_toArray,List.set_cons_zero,List.set_cons_succ]
     refine wpTwo_take (i:=12) (some 32) (v:=?v12_s) rfl rfl (by kernel_rfl) (by kernel_rfl) (by kernel_rfl) (by kernel_rfl) (fun _ _ _ h=>h) hSu2 (Or.inl ⟨by rfl,?hy12_s⟩) ?rest12_s
     case hy12_s=>(intro w hSw;(try dsimp only at hSw);go_simp;try with_reducible rfl)
     try simp only[Act.put,List.setIfInBounds_toArray,List.set_cons_zero,List.set_cons_succ]
     refine wpTwo_done (by kernel_rfl) ?_ _
     clear hSd hSu hSu2 hD hbU hlook
     have HFIN:=hide (BkPost.no HX.out (bjoin hUX2 HBW1.out))
     go_wp2_with fail
     go_ret
     exact HFIN.out
    | none =>
     have HLK:Hid (∀U,Below X1.heap.size X1 U→(Instr.lookup 81 (.map (some M)) (.agg #[.int .i64 client,.string tag]) false).run Tryz.prog U=.ok (.pointer none) U):=HLK0.out
     have HKN:=hide ho
     have hss:=sess_sm hsb
     have HSS:=hide hss
     have HCW:=hide (client_wf hsb)
     clear ho
     refine wp_region_two (fun U:World=>U.cell? ⟨K,1,none⟩=some (.map (some M))∧U.cell? ⟨b,0,none⟩=some (.int .i64 client)∧U.cell? ⟨b,1,none⟩=some (.string tag)∧U.cell? ⟨b,2,none⟩=some (.string query)∧U.cell? ⟨b,3,none⟩=some (.int .i64 page)∧U.cell? ⟨b,4,none⟩=some (.int .i64 state)∧U.cell? ⟨b,5,none⟩=some (.slice ar nr cr)∧U.cell? ⟨b,6,none⟩=some (.int .i64 cursor)) 13 (by kernel_rfl) ?_
     rw[hDe]
     clear hDe
     refine wpTwo_take (i:=0) (some 20) (v:=?v0_o) rfl rfl (by kernel_rfl) (by kernel_rfl) (by kernel_rfl) (by kernel_rfl) (fun _ _ _ h=>h) hSd (Or.inl ⟨by rfl,?hy0_o⟩) ?rest0_o
     case hy0_o=>(intro w hSw;(try dsimp only at hSw);go_simp;try with_reducible rfl)
     try simp only[Act.put,List.setIfInBounds_toArray,List.set_cons_zero,List.set_cons_succ]
     refine wpTwo_one (j:=1) (by kernel_rfl) rfl (fun K2 hK=>?_)
     go_simp
     refine HIS.out.mono ?_
     rintro e U ⟨rfl,hbU⟩
     dsimp only
     have hUX:Below X1.heap.size X1 U:=bjoin hbU hD
     have hSu:=KS.out U hUX
     refine hK.out _ _ (fun _=>hSu) ?_
     clear hK K2
     try simp only[Act.put,List.setIfInBounds_toArray,List.set_cons_zero,List.set_cons_succ]
     rw[hsb]
     refine wpTwo_take (i:=2) (some 22) (v:=?v2_o) rfl rfl (by kernel_rfl) (by kernel_rfl) (by kernel_rfl) (by kernel_rfl) (fun _ _ _ h=>h) hSu (Or.inl ⟨by rfl,?hy2_o⟩) ?rest2_o
     case hy2_o=>(intro w hSw;(try dsimp only at hSw);go_simp;try with_reducible rfl)
     try simp only[Act.put,List.setIfInBounds_toArray,List.set_cons_zero,List.set_cons_succ]
     refine wpTwo_take (i:=3) (some 23) (v:=?v3_o) rfl rfl (by kernel_rfl) (by kernel_rfl) (by kernel_rfl) (by kernel_rfl) (fun _ _ _ h=>h) hSu (Or.inl ⟨by rfl,?hy3_o⟩) ?rest3_o
     case hy3_o=>(intro w hSw;(try dsimp only at hSw);go_simp;try with_reducible rfl)
     try simp only[Act.put,List.setIfInBounds_toArray,List.set_cons_zero,List.set_cons_succ]
     refine wpTwo_take (i:=4) (some 24) (v:=?v4_o) rfl rfl (by kernel_rfl) (by kernel_rfl) (by kernel_rfl) (by kernel_rfl) (fun _ _ _ h=>h) hSu (Or.inl ⟨by rfl,?hy4_o⟩) ?rest4_o
     case hy4_o=>(intro w hSw;(try dsimp only at hSw);go_simp;try with_reducible rfl)
     try simp only[Act.put,List.setIfInBounds_toArray,List.set_cons_zero,List.set_cons_succ]
     refine wpTwo_take (i:=5) (some 25) (v:=?v5_o) rfl rfl (by kernel_rfl) (by kernel_rfl) (by kernel_rfl) (by kernel_rfl) (fun _ _ _ h=>h) hSu (Or.inl ⟨by rfl,?hy5_o⟩) ?rest5_o
     case hy5_o=>(intro w hSw;(try dsimp only at hSw);go_simp;try with_reducible rfl)
     try simp only[Act.put,List.setIfInBounds_toArray,List.set_cons_zero,List.set_cons_succ]
     refine wpTwo_take (i:=6) (some 26) (v:=?v6_o) rfl rfl (by kernel_rfl) (by kernel_rfl) (by kernel_rfl) (by kernel_rfl) (fun _ _ _ h=>h) hSu (Or.inl ⟨by rfl,?hy6_o⟩) ?rest6_o
     case hy6_o=>(intro w hSw;(try dsimp only at hSw);go_simp;try with_reducible rfl)
     try simp only[Act.put,List.setIfInBounds_toArray,List.set_cons_zero,List.set_cons_succ]
     refine wpTwo_take (i:=7) (some 27) (v:=?v7_o) rfl rfl (by kernel_rfl) (by kernel_rfl) (by kernel_rfl) (by kernel_rfl) (fun _ _ _ h=>h) hSu (Or.inl ⟨by rfl,?hy7_o⟩) ?rest7_o
     case hy7_o=>(intro w hSw;(try dsimp only at hSw);go_simp;try with_reducible rfl)
     try simp only[Act.put,List.setIfInBounds_toArray,List.set_cons_zero,List.set_cons_succ]
     refine wpTwo_take (i:=8) (some 28) (v:=?v8_o) rfl rfl (by kernel_rfl) (by kernel_rfl) (by kernel_rfl) (by kernel_rfl) (fun _ _ _ h=>h) hSu (Or.inl ⟨by rfl,?hy8_o⟩) ?rest8_o
     case hy8_o=>(intro w hSw;(try dsimp only at hSw);go_simp;try with_reducible rfl)
     try simp only[Act.put,List.setIfInBounds_toArray,List.set_cons_zero,List.set_cons_succ]
     refine wpTwo_one (j:=9) (by kernel_rfl) rfl (fun K2 hK=>?_)
     go_simp
     refine(HKEY.out U).mono ?_
     rintro e U2 ⟨rfl,hbU2⟩
     dsimp only
     have hUX2:Below X1.heap.size X1 U2:=bjoin hbU2 hUX
     have hSu2:=KS.out U2 hUX2
     have hlook:=HLK.out U2 hUX2
     refine hK.out _ _ (fun _=>hSu2) ?_
     clear hK K2
     try simp only[Act.put,List.setIfInBounds_toArray,List.set_cons_zero,List.set_cons_succ]
     refine wpTwo_one (j:=10) (by kernel_rfl) rfl (fun K2 hK=>?_)
     go_simp
     refine hK.out _ _ (fun _=>hSu2) ?_
     clear hK K2
     try simp only[Act.put,List.setIfInBounds_toArray,List.set_cons_zero,List.set_cons_succ]
     refine wpTwo_take (i:=11) (some 31) (v:=?v11_o) rfl rfl (by kernel_rfl) (by kernel_rfl) (by kernel_rfl) (by kernel_rfl) (fun _ _ _ h=>h) hSu2 (Or.inl ⟨by rfl,?hy11_o⟩) ?rest11_o
     case hy11_o=>(intro w hSw;(try dsimp only at hSw);go_simp;try with_reducible rfl)
     try simp only[Act.put,List.setIfInBounds_toArray,List.set_cons_zero,List.set_cons_succ]
     refine wpTwo_take (i:=12) (some 32) (v:=?v12_o) rfl rfl (by kernel_rfl) (by kernel_rfl) (by kernel_rfl) (by kernel_rfl) (fun _ _ _ h=>h) hSu2 (Or.inl ⟨by rfl,?hy12_o⟩) ?rest12_o
     case hy12_o=>(intro w hSw;(try dsimp only at hSw);go_simp;try with_reducible rfl)
     try simp only[Act.put,List.setIfInBounds_toArray,List.set_cons_zero,List.set_cons_succ]
     refine wpTwo_done (by kernel_rfl) ?_ _
     clear hSd hSu hSu2 hD hbU hlook hbU2 hUX
     have HU2:=hide hUX2
     have HBKU:=hide (HBK1.out.below hUX2)
     have HBXU:=hide (HBX.out.below hUX2)
     have HBWU:=hide (bjoin hUX2 HBW1.out)
     have HBLU:Hid (Below (w.heap.size+1) x1 U2):=HBL1.out.trans (hUX2.mono (by have:=HBL1.out.size;have:=HS1.out;omega))
     have HCL:=hide (cloneT_any rows (.slice ar nr cr) U2 (At.kept kept_str HROW.out HBWU.out) (by have:=hss.2.2.1;dsimp only at this;omega))
     have u5:U2.cell? ⟨b,5,none⟩=some (.slice ar nr cr):=HBXU.out.cell 5 (by simp)
     clear hUX2 hss
     go_wp2_with fail
     refine HCL.out.mono ?_
     rintro e V ⟨u',rfl,hFV,hbV⟩
     obtain⟨a9,c9,rfl,_⟩:=hFV.form
     have hBV:=HBXU.out.below hbV
     have v5:V.cell? ⟨b,5,none⟩=some (.slice ar nr cr):=hBV.cell 5 (by simp)
     have vf:V.frozen? ⟨b,5,none⟩=false:=hBV.frozen 5
     have vl:b<V.heap.size:=hBV.lt
     obtain⟨Z,hZ⟩:∃x,V.setCell ⟨b,5,none⟩ (.slice a9 rows.length c9)=x:=⟨_,rfl⟩
     have hb1:w.heap.size+1≤b:=by have:=HBK.out.box.lt;have:=HBK.out.lows.1;have:=HBE.out;omega
     have hBKV:=HBKU.out.below hbV
     have hnb:¬BIn K M ov ps bs b:=fun hi=>by have:=(HBK.out.own hi).2;have:=HBE.out;omega
     have HBKZ:Hid (BK (w.heap.size+1) Z K M ov nm ps bs):=by rw[←hZ];exact hBKV.keep fun d hdd=>Deep.blk_setCell_other _ ⟨b,5,none⟩ _ d (by dsimp only;intro e;rw[e] at hdd;exact hnb hdd)
     have HBZ:Hid (Box Z b 41 (tsC (⟨client,tag,query,page,state,rows,cursor⟩,.slice a9 rows.length c9)).toArray):=by rw[←hZ];have:=hBV.set 5 (.slice a9 rows.length c9);show Box _ _ _ _;simpa [tsC] using this
     have HFZ:Hid (FB tC 1 9 (w.heap.size+1) Z (.slice a9 rows.length c9) rows):=by
      rw[←hZ]
      refine(hFV.low (by have:=HBLU.out.size;have:=HS1.out;omega)).keep fun d hdd=>Deep.blk_setCell_other _ ⟨b,5,none⟩ _ d (by dsimp only;have:=(hFV.own d hdd).1;have:=HBXU.out.lt;omega)
     have HDZ:Hid (∀d,(Value.slice a9 rows.length c9).ownBlock=some d→∀q∈ps,q.2.ownBlock≠some d):=fun d hdd q hq e=>by
      have h1:=(hFV.own d (by rw[hdd];simp)).1
      have h2:=(HBKU.out.own (.inr (.inr (.inr (.inr ⟨q,hq,e⟩))))).2
      omega
     have HBLZ:Hid (Below (w.heap.size+1) x1 Z):=by rw[←hZ];exact(HBLU.out.trans (hbV.mono (by have:=HBLU.out.size;have:=HS1.out;omega))).setCell (p:=⟨b,5,none⟩) hb1 _
     have HADD:=hide (add_any HBKZ.out ⟨client,tag,query,page,state,rows,cursor⟩ a9 c9 b HBZ.out hb1 (fun hm=>hnb (.inr (.inr (.inr (.inl hm))))) HSS.out HFZ.out HDZ.out HKN.out HCW.out (by have:=HBLZ.out.size;have:=HS1.out;omega) (by have:=HNM.out;omega) (by rw[HBK.out.len,HLN.out];omega))
     have HZ:=hide hZ
     clear hFV hbV hBV hBKV hnb hZ u5
     go_upto_region 10 with fail
     (try rw[HZ.out])
     clear v5 vf vl
     go_wp2_with fail
     refine HADD.out.mono ?_
     rintro e Q ⟨rfl,⟨ov',hQ,_⟩,hbQ⟩
     have HQ:=hide hQ
     have HBQ:Hid (Below (w.heap.size+1) x1 Q):=HBLZ.out.trans hbQ
     have HTK:Hid ((ps++[((⟨client,tag,query,page,state,rows,cursor⟩:Sess),Value.slice a9 rows.length c9)]).map Prod.fst=xs.take (k+1)):=by show _=_;rw[List.map_append,HMAP.out,List.take_succ_eq_append_getElem hkl,HXK.out];rfl
     have HPO:Hid (∀j (hj:j<xs.length),j<k+1→placeOk xs j hj):=fun j hj hjk=>by
      by_cases e:j=k
      ·subst e
       refine⟨by rw[HXK.out];exact HSB.out,fun i hi=>?_⟩
       rw[HXK.out]
       cases hsm:sameB ⟨client,tag,query,page,state,rows,cursor⟩ (xs[i]'(by omega)) with
       | false=>rfl
       | true =>
        obtain⟨e1,e2⟩:=(same_iff _ _).1 hsm
        have hm:xs[i]'(by omega)∈ps.map Prod.fst:=by rw[HMAP.out,List.mem_take_iff_getElem];exact⟨i,by omega,rfl⟩
        obtain⟨q,hq,eq⟩:=List.mem_map.1 hm
        exact absurd ⟨by rw[eq];exact e1,by rw[eq];exact e2⟩ (keyF_none HBK.out.len HKN.out q hq)
      ·exact HPL.out j hj (by omega)
     clear hQ hbQ
     go_wp2_with fail
     go_roundg (n - (k+1))
     case measure=>omega
     case rel=>exact⟨k+1,nm+1,ov',_,_,by omega,rfl,by go_num,HQ.out,HTK.out,by have:=HNM.out;omega,HPO.out,HBQ.out⟩
  ·have hki:¬(k:Int)<(n:Int):=by omega
   obtain rfl:k=n:=by omega
   have HX:Hid (tblB xs=true):=by
    show _=_
    unfold tblB
    rw[decide_eq_true (p:=xs.length≤16) (by rw[HN.out];exact hn16),decide_eq_true (p:=∀i (h:i<xs.length),placeOk xs i h) (fun i h=>HPL.out i h (by rw[←HN.out];exact h))]
    rfl
   have HFIN:Hid (BkPost w xs (.returned (.pointer (some ⟨K,0,none⟩))) Y):=⟨by rw[HX.out,if_pos rfl];exact⟨K,M,ov,nm,ps,bs,rfl,HBK.out,by rw[HMAP.out,←HN.out,List.take_length],by have:=HNM.out;omega⟩,HBW.out⟩
   go_wp2_with fail
   go_ret
   exact HFIN.out
end Go.Proofs.YtglcdcekkglmiaaGreatDoor.Msg
