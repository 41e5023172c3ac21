import Derived.Test.YtglcdcekkglmiaaGreatDoorG16
import Derived.Test.YtglcdcekkglmiaaGreatDoorShelf
namespace Go.Proofs.YtglcdcekkglmiaaGreatDoor.Msg
open Go.ChangeShapes Go.WideShapes Go.ChangeAt Go.RowKit
set_option linter.unusedVariables false
set_option linter.unusedSimpArgs false
structure CT (w:World) (v u:Value) (X:World):Prop where
 arg:Box X w.heap.size 25 #[v]
 res:Box X (w.heap.size+1) 25 #[.slice none 0 0]
 out:Box X (w.heap.size+2) 25 #[u]
 bel:Below w.heap.size w X
theorem CT.lt {w:World} {v u:Value} {X:World} (h:CT w v u X):w.heap.size+2<X.heap.size:=h.out.lt
theorem CT.below {w:World} {v u:Value} {X Y:World} (h:CT w v u X) (hb:Below X.heap.size X Y):CT w v u Y:=⟨h.arg.below hb,h.res.below hb,h.out.below hb,bjoin hb h.bel⟩
theorem CT.set {w:World} {v u:Value} {X:World} (h:CT w v u X) (u':Value):CT w v u' (X.setCell ⟨w.heap.size+2,0,none⟩ u') :=
 ⟨h.arg.other (by simp) _,h.res.other (by simp) _,by have:=h.out.set 0 u';simpa using this,h.bel.setCell (p:=⟨w.heap.size+2,0,none⟩) (by simp) _⟩
theorem CT.only {w:World} {v u:Value} {X Y:World} {bs:List Nat} (h:CT w v u X) (ho:Only bs X Y) (hb:∀b∈bs,w.heap.size+3≤b):CT w v u Y :=
 ⟨h.arg.only ho fun hm=>by have:=hb _ hm;omega,h.res.only ho fun hm=>by have:=hb _ hm;omega,h.out.only ho fun hm=>by have:=hb _ hm;omega,h.bel.trans (ho.below h.bel.size fun d hd=>by have:=hb d hd;omega)⟩
set_option maxRecDepth 100000 in
set_option maxHeartbeats 16000000 in
theorem copyTbl_any (xs:List Sess) (v:Value) (w:World) {lo:Nat} (hv:SesssAt lo w v xs) (hn:xs.length≤1000) (hsm:∀s∈xs,SmS s) :
  Calls Tryz.prog 25 #[.agg #[v]] w fun e w'=>∃u,e=.returned (.agg #[u])∧(∃ps,TB (w.heap.size+3) w' u ps xs)∧Below w.heap.size w w':=by
 have HV:=hide hv
 obtain⟨a,cap,rfl,_⟩:=At.form hv
 have HSM:=hide hsm
 obtain⟨n,hnn⟩:∃n,xs.length=n:=⟨_,rfl⟩
 have HN:=hide hnn
 rw[hnn] at hn ⊢
 obtain⟨x3,hx3⟩:∃x,((w.alloc (Obj.cells #[.slice a n cap] 25)).alloc (Obj.cells #[.slice none 0 0] 25)).alloc (Obj.cells #[.slice none 0 0] 25)=x:=⟨_,rfl⟩
 have HC3:Hid (CT w (.slice a n cap) (.slice none 0 0) x3):=by
  rw[←hx3]
  refine⟨((Box.new w _ _).alloc _).alloc _,?_,?_,?_⟩
  ·have:=(Box.new (w.alloc (Obj.cells #[.slice a n cap] 25)) 25 #[.slice none 0 0]).alloc (Obj.cells #[.slice none 0 0] 25)
   rw[Deep.nblk_alloc] at this
   exact this
  ·have:=Box.new ((w.alloc (Obj.cells #[.slice a n cap] 25)).alloc (Obj.cells #[.slice none 0 0] 25)) 25 #[.slice none 0 0]
   rw[Deep.nblk_alloc,Deep.nblk_alloc] at this
   exact this
  ·have h1:=(Below.refl w.heap.size w).alloc (leR _) (Obj.cells #[.slice a n cap] 25)
   have h2:=h1.alloc h1.size (Obj.cells #[.slice none 0 0] 25)
   exact h2.alloc h2.size _
 have HX3:=hide hx3
 clear hv hnn hx3 hsm
 go_enter Tryz.func25,Tryz.ntmps25
 go_wp2_with fail
 (try rw[HX3.out])
 go_loopg [4] n (fun q i wr=>∃(k:Nat) (ao:Option Addr) (co:Nat) (ps:List (Sess × Value)),k≤n∧q=n - k∧i=.int .i64 (k:Int)∧CT w (.slice a n cap) (.slice ao k co) wr∧TB (w.heap.size+3) wr (.slice ao k co) ps (xs.take k))
 case atStart=>exact⟨0,none,0,[],zrL _,rfl,rfl,HC3.out,TB.nil _ _⟩
 case round =>
  obtain⟨k,ao,co,ps,hk,rfl,rfl,hC,hT⟩:=hrel
  obtain⟨Y,rfl⟩:∃x,x=wr:=⟨_,rfl⟩
  have HC:=hide hC
  have HT:=hide hT
  have c0:Y.cell? ⟨w.heap.size,0,none⟩=some (.slice a n cap):=hC.arg.cell 0 (by simp)
  clear hC hT
  by_cases hlt:k<n
  ·have hki:(k:Int)<(n:Int):=by omega
   have hk0:(0:Int)≤(k:Int):=by omega
   have hkl:k<xs.length:=by rw[HN.out];exact hlt
   obtain⟨a',cap',ea,hel⟩:=At.form HV.out
   injection ea with e1 _ e3
   subst e1 e3
   obtain⟨b,off,rfl,_,hbl,g⟩:=hel k hkl
   obtain⟨s,hs⟩:∃s,xs[k]=s:=⟨_,rfl⟩
   have hss:SmS s:=by rw[←hs];exact HSM.out _ (List.getElem_mem hkl)
   have HTK:Hid (xs.take (k+1)=xs.take k++[s]):=by show _=_;rw[List.take_succ_eq_append_getElem hkl,hs]
   rw[hs] at g
   obtain⟨p,hp⟩:∃p,off+k * 7=p:=⟨_,rfl⟩
   rw[hp] at g
   obtain⟨g0,g1,g2,g3,g4,g6,z1,z2,ve,g5,hrows⟩:=g
   obtain⟨ar,cr,rfl,_⟩:=At.form hrows
   have HROW:=hide hrows
   have KW:Hid (∀U,Below w.heap.size w U→U.cell? ⟨b,p,none⟩=some (.int .i64 s.client)∧U.cell? ⟨b,p+1,none⟩=some (.string s.tag)∧U.cell? ⟨b,p+2,none⟩=some (.string s.query)∧U.cell? ⟨b,p+3,none⟩=some (.int .i64 s.page)∧U.cell? ⟨b,p+4,none⟩=some (.int .i64 s.state)∧U.cell? ⟨b,p+5,none⟩=some (.slice ar s.rows.length cr)∧U.cell? ⟨b,p+6,none⟩=some (.int .i64 s.cursor)):=fun U h =>
    ⟨(h.cell (p:=⟨b,p,none⟩) hbl).trans g0,(h.cell (p:=⟨b,p+1,none⟩) hbl).trans g1,(h.cell (p:=⟨b,p+2,none⟩) hbl).trans g2,(h.cell (p:=⟨b,p+3,none⟩) hbl).trans g3,(h.cell (p:=⟨b,p+4,none⟩) hbl).trans g4,(h.cell (p:=⟨b,p+5,none⟩) hbl).trans g5,(h.cell (p:=⟨b,p+6,none⟩) hbl).trans g6⟩
   obtain⟨ko,hko⟩:∃q,k=q:=⟨_,rfl⟩
   have KS:Hid (∀U,CT w (.slice (some ⟨b,off,none⟩) n cap) (.slice ao ko co) U→(fun U:World=>U.cell? ⟨w.heap.size+2,0,none⟩=some (.slice ao ko co)∧U.cell? ⟨w.heap.size,0,none⟩=some (.slice (some ⟨b,off,none⟩) n cap)∧U.cell? ⟨b,p,none⟩=some (.int .i64 s.client)∧U.cell? ⟨b,p+1,none⟩=some (.string s.tag)∧U.cell? ⟨b,p+2,none⟩=some (.string s.query)∧U.cell? ⟨b,p+3,none⟩=some (.int .i64 s.page)∧U.cell? ⟨b,p+4,none⟩=some (.int .i64 s.state)∧U.cell? ⟨b,p+5,none⟩=some (.slice ar s.rows.length cr)∧U.cell? ⟨b,p+6,none⟩=some (.int .i64 s.cursor)) U):=fun U h=>⟨h.out.cell 0 (by simp),h.arg.cell 0 (by simp),KW.out U h.bel⟩
   obtain⟨D,hDe⟩:∃D,Y.drew=D:=⟨_,rfl⟩
   have hD:Below Y.heap.size Y D:=by rw[←hDe];exact(Below.refl _ _).drew
   have HCO:Hid (CT w (.slice (some ⟨b,off,none⟩) n cap) (.slice ao ko co) Y):=by rw[←hko];exact HC.out
   have HTO:Hid (TB (w.heap.size+3) Y (.slice ao ko co) ps (xs.take k)):=by have:=HT.out;rw[hko] at this ⊢;exact this
   have hCD:=HCO.out.below hD
   have hTD:=HTO.out.below hD
   have hSd:(fun U:World=>U.cell? ⟨w.heap.size+2,0,none⟩=some (.slice ao ko co)∧U.cell? ⟨w.heap.size,0,none⟩=some (.slice (some ⟨b,off,none⟩) n cap)∧U.cell? ⟨b,p,none⟩=some (.int .i64 s.client)∧U.cell? ⟨b,p+1,none⟩=some (.string s.tag)∧U.cell? ⟨b,p+2,none⟩=some (.string s.query)∧U.cell? ⟨b,p+3,none⟩=some (.int .i64 s.page)∧U.cell? ⟨b,p+4,none⟩=some (.int .i64 s.state)∧U.cell? ⟨b,p+5,none⟩=some (.slice ar s.rows.length cr)∧U.cell? ⟨b,p+6,none⟩=some (.int .i64 s.cursor)) D:=KS.out D hCD
   have HCS:=hide (copySess_any s (.slice ar s.rows.length cr) D (by have:=hss.2.2.1;omega) (At.kept kept_str HROW.out hCD.bel))
   unfold sessV at HCS
   have hlen:(xs.take k).length=ko:=by rw[List.length_take,←hko];omega
   have HLT:=hide (show w.heap.size+2<D.heap.size from hCD.lt)
   have HKO:=hide hko
   clear g0 g1 g2 g3 g4 g5 g6 hel hrows hs hkl hko
   go_upto_region 5 with fail
   refine wp_region_two (fun U:World=>U.cell? ⟨w.heap.size+2,0,none⟩=some (.slice ao ko co)∧U.cell? ⟨w.heap.size,0,none⟩=some (.slice (some ⟨b,off,none⟩) n cap)∧U.cell? ⟨b,p,none⟩=some (.int .i64 s.client)∧U.cell? ⟨b,p+1,none⟩=some (.string s.tag)∧U.cell? ⟨b,p+2,none⟩=some (.string s.query)∧U.cell? ⟨b,p+3,none⟩=some (.int .i64 s.page)∧U.cell? ⟨b,p+4,none⟩=some (.int .i64 s.state)∧U.cell? ⟨b,p+5,none⟩=some (.slice ar s.rows.length cr)∧U.cell? ⟨b,p+6,none⟩=some (.int .i64 s.cursor)) 10 (by kernel_rfl) ?_
   rw[hDe]
   clear hDe
   refine wpTwo_take (i:=0) (some 13) (v:=?v0_5) rfl rfl (by kernel_rfl) (by kernel_rfl) (by kernel_rfl) (by kernel_rfl) (fun _ _ _ h=>h) hSd (Or.inl ⟨by rfl,?hy0_5⟩) ?rest0_5
   case hy0_5=>(intro w hSw;(try dsimp only at hSw);go_simp;try with_reducible rfl)
   try simp only[Act.put,List.setIfInBounds_toArray,List.set_cons_zero,List.set_cons_succ]
   refine wpTwo_take (i:=1) (some 14) (v:=?v1_5) rfl rfl (by kernel_rfl) (by kernel_rfl) (by kernel_rfl) (by kernel_rfl) (fun _ _ _ h=>h) hSd (Or.inl ⟨by rfl,?hy1_5⟩) ?rest1_5
   case hy1_5=>(intro w hSw;(try dsimp only at hSw);go_simp;try with_reducible rfl)
   try simp only[Act.put,List.setIfInBounds_toArray,List.set_cons_zero,List.set_cons_succ]
   refine wpTwo_take (i:=2) (some 15) (v:=?v2_5) rfl rfl (by kernel_rfl) (by kernel_rfl) (by kernel_rfl) (by kernel_rfl) (fun _ _ _ h=>h) hSd (Or.inl ⟨by rfl,?hy2_5⟩) ?rest2_5
   case hy2_5=>(intro w hSw;(try dsimp only at hSw);go_simp;try with_reducible rfl)
   try simp only[Act.put,List.setIfInBounds_toArray,List.set_cons_zero,List.set_cons_succ]
   refine wpTwo_take (i:=3) (some 16) (v:=?v3_5) rfl rfl (by kernel_rfl) (by kernel_rfl) (by kernel_rfl) (by kernel_rfl) (fun _ _ _ h=>h) hSd (Or.inl ⟨by rfl,?hy3_5⟩) ?rest3_5
   case hy3_5=>(intro w hSw;(try dsimp only at hSw);go_simp;try with_reducible rfl)
   try simp only[Act.put,List.setIfInBounds_toArray,List.set_cons_zero,List.set_cons_succ]
   refine wpTwo_take (i:=4) (some 17) (v:=?v4_5) rfl rfl (by kernel_rfl) (by kernel_rfl) (by kernel_rfl) (by kernel_rfl) (fun _ _ _ h=>h) hSd (Or.inl ⟨by rfl,?hy4_5⟩) ?rest4_5
   case hy4_5=>(intro w hSw;(try dsimp only at hSw);go_simp;try with_reducible rfl)
   try simp only[Act.put,List.setIfInBounds_toArray,List.set_cons_zero,List.set_cons_succ]
   refine wpTwo_take (i:=5) (some 18) (v:=?v5_5) rfl rfl (by kernel_rfl) (by kernel_rfl) (by kernel_rfl) (by kernel_rfl) (fun _ _ _ h=>h) hSd (Or.inl ⟨by rfl,?hy5_5⟩) ?rest5_5
   case hy5_5=>(intro w hSw;(try dsimp only at hSw);go_simp;try with_reducible rfl)
   try simp only[Act.put,List.setIfInBounds_toArray,List.set_cons_zero,List.set_cons_succ]
   refine wpTwo_take (i:=6) (some 19) (v:=?v6_5) rfl rfl (by kernel_rfl) (by kernel_rfl) (by kernel_rfl) (by kernel_rfl) (fun _ _ _ h=>h) hSd (Or.inl ⟨by rfl,?hy6_5⟩) ?rest6_5
   case hy6_5=>(intro w hSw;(try dsimp only at hSw);go_simp;try with_reducible rfl)
   try simp only[Act.put,List.setIfInBounds_toArray,List.set_cons_zero,List.set_cons_succ]
   refine wpTwo_one (j:=7) (by kernel_rfl) rfl (fun K hK=>?_)
   go_simp
   refine HCS.out.mono ?_
   rintro e U ⟨u,rfl,hF,hbU⟩
   obtain⟨au,cu,rfl,_⟩:=hF.form
   dsimp only
   have hCU:=hCD.below hbU
   have hTU:=hTD.below hbU
   refine hK.out _ _ (fun _=>KS.out _ hCU) ?_
   clear hK K
   try simp only[Act.put,List.setIfInBounds_toArray,List.set_cons_zero,List.set_cons_succ]
   have hun:Ind rowA (w.heap.size+3) U (.slice ao ko co) (.slice au s.rows.length cu) s:=Ind.new (A:=rowA) (L:=D.heap.size+2) hF (by have:=HLT.out;omega) fun b hb=>by
    have:=(hTD.row.own b (by rw[hb];simp)).2
    exact .inl (by omega)
   obtain⟨a8,c8,w8,hr8,hT8,ho8,hv8⟩:=hTU.more (n:=ko) s (.slice au s.rows.length cu) hss hun ⟨_,_,_,rfl⟩ (fun b hb q hq e=>by
    have h1:=(hF.own b (by rw[hb];simp)).1
    have h2:=(hTD.own q hq b e).2
    omega) (by have:=hCU.lt;omega) hlen (by have:=HKO.out;omega)
   have hCA:=hCU.below ((Below.refl _ _).alloc (leR _) (Obj.cells #[.int .i64 s.client,.string s.tag,.string s.query,.int .i64 s.page,.int .i64 s.state,.slice au s.rows.length cu,.int .i64 s.cursor] 41))
   have hC8:=hCU.only ho8 (fun b hb=>(hTU.row.own b hb).1)
   refine wpTwo_one (j:=8) (by kernel_rfl) rfl (fun K hK=>?_)
   go_simp
   refine hK.out _ _ (fun _=>KS.out _ hCA) ?_
   clear hK K
   try simp only[Act.put,List.setIfInBounds_toArray,List.set_cons_zero,List.set_cons_succ]
   refine wpTwo_one (j:=9) (by kernel_rfl) rfl (fun K hK=>?_)
   refine step_app rfl _ _ 23 rfl hr8 (by first|rfl|simp[Act.eval,Act.put]) (by first|rfl|simp[Act.eval,Act.put]) ?_
   show K (Act.put _ (some 22) _) _
   refine hK.out _ _ (fun _=>KS.out _ hC8) ?_
   clear hK K
   try simp only[Act.put,List.setIfInBounds_toArray,List.set_cons_zero,List.set_cons_succ]
   have o0:w8.cell? ⟨w.heap.size+2,0,none⟩=some (.slice ao ko co):=hC8.out.cell 0 (by simp)
   have of:w8.frozen? ⟨w.heap.size+2,0,none⟩=false:=hC8.out.frozen 0
   have ol:w.heap.size+2<w8.heap.size:=hC8.out.lt
   refine wpTwo_one (j:=10) (by kernel_rfl) rfl (fun K hK=>?_)
   go_simp
   refine hK.out _ _ (fun h=>absurd h (by decide)) ?_
   clear hK K
   refine wpTwo_one (j:=11) (by kernel_rfl) rfl (fun K hK=>?_)
   go_simp
   refine hK.out _ _ (fun h=>absurd h (by decide)) ?_
   clear hK K
   refine wpTwo_done (by kernel_rfl) ?_ _
   have HC9:=hide (hC8.set (.slice a8 (ko+1) c8))
   have HT9:=hide (hT8.setB (b:=w.heap.size+2) (o:=0) (by omega) (.slice a8 (ko+1) c8))
   clear hSd hCD hTD hCU hTU hCA hC8 hT8 hr8 ho8 hv8 hF hbU hun o0 of ol hD
   have hko:=HKO.out
   subst hko
   go_wp2_with fail
   go_roundg (n - (k+1))
   case measure=>omega
   case rel=>exact⟨k+1,_,_,_,by omega,rfl,by go_num,HC9.out,by rw[HTK.out];exact HT9.out⟩
  ·have hki:¬(k:Int)<(n:Int):=by omega
   obtain rfl:k=n:=by omega
   have HTE:Hid (TB (w.heap.size+3) Y (.slice ao k co) ps xs):=by have:=HT.out;rw[←HN.out,List.take_length] at this;rw[←HN.out];exact this
   have o0:Y.cell? ⟨w.heap.size+2,0,none⟩=some (.slice ao k co):=HC.out.out.cell 0 (by simp)
   have r0:Y.cell? ⟨w.heap.size+1,0,none⟩=some (.slice none 0 0):=HC.out.res.cell 0 (by simp)
   have rf:Y.frozen? ⟨w.heap.size+1,0,none⟩=false:=HC.out.res.frozen 0
   have rl:w.heap.size+1<Y.heap.size:=HC.out.res.lt
   go_wp2_with fail
   exact bodyPost_ret (v:=.agg #[.slice ao k co]) (by simp[results,Tryz.results25,go_sem,r0,rl]) rfl ⟨_,rfl,⟨ps,HTE.out.setB (by omega) _⟩,HC.out.bel.setCell (p:=⟨w.heap.size+1,0,none⟩) (Nat.le_succ _) _⟩
structure TE (base:Nat) (X:World) (v:Value) (ps:List (Sess × Value)):Prop where
 row:FB tsC 7 41 base X v ps
 els:∀p∈ps,SmS p.1∧FB tC 1 9 base X p.2 p.1.rows
 nd:((ps.map (·.2)).filterMap Value.ownBlock).Nodup
theorem TE.nil (base:Nat) (X:World):TE base X (.slice none 0 0) []:=⟨FB.nil _ _ _ _ _,(fun _ h=>absurd h (by simp)),by simp⟩
theorem TB.te {base:Nat} {X:World} {v:Value} {ps:List (Sess × Value)} {xs:List Sess} (h:TB base X v ps xs):TE base X v ps∧ps.map Prod.fst=xs:=by
 refine⟨⟨h.row,fun p hp=>?_,h.nd⟩,?_⟩
 ·obtain⟨i,hi,rfl⟩:=List.mem_iff_getElem.1 hp
  obtain⟨⟨e,hs⟩,hI⟩:=h.els.2.2 i hi (by rw[←h.len];exact hi)
  rw[←e] at hs hI
  exact⟨hs,hI.rows.1⟩
 ·apply List.ext_getElem
  ·rw[List.length_map];exact h.len
  ·intro i h1 h2
   rw[List.getElem_map]
   exact(h.els.2.2 i (by rw[List.length_map] at h1;exact h1) h2).1.1
theorem TE.form {base:Nat} {X:World} {v:Value} {ps:List (Sess × Value)} (h:TE base X v ps):∃a c,v=.slice a ps.length c∧ps.length≤c∧c≤9223372036854775807:=h.row.form
def TE.In (v:Value) (ps:List (Sess × Value)) (b:Nat):Prop:=v.ownBlock=some b∨∃p∈ps,p.2.ownBlock=some b
theorem TE.keep {base:Nat} {X X':World} {v:Value} {ps:List (Sess × Value)} (h:TE base X v ps) (hb:∀b,TE.In v ps b→X'.heap[b]?=X.heap[b]?):TE base X' v ps :=
 ⟨h.row.keep fun b hb'=>hb b (.inl (by simpa using hb')),fun p hp=>⟨(h.els p hp).1,(h.els p hp).2.keep fun b hb'=>hb b (.inr ⟨p,hp,by simpa using hb'⟩)⟩,h.nd⟩
theorem TE.own {base:Nat} {X:World} {v:Value} {ps:List (Sess × Value)} (h:TE base X v ps) {b:Nat} (hb:TE.In v ps b):base≤b∧b<X.heap.size:=by
 rcases hb with hb|⟨p,hp,hb⟩
 ·exact h.row.own b (by rw[hb];simp)
 ·exact(h.els p hp).2.own b (by rw[hb];simp)
theorem TE.below {base:Nat} {X X':World} {v:Value} {ps:List (Sess × Value)} (h:TE base X v ps) (hb:Below X.heap.size X X'):TE base X' v ps:=h.keep fun b hi=>hb.block b (h.own hi).2
theorem TE.low {base base':Nat} {X:World} {v:Value} {ps:List (Sess × Value)} (h:TE base X v ps) (hb:base'≤base):TE base' X v ps:=⟨h.row.low hb,fun p hp=>⟨(h.els p hp).1,(h.els p hp).2.low hb⟩,h.nd⟩
theorem FB.blk {α:Type} {C:α→List Value} {c:Nat} {e:TypeId} {base:Nat} {w:World} {v:Value} {xs:List α} (h:FB C c e base w v xs) {b:Nat} (hb:v.ownBlock=some b):∃cs,w.heap[b]?=some (.cells cs e (0,0)):=by
 obtain⟨_,⟨rfl,h0⟩|⟨g,cap,cur,rfl,hg,hs,_⟩⟩:=h
 ·simp[Value.ownBlock] at hb
 ·simp[Value.ownBlock] at hb
  subst hb
  exact⟨cur,hs⟩
theorem TE.apart {base:Nat} {X:World} {v:Value} {ps:List (Sess × Value)} (h:TE base X v ps) {b:Nat} {t:TypeId} {cs:Array Value} (hx:Box X b t cs) (h1:t≠41) (h2:t≠9):¬TE.In v ps b:=by
 have hb:X.heap[b]?=some (.cells cs t (0,0)):=hx
 rintro(hi|⟨p,hp,hi⟩)
 ·obtain⟨c,e⟩:=h.row.blk hi
  rw[hb] at e
  injection e with e
  injection e with _ e _
  exact h1 e
 ·obtain⟨c,e⟩:=(h.els p hp).2.blk hi
  rw[hb] at e
  injection e with e
  injection e with _ e _
  exact h2 e
theorem TE.setBox {base:Nat} {X:World} {v:Value} {ps:List (Sess × Value)} (h:TE base X v ps) {b o:Nat} {t:TypeId} {cs:Array Value} (hx:Box X b t cs) (x:Value) (h1:t≠41:=by decide) (h2:t≠9:=by decide):TE base (X.setCell ⟨b,o,none⟩ x) v ps :=
 h.keep fun d hd=>Deep.blk_setCell_other _ ⟨b,o,none⟩ _ d (by dsimp only;intro e;subst e;exact h.apart hx h1 h2 hd)
theorem TE.sesss {base:Nat} {X:World} {v:Value} {ps:List (Sess × Value)} (h:TE base X v ps) (hz:ps.length≤9223372036854775807):SesssAt base X v (ps.map Prod.fst):=by
 obtain⟨h0,hA⟩:=FB.at (C:=tsC) (c:=7) (Z:=fun _=>True) tsC_len h.row hz (fun _ _=>trivial)
 refine⟨by rw[List.length_map];exact hz,?_⟩
 rcases hA with⟨a,cap,e,rfl⟩|⟨b,off,cap,e,hbb,hA⟩
 ·exact .inl ⟨a,cap,e,rfl⟩
 ·refine .inr ⟨b,off,cap,by rw[List.length_map];exact e,hbb,fun i hi=>?_⟩
  have hi1:i<ps.length:=by rw[List.length_map] at hi;exact hi
  obtain⟨⟨z1,z2,z3,z4⟩,hF⟩:=h.els ps[i] (List.getElem_mem hi1)
  have c0:=(hA i hi1).1 0 (by simp[tsC])
  have c1:=(hA i hi1).1 1 (by simp[tsC])
  have c2:=(hA i hi1).1 2 (by simp[tsC])
  have c3:=(hA i hi1).1 3 (by simp[tsC])
  have c4:=(hA i hi1).1 4 (by simp[tsC])
  have c5:=(hA i hi1).1 5 (by simp[tsC])
  have c6:=(hA i hi1).1 6 (by simp[tsC])
  rw[List.getElem_map]
  exact⟨by simpa [tsC] using c0,by simpa [tsC] using c1,by simpa [tsC] using c2,by simpa [tsC] using c3,by simpa [tsC] using c4,by simpa [tsC] using c6,z1,z2,ps[i].2,by simpa [tsC] using c5,tC_strs hF (by omega) z4⟩
theorem TE.cells {base:Nat} {X:World} {b off n cap:Nat} {ps:List (Sess × Value)} (h:TE base X (.slice (some ⟨b,off,none⟩) n cap) ps) (hz:ps.length≤9223372036854775807) (k:Nat) (hk:k<ps.length) :
  b<X.heap.size∧X.cell? ⟨b,off+k * 7,none⟩=some (.int .i64 ps[k].1.client)∧X.cell? ⟨b,off+k * 7+1,none⟩=some (.string ps[k].1.tag)∧X.cell? ⟨b,off+k * 7+2,none⟩=some (.string ps[k].1.query)∧X.cell? ⟨b,off+k * 7+3,none⟩=some (.int .i64 ps[k].1.page)∧X.cell? ⟨b,off+k * 7+4,none⟩=some (.int .i64 ps[k].1.state)∧X.cell? ⟨b,off+k * 7+5,none⟩=some ps[k].2∧X.cell? ⟨b,off+k * 7+6,none⟩=some (.int .i64 ps[k].1.cursor):=by
 obtain⟨h0,hA⟩:=FB.at (C:=tsC) (c:=7) (Z:=fun _=>True) tsC_len h.row hz (fun _ _=>trivial)
 rcases hA with⟨a9,c9,e9,e2⟩|⟨b9,off9,c9,e9,hbb,hA⟩
 ·rw[e2] at hk;simp at hk
 ·injection e9 with e1 _ _
  injection e1 with e1
  injection e1 with e1 e2 _
  subst e1 e2
  have g:=fun j hj=>(hA k hk).1 j hj
  have c0:=g 0 (by simp[tsC])
  have c1:=g 1 (by simp[tsC])
  have c2:=g 2 (by simp[tsC])
  have c3:=g 3 (by simp[tsC])
  have c4:=g 4 (by simp[tsC])
  have c5:=g 5 (by simp[tsC])
  have c6:=g 6 (by simp[tsC])
  exact⟨hbb.2,by simpa [tsC] using c0,by simpa [tsC] using c1,by simpa [tsC] using c2,by simpa [tsC] using c3,by simpa [tsC] using c4,by simpa [tsC] using c5,by simpa [tsC] using c6⟩
def woL {α:Type} (at_:Nat) (xs:List α) (k:Nat):List α:=(xs.take k).eraseIdx at_
theorem woL_at {α:Type} (at_:Nat) (xs:List α):woL at_ xs (at_+1)=woL at_ xs at_:=by
 unfold woL
 by_cases h:at_<xs.length
 ·rw[List.take_succ_eq_append_getElem h,List.eraseIdx_append_of_length_le (by rw[List.length_take];omega),List.eraseIdx_of_length_le (l:=xs.take at_) (by rw[List.length_take];omega)]
  have e:at_ - (xs.take at_).length=0:=by rw[List.length_take];omega
  rw[e]
  simp
 ·rw[List.take_of_length_le (by omega),List.take_of_length_le (by omega)]
theorem woL_step {α:Type} (at_:Nat) (xs:List α) (k:Nat) (h:k<xs.length) (hn:k≠at_):woL at_ xs (k+1)=woL at_ xs k++[xs[k]]:=by
 unfold woL
 rw[List.take_succ_eq_append_getElem h]
 by_cases hlt:at_<k
 ·rw[List.eraseIdx_append_of_lt_length (by rw[List.length_take];omega)]
 ·rw[List.eraseIdx_append_of_length_le (by rw[List.length_take];omega),List.eraseIdx_of_length_le (l:=xs.take k) (by rw[List.length_take];omega)]
  have e:0<at_ - (xs.take k).length:=by rw[List.length_take];omega
  rw[List.eraseIdx_of_length_le (l:=[xs[k]]) (by simp;omega)]
theorem woL_all {α:Type} (at_:Nat) (xs:List α):woL at_ xs xs.length=xs.eraseIdx at_:=by unfold woL;rw[List.take_length]
theorem woL_len {α:Type} (at_:Nat) (xs:List α) (k:Nat):(woL at_ xs k).length≤k:=by
 unfold woL
 have:=List.length_eraseIdx_le (xs.take k) at_
 rw[List.length_take] at this
 omega
theorem wo_nd {ps:List (Sess × Value)} (h:((ps.map (·.2)).filterMap Value.ownBlock).Nodup) (at_ k:Nat):(((woL at_ ps k).map (·.2)).filterMap Value.ownBlock).Nodup :=
 h.sublist (((List.eraseIdx_sublist _ _).trans (List.take_sublist _ _)).map _ |>.filterMap _)
set_option maxRecDepth 100000 in
set_option maxHeartbeats 16000000 in
theorem without_any (v:Value) (ps:List (Sess × Value)) (at_:Nat) (w:World) {base:Nat} (hT0:TE base w v ps) (hbase:base≤w.heap.size) (hn:ps.length≤1000) :
  Calls Tryz.prog 54 #[.agg #[v],.int .i64 (at_:Int)] w fun e w'=>∃u,e=.returned (.agg #[u])∧TE base w' u (ps.eraseIdx at_)∧Below w.heap.size w w':=by
 have HT0:=hide hT0
 obtain⟨a,cap,rfl,_⟩:=hT0.form
 obtain⟨n,hnn⟩:∃n,ps.length=n:=⟨_,rfl⟩
 have HN:=hide hnn
 rw[hnn] at hn ⊢
 obtain⟨x3,hx3⟩:∃x,((w.alloc (Obj.cells #[.slice a n cap] 25)).alloc (Obj.cells #[.slice none 0 0] 25)).alloc (Obj.cells #[.slice none 0 0] 25)=x:=⟨_,rfl⟩
 have HC3:Hid (CT w (.slice a n cap) (.slice none 0 0) x3):=by
  rw[←hx3]
  refine⟨((Box.new w _ _).alloc _).alloc _,?_,?_,?_⟩
  ·have:=(Box.new (w.alloc (Obj.cells #[.slice a n cap] 25)) 25 #[.slice none 0 0]).alloc (Obj.cells #[.slice none 0 0] 25)
   rw[Deep.nblk_alloc] at this
   exact this
  ·have:=Box.new ((w.alloc (Obj.cells #[.slice a n cap] 25)).alloc (Obj.cells #[.slice none 0 0] 25)) 25 #[.slice none 0 0]
   rw[Deep.nblk_alloc,Deep.nblk_alloc] at this
   exact this
  ·have h1:=(Below.refl w.heap.size w).alloc (leR _) (Obj.cells #[.slice a n cap] 25)
   have h2:=h1.alloc h1.size (Obj.cells #[.slice none 0 0] 25)
   exact h2.alloc h2.size _
 have HX3:=hide hx3
 clear hT0 hnn hx3
 go_enter Tryz.func54,Tryz.ntmps54
 go_wp2_with fail
 (try rw[HX3.out])
 go_loopg [6] n (fun q i wr=>∃(k ko:Nat) (ao:Option Addr) (co:Nat),k≤n∧q=n - k∧i=.int .i64 (k:Int)∧(woL at_ ps k).length=ko∧CT w (.slice a n cap) (.slice ao ko co) wr∧FB tsC 7 41 (w.heap.size+3) wr (.slice ao ko co) (woL at_ ps k))
 case atStart=>exact⟨0,0,none,0,zrL _,rfl,rfl,by simp[woL],HC3.out,by simpa [woL] using FB.nil tsC 7 41 (w.heap.size+3) x3⟩
 case round =>
  obtain⟨k,ko,ao,co,hk,rfl,rfl,hko,hC,hT⟩:=hrel
  obtain⟨Y,rfl⟩:∃x,x=wr:=⟨_,rfl⟩
  have HC:=hide hC
  have HT:=hide hT
  have HKO:=hide hko
  have hk3:ko≤1000:=by have:=woL_len at_ ps k;omega
  have c0:Y.cell? ⟨w.heap.size,0,none⟩=some (.slice a n cap):=hC.arg.cell 0 (by simp)
  clear hC hT hko
  by_cases hlt:k<n
  ·have hki:(k:Int)<(n:Int):=by omega
   have hk0:(0:Int)≤(k:Int):=by omega
   have hkp:k<ps.length:=by rw[HN.out];exact hlt
   by_cases hkA:k=at_
   ·subst hkA
    have HE2:=hide (woL_at k ps)
    go_wp2_with fail
    go_roundg (n - (k+1))
    case measure=>omega
    case rel=>exact⟨k+1,ko,_,_,by omega,rfl,by go_num,by rw[HE2.out];exact HKO.out,HC.out,by rw[HE2.out];exact HT.out⟩
   ·have hkAi:¬(k:Int)=(at_:Int):=by omega
    have hkAb:((k:Int) == (at_:Int))=false:=by simpa using hkAi
    obtain⟨⟨s,u⟩,hpk⟩:∃p,ps[k]=p:=⟨_,rfl⟩
    have hF:=(HT0.out.els ps[k] (List.getElem_mem hkp)).2
    rw[hpk] at hF
    dsimp only at hF
    obtain⟨ar,cr,rfl,_⟩:=hF.form
    have HST:Hid (woL at_ ps (k+1)=woL at_ ps k++[(s,.slice ar s.rows.length cr)]):=by show _=_;rw[woL_step at_ ps k hkp hkA,hpk]
    obtain⟨b,off,rfl⟩:∃b off,a=some ⟨b,off,none⟩:=by
     obtain⟨_,_,e,hc⟩:=At.form (HT0.out.sesss (by rw[HN.out];omega))
     injection e with e _ _
     obtain⟨b,off,e2,_⟩:=hc k (by rw[List.length_map];exact hkp)
     exact⟨b,off,by rw[e,e2]⟩
    obtain⟨p,hp⟩:∃p,off+k * 7=p:=⟨_,rfl⟩
    obtain⟨hbl,g0,g1,g2,g3,g4,g5,g6⟩:=HT0.out.cells (by rw[HN.out];omega) k hkp
    rw[hpk,hp] at g0 g1 g2 g3 g4 g5 g6
    dsimp only at g0 g1 g2 g3 g4 g5 g6
    have KW:Hid (∀U,Below w.heap.size w U→U.cell? ⟨b,p,none⟩=some (.int .i64 s.client)∧U.cell? ⟨b,p+1,none⟩=some (.string s.tag)∧U.cell? ⟨b,p+2,none⟩=some (.string s.query)∧U.cell? ⟨b,p+3,none⟩=some (.int .i64 s.page)∧U.cell? ⟨b,p+4,none⟩=some (.int .i64 s.state)∧U.cell? ⟨b,p+5,none⟩=some (.slice ar s.rows.length cr)∧U.cell? ⟨b,p+6,none⟩=some (.int .i64 s.cursor)):=fun U h =>
     ⟨(h.cell (p:=⟨b,p,none⟩) hbl).trans g0,(h.cell (p:=⟨b,p+1,none⟩) hbl).trans g1,(h.cell (p:=⟨b,p+2,none⟩) hbl).trans g2,(h.cell (p:=⟨b,p+3,none⟩) hbl).trans g3,(h.cell (p:=⟨b,p+4,none⟩) hbl).trans g4,(h.cell (p:=⟨b,p+5,none⟩) hbl).trans g5,(h.cell (p:=⟨b,p+6,none⟩) hbl).trans g6⟩
    have KS:Hid (∀U,CT w (.slice (some ⟨b,off,none⟩) n cap) (.slice ao ko co) U→(fun U:World=>U.cell? ⟨w.heap.size+2,0,none⟩=some (.slice ao ko co)∧U.cell? ⟨w.heap.size,0,none⟩=some (.slice (some ⟨b,off,none⟩) n cap)∧U.cell? ⟨b,p,none⟩=some (.int .i64 s.client)∧U.cell? ⟨b,p+1,none⟩=some (.string s.tag)∧U.cell? ⟨b,p+2,none⟩=some (.string s.query)∧U.cell? ⟨b,p+3,none⟩=some (.int .i64 s.page)∧U.cell? ⟨b,p+4,none⟩=some (.int .i64 s.state)∧U.cell? ⟨b,p+5,none⟩=some (.slice ar s.rows.length cr)∧U.cell? ⟨b,p+6,none⟩=some (.int .i64 s.cursor)) U):=fun U h=>⟨h.out.cell 0 (by simp),h.arg.cell 0 (by simp),KW.out U h.bel⟩
    obtain⟨D,hDe⟩:∃D,Y.drew=D:=⟨_,rfl⟩
    have hD:Below Y.heap.size Y D:=by rw[←hDe];exact(Below.refl _ _).drew
    have hCD:=HC.out.below hD
    have hTD:=HT.out.below hD
    have hSd:(fun U:World=>U.cell? ⟨w.heap.size+2,0,none⟩=some (.slice ao ko co)∧U.cell? ⟨w.heap.size,0,none⟩=some (.slice (some ⟨b,off,none⟩) n cap)∧U.cell? ⟨b,p,none⟩=some (.int .i64 s.client)∧U.cell? ⟨b,p+1,none⟩=some (.string s.tag)∧U.cell? ⟨b,p+2,none⟩=some (.string s.query)∧U.cell? ⟨b,p+3,none⟩=some (.int .i64 s.page)∧U.cell? ⟨b,p+4,none⟩=some (.int .i64 s.state)∧U.cell? ⟨b,p+5,none⟩=some (.slice ar s.rows.length cr)∧U.cell? ⟨b,p+6,none⟩=some (.int .i64 s.cursor)) D:=KS.out D hCD
    obtain⟨a8,c8,w8,hr8',hT8,ho8,hv8⟩:=row_more (C:=tsC) (c:=7) (bytes:=88) (e:=41) Tryz.underlying23 info_Sess rfl (by decide) hTD (s,.slice ar s.rows.length cr) rfl (fun z hz=>by
     have hz':z=.int .i64 s.client∨z=.string s.tag∨z=.string s.query∨z=.int .i64 s.page∨z=.int .i64 s.state∨z=.slice ar s.rows.length cr∨z=.int .i64 s.cursor:=by simpa [tsC] using hz
     rcases hz' with rfl|rfl|rfl|rfl|rfl|rfl|rfl <;> rfl) (by have:=hCD.lt;omega) HKO.out (by omega) (by decide)
    have hr8:(Builtin.append_ #[23,23] 23 #[.slice ao ko co,.slice (some ⟨D.heap.size,0,none⟩) 1 1]).run Tryz.prog (D.alloc (.cells #[.int .i64 s.client,.string s.tag,.string s.query,.int .i64 s.page,.int .i64 s.state,.slice ar s.rows.length cr,.int .i64 s.cursor] 41))=.ok (.slice a8 (ko+1) c8) w8:=hr8'
    have hCA:=hCD.below ((Below.refl _ _).alloc (leR _) (Obj.cells #[.int .i64 s.client,.string s.tag,.string s.query,.int .i64 s.page,.int .i64 s.state,.slice ar s.rows.length cr,.int .i64 s.cursor] 41))
    have hC8:=hCD.only ho8 (fun b hb=>(hTD.own b hb).1)
    have o0:w8.cell? ⟨w.heap.size+2,0,none⟩=some (.slice ao ko co):=hC8.out.cell 0 (by simp)
    have of:w8.frozen? ⟨w.heap.size+2,0,none⟩=false:=hC8.out.frozen 0
    have ol:w.heap.size+2<w8.heap.size:=hC8.out.lt
    have HC9:=hide (hC8.set (.slice a8 (ko+1) c8))
    have HT9:=hide (hT8.set1 (b:=w.heap.size+2) (o:=0) (by omega) (.slice a8 (ko+1) c8))
    clear g0 g1 g2 g3 g4 g5 g6 hpk hkp ho8 hv8 hT8 hr8' hF
    go_upto_region 6 with fail
    refine wp_region_two (fun U:World=>U.cell? ⟨w.heap.size+2,0,none⟩=some (.slice ao ko co)∧U.cell? ⟨w.heap.size,0,none⟩=some (.slice (some ⟨b,off,none⟩) n cap)∧U.cell? ⟨b,p,none⟩=some (.int .i64 s.client)∧U.cell? ⟨b,p+1,none⟩=some (.string s.tag)∧U.cell? ⟨b,p+2,none⟩=some (.string s.query)∧U.cell? ⟨b,p+3,none⟩=some (.int .i64 s.page)∧U.cell? ⟨b,p+4,none⟩=some (.int .i64 s.state)∧U.cell? ⟨b,p+5,none⟩=some (.slice ar s.rows.length cr)∧U.cell? ⟨b,p+6,none⟩=some (.int .i64 s.cursor)) 9 (by kernel_rfl) ?_
    rw[hDe]
    clear hDe
    refine wpTwo_take (i:=0) (some 18) (v:=?v0_6) rfl rfl (by kernel_rfl) (by kernel_rfl) (by kernel_rfl) (by kernel_rfl) (fun _ _ _ h=>h) hSd (Or.inl ⟨by rfl,?hy0_6⟩) ?rest0_6
    case hy0_6=>(intro w hSw;(try dsimp only at hSw);go_simp;try with_reducible rfl)
    try simp only[Act.put,List.setIfInBounds_toArray,List.set_cons_zero,List.set_cons_succ]
    refine wpTwo_take (i:=1) (some 19) (v:=?v1_6) rfl rfl (by kernel_rfl) (by kernel_rfl) (by kernel_rfl) (by kernel_rfl) (fun _ _ _ h=>h) hSd (Or.inl ⟨by rfl,?hy1_6⟩) ?rest1_6
    case hy1_6=>(intro w hSw;(try dsimp only at hSw);go_simp;try with_reducible rfl)
    try simp only[Act.put,List.setIfInBounds_toArray,List.set_cons_zero,List.set_cons_succ]
    refine wpTwo_take (i:=2) (some 20) (v:=?v2_6) rfl rfl (by kernel_rfl) (by kernel_rfl) (by kernel_rfl) (by kernel_rfl) (fun _ _ _ h=>h) hSd (Or.inl ⟨by rfl,?hy2_6⟩) ?rest2_6
    case hy2_6=>(intro w hSw;(try dsimp only at hSw);go_simp;try with_reducible rfl)
    try simp only[Act.put,List.setIfInBounds_toArray,List.set_cons_zero,List.set_cons_succ]
    refine wpTwo_take (i:=3) (some 21) (v:=?v3_6) rfl rfl (by kernel_rfl) (by kernel_rfl) (by kernel_rfl) (by kernel_rfl) (fun _ _ _ h=>h) hSd (Or.inl ⟨by rfl,?hy3_6⟩) ?rest3_6
    case hy3_6=>(intro w hSw;(try dsimp only at hSw);go_simp;try with_reducible rfl)
    try simp only[Act.put,List.setIfInBounds_toArray,List.set_cons_zero,List.set_cons_succ]
    refine wpTwo_take (i:=4) (some 22) (v:=?v4_6) rfl rfl (by kernel_rfl) (by kernel_rfl) (by kernel_rfl) (by kernel_rfl) (fun _ _ _ h=>h) hSd (Or.inl ⟨by rfl,?hy4_6⟩) ?rest4_6
    case hy4_6=>(intro w hSw;(try dsimp only at hSw);go_simp;try with_reducible rfl)
    try simp only[Act.put,List.setIfInBounds_toArray,List.set_cons_zero,List.set_cons_succ]
    refine wpTwo_take (i:=5) (some 23) (v:=?v5_6) rfl rfl (by kernel_rfl) (by kernel_rfl) (by kernel_rfl) (by kernel_rfl) (fun _ _ _ h=>h) hSd (Or.inl ⟨by rfl,?hy5_6⟩) ?rest5_6
    case hy5_6=>(intro w hSw;(try dsimp only at hSw);go_simp;try with_reducible rfl)
    try simp only[Act.put,List.setIfInBounds_toArray,List.set_cons_zero,List.set_cons_succ]
    refine wpTwo_take (i:=6) (some 24) (v:=?v6_6) rfl rfl (by kernel_rfl) (by kernel_rfl) (by kernel_rfl) (by kernel_rfl) (fun _ _ _ h=>h) hSd (Or.inl ⟨by rfl,?hy6_6⟩) ?rest6_6
    case hy6_6=>(intro w hSw;(try dsimp only at hSw);go_simp;try with_reducible rfl)
    try simp only[Act.put,List.setIfInBounds_toArray,List.set_cons_zero,List.set_cons_succ]
    refine wpTwo_one (j:=7) (by kernel_rfl) rfl (fun K hK=>?_)
    go_simp
    refine hK.out _ _ (fun _=>KS.out _ hCA) ?_
    clear hK K
    try simp only[Act.put,List.setIfInBounds_toArray,List.set_cons_zero,List.set_cons_succ]
    refine wpTwo_one (j:=8) (by kernel_rfl) rfl (fun K hK=>?_)
    refine step_app rfl _ _ 23 rfl hr8 (by first|rfl|simp[Act.eval,Act.put]) (by first|rfl|simp[Act.eval,Act.put]) ?_
    show K (Act.put _ (some 26) _) _
    refine hK.out _ _ (fun _=>KS.out _ hC8) ?_
    clear hK K
    try simp only[Act.put,List.setIfInBounds_toArray,List.set_cons_zero,List.set_cons_succ]
    refine wpTwo_one (j:=9) (by kernel_rfl) rfl (fun K hK=>?_)
    go_simp
    refine hK.out _ _ (fun h=>absurd h (by decide)) ?_
    clear hK K
    refine wpTwo_one (j:=10) (by kernel_rfl) rfl (fun K hK=>?_)
    go_simp
    refine hK.out _ _ (fun h=>absurd h (by decide)) ?_
    clear hK K
    refine wpTwo_done (by kernel_rfl) ?_ _
    clear hSd hCD hTD hCA hC8 hr8 o0 of ol hD
    go_wp2_with fail
    go_roundg (n - (k+1))
    case measure=>omega
    case rel=>exact⟨k+1,ko+1,_,_,by omega,rfl,by go_num,by rw[HST.out,List.length_append,HKO.out];rfl,HC9.out,by rw[HST.out];exact HT9.out⟩
  ·have hki:¬(k:Int)<(n:Int):=by omega
   obtain rfl:k=n:=by omega
   have HTE:Hid (∀x,TE base (Y.setCell ⟨w.heap.size+1,0,none⟩ x) (.slice ao ko co) (ps.eraseIdx at_)):=fun x=>by
    have hb:=HC.out.bel.setCell (p:=⟨w.heap.size+1,0,none⟩) (Nat.le_succ _) x
    have e1:woL at_ ps k=ps.eraseIdx at_:=by rw[←woL_all,HN.out]
    have hr:=(HT.out.set1 (b:=w.heap.size+1) (o:=0) (by omega) x).low (base':=base) (by omega)
    have hnd:=wo_nd HT0.out.nd at_ k
    rw[e1] at hr hnd
    exact⟨hr,fun p hp=>by
     have:=HT0.out.els p (List.mem_of_mem_eraseIdx hp)
     exact⟨this.1,this.2.below hb⟩,hnd⟩
   have o0:Y.cell? ⟨w.heap.size+2,0,none⟩=some (.slice ao ko co):=HC.out.out.cell 0 (by simp)
   have r0:Y.cell? ⟨w.heap.size+1,0,none⟩=some (.slice none 0 0):=HC.out.res.cell 0 (by simp)
   have rf:Y.frozen? ⟨w.heap.size+1,0,none⟩=false:=HC.out.res.frozen 0
   have rl:w.heap.size+1<Y.heap.size:=HC.out.res.lt
   go_wp2_with fail
   exact bodyPost_ret (v:=.agg #[.slice ao ko co]) (by simp[results,Tryz.results54,go_sem,r0,rl]) rfl ⟨_,rfl,HTE.out _,HC.out.bel.setCell (p:=⟨w.heap.size+1,0,none⟩) (Nat.le_succ _) _⟩
def Mx (w:World):Prop:=∃m,w.cell? ⟨1,0,none⟩=some (.int .i64 m)
theorem Mx.pos {w:World} (h:Mx w):1<w.heap.size:=by
 obtain⟨m,h⟩:=h
 by_cases h0:1<w.heap.size
 ·exact h0
 ·simp[World.cell?,Array.getElem?_eq_none (show w.heap.size≤1 by omega)] at h
theorem Mx.below {w w':World} (h:Mx w) {B:Nat} (hB:1<B) (hb:Below B w w'):Mx w':=by
 have hp:=h.pos
 obtain⟨m,h⟩:=h
 exact⟨m,by rw[hb.cell (p:=⟨1,0,none⟩) hB];exact h⟩
theorem Mx.kept {w w':World} (h:Mx w) (hb:Below w.heap.size w w'):Mx w':=h.below h.pos hb
theorem mark_text (c:UInt8) (w:World):Sem.run Tryz.prog (convert 22 9 (.slice (some ⟨w.heap.size,0,none⟩) 1 1)) (w.alloc (.cells #[.int .u8 (c.toNat:Int)] 5))=.ok (.string ⟨#[c]⟩) (w.alloc (.cells #[.int .u8 (c.toNat:Int)] 5)):=by
 have h:=run_convert_bytes_arg (w.alloc (.cells #[.int .u8 (c.toNat:Int)] 5)) 22 5 Tryz.underlying22 Tryz.underlying5 w.heap.size 0 1 1 [(c.toNat:Int)] rfl (by
  intro i hi
  have:i=0:=by omega
  subst this
  simp) 9 Tryz.underlying9
 have e:strOfNums [(c.toNat:Int)]=(⟨#[c]⟩:ByteArray):=by unfold strOfNums;simp
 rw[h,e]
set_option maxHeartbeats 1000000 in
theorem implCut_any (s:ByteArray) (c:UInt8) (w:World) (hs:s.size≤1048576) (hm:Mx w) :
  Calls Tryz.prog 34 #[.string s,.int .u8 (c.toNat:Int)] w fun e w'=>∃u,e=.returned u∧SBuf w.heap.size w' u ((cutL c s.data.toList).map txt)∧Below w.heap.size w w':=by
 have hp:=hm.pos
 obtain⟨m,hmc⟩:=hm
 have hb0:=(Below.refl w.heap.size w).alloc (leR _) (Obj.cells #[.int .u8 (c.toNat:Int)] 5)
 have hm2:(w.alloc (.cells #[.int .u8 (c.toNat:Int)] 5)).cell? ⟨1,0,none⟩=some (.int .i64 m):=by rw[hb0.cell (p:=⟨1,0,none⟩) hp];exact hmc
 have hcv:=mark_text c w
 have hn:=countB_cut c s
 have hlen:=cutL_len c s.data.toList
 have hsl:s.data.toList.length=s.size:=by simp
 have HFIN:Hid (SBuf w.heap.size ((w.alloc (.cells #[.int .u8 (c.toNat:Int)] 5)).alloc (.cells ((Lib.splitB ⟨#[c]⟩ 0 (Lib.countB s ⟨#[c]⟩) s).map Value.string).toArray 9)) (.slice (some ⟨w.heap.size+1,0,none⟩) (Lib.countB s ⟨#[c]⟩+1) (Lib.countB s ⟨#[c]⟩+1)) ((cutL c s.data.toList).map txt)):=by
  have h:=World.ownsRow_lit (base:=w.heap.size) (e:=9) (size:=1) (w.alloc (.cells #[.int .u8 (c.toNat:Int)] 5)) ((Lib.splitB ⟨#[c]⟩ 0 (Lib.countB s ⟨#[c]⟩) s).map Value.string).toArray (Lib.countB s ⟨#[c]⟩+1) (by simp) (by unfold maxLen;omega) (by rw[splitB_cut,hn];simp)
  have hs1:(w.alloc (.cells #[.int .u8 (c.toNat:Int)] 5)).heap.size=w.heap.size+1:=by simp
  rw[hs1] at h
  show World.ownsRow _ _ _ _ _ _ _
  rw[splitB_cut] at h ⊢
  rw[List.length_map,←hn]
  simpa using h
 have HB:Hid (Below w.heap.size w ((w.alloc (.cells #[.int .u8 (c.toNat:Int)] 5)).alloc (.cells ((Lib.splitB ⟨#[c]⟩ 0 (Lib.countB s ⟨#[c]⟩) s).map Value.string).toArray 9))):=hb0.alloc (by simp) _
 clear hn hlen hsl hmc
 go_enter Tryz.func34,Tryz.ntmps34
 go_wp2_with fail
 refine(Tryz.strings_Split s ⟨#[c]⟩ m _ (by omega) hm2 (Nat.le_refl 1)).mono ?_
 rintro e w' ⟨rfl,rfl⟩
 clear hcv
 go_wp2_with fail
 go_ret
 exact⟨_,rfl,HFIN.out,HB.out⟩
end Go.Proofs.YtglcdcekkglmiaaGreatDoor.Msg
