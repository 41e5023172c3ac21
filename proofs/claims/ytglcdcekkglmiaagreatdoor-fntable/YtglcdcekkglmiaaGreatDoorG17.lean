import Derived.Test.YtglcdcekkglmiaaGreatDoorG11
import Derived.Test.YtglcdcekkglmiaaGreatDoorG16
import Derived.Deep.RegionHeld3
import Derived.Deep.DeepCutAuto
import Derived.Deep.LoopGhost
namespace Go.Proofs.YtglcdcekkglmiaaGreatDoor.Msg
open Go.ChangeShapes Go.WideShapes Go.ChangeAt Go.RowKit
set_option linter.unusedVariables false
set_option linter.unusedSimpArgs false
def sameB (x y:Sess):Bool:=decide (x.client=y.client) && (x.tag.toList == y.tag.toList)
def placeOk (xs:List Sess) (i:Nat) (h:i<xs.length):Prop:=sessB xs[i]=true∧∀j (hj:j<i),sameB xs[i] (xs[j]'(by omega))=false
instance (xs:List Sess) (i:Nat) (h:i<xs.length):Decidable (placeOk xs i h):=by unfold placeOk;infer_instance
def tblB (xs:List Sess):Bool:=decide (xs.length≤16) && decide (∀i (h:i<xs.length),placeOk xs i h)
theorem tblB_no {xs:List Sess} {i:Nat} (h:i<xs.length) (hn:¬placeOk xs i h):tblB xs=false:=by
 unfold tblB
 rw[decide_eq_false (p:=∀i (h:i<xs.length),placeOk xs i h) (fun H=>hn (H i h)),Bool.and_false]
set_option maxHeartbeats 2000000 in
theorem tableOk_any (xs:List Sess) (v:Value) (w:World) {lo:Nat} (hv:SesssAt lo w v xs) :
  Calls Tryz.prog 22 #[.agg #[v]] w fun e w'=>e=.returned (.bool (tblB xs))∧Below w.heap.size w w':=by
 have hl:=hv.1
 have hb:=(Below.refl w.heap.size w).alloc (leR _) (Obj.cells #[v] 25)
 have hv2:=At.kept kept_sess hv hb
 obtain⟨a,cap,hf,_⟩:=hv2.form
 subst hf
 obtain⟨W,hW⟩:∃W,w.alloc (Obj.cells #[.slice a xs.length cap] 25)=W:=⟨_,rfl⟩
 have s0:W.heap.size=w.heap.size+1:=by rw[←hW];simp
 have KD:Hid (∀X,Below W.heap.size W X→X.cell? ⟨w.heap.size,0,none⟩=some (.slice a xs.length cap)):=fun X h=>(h.cell (by rw[s0];simp)).trans (by rw[←hW];simp)
 rw[hW] at hb hv2
 have HV:=hide hv2
 have HB:=hide hb
 have HW:=hide hW
 clear hb hv hv2 hW s0
 by_cases hbig:(16:Int)<(xs.length:Int)
 ·have HX:Hid (tblB xs=false):=by show _=_;unfold tblB;rw[decide_eq_false (p:=xs.length≤16) (by omega)];rfl
  have d0:=KD.out W (Below.refl _ _)
  go_enter Tryz.func22,Tryz.ntmps22
  go_wp2_with fail
  rw[HW.out]
  go_ret
  exact⟨ret_bool HX.out.symm,HB.out⟩
 have d0:=KD.out W (Below.refl _ _)
 go_enter Tryz.func22,Tryz.ntmps22
 go_wp2_with fail
 rw[HW.out]
 go_loopg [3] xs.length (fun q i wr=>∃k:Nat,k≤xs.length∧q=xs.length - k∧i=.int .i64 (k:Int)∧(∀j (hj:j<xs.length),j<k→placeOk xs j hj)∧Below W.heap.size W wr)
 case atStart=>exact⟨0,zrL _,rfl,rfl,fun j _ h=>absurd h (by omega),Below.refl _ _⟩
 case round =>
  obtain⟨k,hk,rfl,rfl,hok,hbr⟩:=hrel
  have HOK:=hide hok
  have HBR:=hide hbr
  have dr:=KD.out wr hbr
  clear hok hbr
  by_cases hlt:k<xs.length
  ·have hki:(k:Int)<(xs.length:Int):=by omega
   obtain⟨a',cap',he',hcs⟩:=(At.kept kept_sess HV.out HBR.out).form
   injection he' with he1 _ he2
   subst he1 he2
   obtain⟨b,off,rfl,_,hbl,g⟩:=hcs k hlt
   obtain⟨x,hx⟩:∃x,xs[k]=x:=⟨_,rfl⟩
   have HXK:=hide hx
   rw[hx] at g
   obtain⟨p,hp⟩:∃p,off+k * 7=p:=⟨_,rfl⟩
   have HPP:=hide hp
   rw[hp] at g
   obtain⟨c0,c1,c2,c3,c4,c6,z1,z2,ve,c5,hel⟩:=g
   obtain⟨ae,ce,hfe⟩:∃a c,ve=.slice a x.rows.length c:=by obtain⟨a,c,e,_⟩:=hel.form;exact⟨a,c,e⟩
   subst hfe
   have HPO:Hid (∀(h1:sessB x=true) (h2:∀j (hj:j<k),sameB x (xs[j]'(by omega))=false),placeOk xs k hlt):=fun h1 h2=>⟨by rw[HXK.out];exact h1,fun j hj=>by rw[HXK.out];exact h2 j hj⟩
   have HCS:=hide hcs
   clear hx hcs
   cases hs:sessB x
   ·have HX:Hid (tblB xs=false):=tblB_no hlt (fun h=>by have:=h.1;rw[HXK.out,hs] at this;cases this)
    go_wp2_with (first|(go_at_call 49;refine(sessionOk_any x (.slice ae x.rows.length ce) wr z1 z2 hel).mono ?_;rintro e w2 ⟨rfl,hb2⟩;rw[hs]))
    go_ret
    exact⟨ret_bool HX.out.symm,bjoin (bjoin hb2 HBR.out) HB.out⟩
   go_wp2_with (first|(go_at_call 49;refine(sessionOk_any x (.slice ae x.rows.length ce) wr z1 z2 hel).mono ?_;rintro e w2 ⟨rfl,hb2⟩;rw[hs]))
   have HB2:=hide (bjoin hb2 HBR.out)
   have HBL:Hid (b<W.heap.size):=by
    obtain⟨a3,cap3,he3,hc3⟩:=HV.out.form
    injection he3 with e1 _ _
    obtain⟨b3,off3,e3,_,hl3,_⟩:=hc3 k hlt
    rw[e3] at e1
    injection e1 with e1
    injection e1 with e1 _ _
    rw[e1]
    exact hl3
   clear c0 c1 c2 c3 c4 c5 c6 hel hb2 dr hbl
   go_loopg [4] k (fun q i wr2=>∃m:Nat,m≤k∧q=k - m∧i=.int .i64 (m:Int)∧(∀j (hj:j<k),j<m→sameB x (xs[j]'(by omega))=false)∧Below W.heap.size W wr2)
   case atStart=>exact⟨0,zrL _,rfl,rfl,fun j _ h=>absurd h (by omega),HB2.out⟩
   case round =>
    obtain⟨m,hm,rfl,rfl,hno,hbr2⟩:=hrel
    have HNO:=hide hno
    have HBR2:=hide hbr2
    clear hno hbr2
    by_cases hmk:m<k
    ·have hmi:(m:Int)<(k:Int):=by omega
     have hml:(m:Int)<(xs.length:Int):=by omega
     have hm0:(0:Int)≤(m:Int):=by omega
     have hk0:(0:Int)≤(k:Int):=by omega
     obtain⟨y,hy⟩:∃y,xs[m]'(by omega)=y:=⟨_,rfl⟩
     obtain⟨r,hr⟩:∃r,off+m * 7=r:=⟨_,rfl⟩
     have KS:Hid (∀X,Below W.heap.size W X→X.cell? ⟨w.heap.size,0,none⟩=some (.slice (some ⟨b,off,none⟩) xs.length cap)∧X.cell? ⟨b,p,none⟩=some (.int .i64 x.client)∧X.cell? ⟨b,p+1,none⟩=some (.string x.tag)∧X.cell? ⟨b,r,none⟩=some (.int .i64 y.client)∧X.cell? ⟨b,r+1,none⟩=some (.string y.tag)):=fun X h=>by
      obtain⟨a3,cap3,he3,hc3⟩:=(At.kept kept_sess HV.out h).form
      injection he3 with e1 _ _
      subst e1
      obtain⟨b3,off3,e3,_,_,gk⟩:=hc3 k hlt
      obtain⟨b4,off4,e4,_,_,gm⟩:=hc3 m (by omega)
      injection e3 with e3
      injection e3 with e5 e6 _
      subst e5 e6
      injection e4 with e4
      injection e4 with e7 e8 _
      subst e7 e8
      rw[HXK.out,HPP.out] at gk
      rw[hy,hr] at gm
      exact⟨KD.out X h,gk.1,gk.2.1,gm.1,gm.2.1⟩
     have HNN:Hid (sameB x y=false→∀j (hj:j<k),j<m+1→sameB x (xs[j]'(by omega))=false):=fun h j hj hjm=>by
      by_cases e:j=m
      ·subst e;rw[hy];exact h
      ·exact HNO.out j hj (by omega)
     have HYY:Hid (sameB x y=true→tblB xs=false):=fun h=>tblB_no hlt (fun hp2=>by
      have:=hp2.2 m hmk
      rw[HXK.out,hy,h] at this
      cases this)
     have HSM:Hid (sameB x y=(decide (x.client=y.client) && (x.tag.toList == y.tag.toList))):=rfl
     clear hy
     by_cases e1:x.client=y.client
     ·have e1b:(x.client == y.client)=true:=by simpa using e1
      cases e2:(x.tag.toList == y.tag.toList)
      ·have HF:=hide (HNN.out (by rw[HSM.out,e2,Bool.and_false]))
       go_upto_region 11 with fail
       obtain⟨D,hwd⟩:∃D,wr.drew=D:=⟨_,rfl⟩
       have hD:Below W.heap.size W D:=by rw[←hwd];exact bjoin (Below.refl _ _).drew HBR2.out
       have hSd:(fun X:World=>X.cell? ⟨w.heap.size,0,none⟩=some (.slice (some ⟨b,off,none⟩) xs.length cap)∧X.cell? ⟨b,p,none⟩=some (.int .i64 x.client)∧X.cell? ⟨b,p+1,none⟩=some (.string x.tag)∧X.cell? ⟨b,r,none⟩=some (.int .i64 y.client)∧X.cell? ⟨b,r+1,none⟩=some (.string y.tag)) D:=KS.out D hD
       refine wp_region_two (fun X:World=>X.cell? ⟨w.heap.size,0,none⟩=some (.slice (some ⟨b,off,none⟩) xs.length cap)∧X.cell? ⟨b,p,none⟩=some (.int .i64 x.client)∧X.cell? ⟨b,p+1,none⟩=some (.string x.tag)∧X.cell? ⟨b,r,none⟩=some (.int .i64 y.client)∧X.cell? ⟨b,r+1,none⟩=some (.string y.tag)) 28 (by kernel_rfl) ?_
       rw[hwd]
       clear hwd
       refine wpTwo_take (i:=0) (some 28) (v:=?v0_a) rfl rfl (by kernel_rfl) (by kernel_rfl) (by kernel_rfl) (by kernel_rfl) (fun _ _ _ h=>h) hSd (Or.inl ⟨by rfl,?hy0_a⟩) ?rest0_a
       case hy0_a=>(intro w hSw;(try dsimp only at hSw);go_simp;try with_reducible rfl)
       try simp only[Act.put,List.setIfInBounds_toArray,List.set_cons_zero,List.set_cons_succ]
       refine wpTwo_take (i:=1) (some 29) (v:=?v1_a) rfl rfl (by kernel_rfl) (by kernel_rfl) (by kernel_rfl) (by kernel_rfl) (fun _ _ _ h=>h) hSd (Or.inl ⟨by rfl,?hy1_a⟩) ?rest1_a
       case hy1_a=>(intro w hSw;(try dsimp only at hSw);go_simp;try with_reducible rfl)
       try simp only[Act.put,List.setIfInBounds_toArray,List.set_cons_zero,List.set_cons_succ]
       refine wpTwo_take (i:=2) (some 30) (v:=?v2_a) rfl rfl (by kernel_rfl) (by kernel_rfl) (by kernel_rfl) (by kernel_rfl) (fun _ _ _ h=>h) hSd (Or.inl ⟨by rfl,?hy2_a⟩) ?rest2_a
       case hy2_a=>(intro w hSw;(try dsimp only at hSw);go_simp;try with_reducible rfl)
       try simp only[Act.put,List.setIfInBounds_toArray,List.set_cons_zero,List.set_cons_succ]
       refine wpTwo_take (i:=3) (some 31) (v:=?v3_a) rfl rfl (by kernel_rfl) (by kernel_rfl) (by kernel_rfl) (by kernel_rfl) (fun _ _ _ h=>h) hSd (Or.inl ⟨by rfl,?hy3_a⟩) ?rest3_a
       case hy3_a=>(intro w hSw;(try dsimp only at hSw);go_simp;try with_reducible rfl)
       try simp only[Act.put,List.setIfInBounds_toArray,List.set_cons_zero,List.set_cons_succ]
       refine wpTwo_take (i:=4) (some 32) (v:=?v4_a) rfl rfl (by kernel_rfl) (by kernel_rfl) (by kernel_rfl) (by kernel_rfl) (fun _ _ _ h=>h) hSd (Or.inl ⟨by rfl,?hy4_a⟩) ?rest4_a
       case hy4_a=>(intro w hSw;(try dsimp only at hSw);go_simp;try with_reducible rfl)
       try simp only[Act.put,List.setIfInBounds_toArray,List.set_cons_zero,List.set_cons_succ]
       refine wpTwo_take (i:=5) (some 33) (v:=?v5_a) rfl rfl (by kernel_rfl) (by kernel_rfl) (by kernel_rfl) (by kernel_rfl) (fun _ _ _ h=>h) hSd (Or.inl ⟨by rfl,?hy5_a⟩) ?rest5_a
       case hy5_a=>(intro w hSw;(try dsimp only at hSw);go_simp;try with_reducible rfl)
       try simp only[Act.put,List.setIfInBounds_toArray,List.set_cons_zero,List.set_cons_succ]
       refine wpTwo_take (i:=6) (some 34) (v:=?v6_a) rfl rfl (by kernel_rfl) (by kernel_rfl) (by kernel_rfl) (by kernel_rfl) (fun _ _ _ h=>h) hSd (Or.inl ⟨by rfl,?hy6_a⟩) ?rest6_a
       case hy6_a=>(intro w hSw;(try dsimp only at hSw);go_simp;try with_reducible rfl)
       try simp only[Act.put,List.setIfInBounds_toArray,List.set_cons_zero,List.set_cons_succ]
       refine wpTwo_take (i:=7) (some 35) (v:=?v7_a) rfl rfl (by kernel_rfl) (by kernel_rfl) (by kernel_rfl) (by kernel_rfl) (fun _ _ _ h=>h) hSd (Or.inl ⟨by rfl,?hy7_a⟩) ?rest7_a
       case hy7_a=>(intro w hSw;(try dsimp only at hSw);go_simp;try with_reducible rfl)
       try simp only[Act.put,List.setIfInBounds_toArray,List.set_cons_zero,List.set_cons_succ]
       refine wpTwo_take (i:=8) (some 36) (v:=?v8_a) rfl rfl (by kernel_rfl) (by kernel_rfl) (by kernel_rfl) (by kernel_rfl) (fun _ _ _ h=>h) hSd (Or.inl ⟨by rfl,?hy8_a⟩) ?rest8_a
       case hy8_a=>(intro w hSw;(try dsimp only at hSw);go_simp;try with_reducible rfl)
       try simp only[Act.put,List.setIfInBounds_toArray,List.set_cons_zero,List.set_cons_succ]
       refine wpTwo_take (i:=9) (some 37) (v:=?v9_a) rfl rfl (by kernel_rfl) (by kernel_rfl) (by kernel_rfl) (by kernel_rfl) (fun _ _ _ h=>h) hSd (Or.inl ⟨by rfl,?hy9_a⟩) ?rest9_a
       case hy9_a=>(intro w hSw;(try dsimp only at hSw);go_simp;try with_reducible rfl)
       try simp only[Act.put,List.setIfInBounds_toArray,List.set_cons_zero,List.set_cons_succ]
       refine wpTwo_take (i:=10) (some 38) (v:=?v10_a) rfl rfl (by kernel_rfl) (by kernel_rfl) (by kernel_rfl) (by kernel_rfl) (fun _ _ _ h=>h) hSd (Or.inl ⟨by rfl,?hy10_a⟩) ?rest10_a
       case hy10_a=>(intro w hSw;(try dsimp only at hSw);go_simp;try with_reducible rfl)
       try simp only[Act.put,List.setIfInBounds_toArray,List.set_cons_zero,List.set_cons_succ]
       refine wpTwo_take (i:=11) (some 39) (v:=?v11_a) rfl rfl (by kernel_rfl) (by kernel_rfl) (by kernel_rfl) (by kernel_rfl) (fun _ _ _ h=>h) hSd (Or.inl ⟨by rfl,?hy11_a⟩) ?rest11_a
       case hy11_a=>(intro w hSw;(try dsimp only at hSw);go_simp;try with_reducible rfl)
       try simp only[Act.put,List.setIfInBounds_toArray,List.set_cons_zero,List.set_cons_succ]
       refine wpTwo_take (i:=12) (some 40) (v:=?v12_a) rfl rfl (by kernel_rfl) (by kernel_rfl) (by kernel_rfl) (by kernel_rfl) (fun _ _ _ h=>h) hSd (Or.inl ⟨by rfl,?hy12_a⟩) ?rest12_a
       case hy12_a=>(intro w hSw;(try dsimp only at hSw);go_simp;try with_reducible rfl)
       try simp only[Act.put,List.setIfInBounds_toArray,List.set_cons_zero,List.set_cons_succ]
       try rw[e1b]
       refine wpTwo_take (i:=13) (some 41) (v:=?v13_a) rfl rfl (by kernel_rfl) (by kernel_rfl) (by kernel_rfl) (by kernel_rfl) (fun _ _ _ h=>h) hSd (Or.inl ⟨by rfl,?hy13_a⟩) ?rest13_a
       case hy13_a=>(intro w hSw;(try dsimp only at hSw);go_simp;try with_reducible rfl)
       try simp only[Act.put,List.setIfInBounds_toArray,List.set_cons_zero,List.set_cons_succ]
       try rw[e1b]
       refine wpTwo_take (i:=14) (some 42) (v:=?v14_a) rfl rfl (by kernel_rfl) (by kernel_rfl) (by kernel_rfl) (by kernel_rfl) (fun _ _ _ h=>h) hSd (Or.inl ⟨by rfl,?hy14_a⟩) ?rest14_a
       case hy14_a=>(intro w hSw;(try dsimp only at hSw);go_simp;try with_reducible rfl)
       try simp only[Act.put,List.setIfInBounds_toArray,List.set_cons_zero,List.set_cons_succ]
       refine wpTwo_take (i:=15) (some 43) (v:=?v15_a) rfl rfl (by kernel_rfl) (by kernel_rfl) (by kernel_rfl) (by kernel_rfl) (fun _ _ _ h=>h) hSd (Or.inl ⟨by rfl,?hy15_a⟩) ?rest15_a
       case hy15_a=>(intro w hSw;(try dsimp only at hSw);go_simp;try with_reducible rfl)
       try simp only[Act.put,List.setIfInBounds_toArray,List.set_cons_zero,List.set_cons_succ]
       refine wpTwo_take (i:=16) (some 44) (v:=?v16_a) rfl rfl (by kernel_rfl) (by kernel_rfl) (by kernel_rfl) (by kernel_rfl) (fun _ _ _ h=>h) hSd (Or.inl ⟨by rfl,?hy16_a⟩) ?rest16_a
       case hy16_a=>(intro w hSw;(try dsimp only at hSw);go_simp;try with_reducible rfl)
       try simp only[Act.put,List.setIfInBounds_toArray,List.set_cons_zero,List.set_cons_succ]
       refine wpTwo_take (i:=17) (some 45) (v:=?v17_a) rfl rfl (by kernel_rfl) (by kernel_rfl) (by kernel_rfl) (by kernel_rfl) (fun _ _ _ h=>h) hSd (Or.inl ⟨by rfl,?hy17_a⟩) ?rest17_a
       case hy17_a=>(intro w hSw;(try dsimp only at hSw);go_simp;try with_reducible rfl)
       try simp only[Act.put,List.setIfInBounds_toArray,List.set_cons_zero,List.set_cons_succ]
       refine wpTwo_take (i:=18) (some 46) (v:=?v18_a) rfl rfl (by kernel_rfl) (by kernel_rfl) (by kernel_rfl) (by kernel_rfl) (fun _ _ _ h=>h) hSd (Or.inl ⟨by rfl,?hy18_a⟩) ?rest18_a
       case hy18_a=>(intro w hSw;(try dsimp only at hSw);go_simp;try with_reducible rfl)
       try simp only[Act.put,List.setIfInBounds_toArray,List.set_cons_zero,List.set_cons_succ]
       refine wpTwo_take (i:=19) (some 47) (v:=?v19_a) rfl rfl (by kernel_rfl) (by kernel_rfl) (by kernel_rfl) (by kernel_rfl) (fun _ _ _ h=>h) hSd (Or.inl ⟨by rfl,?hy19_a⟩) ?rest19_a
       case hy19_a=>(intro w hSw;(try dsimp only at hSw);go_simp;try with_reducible rfl)
       try simp only[Act.put,List.setIfInBounds_toArray,List.set_cons_zero,List.set_cons_succ]
       refine wpTwo_take (i:=20) (some 48) (v:=?v20_a) rfl rfl (by kernel_rfl) (by kernel_rfl) (by kernel_rfl) (by kernel_rfl) (fun _ _ _ h=>h) hSd (Or.inl ⟨by rfl,?hy20_a⟩) ?rest20_a
       case hy20_a=>(intro w hSw;(try dsimp only at hSw);go_simp;try with_reducible rfl)
       try simp only[Act.put,List.setIfInBounds_toArray,List.set_cons_zero,List.set_cons_succ]
       refine wpTwo_take (i:=21) (some 49) (v:=?v21_a) rfl rfl (by kernel_rfl) (by kernel_rfl) (by kernel_rfl) (by kernel_rfl) (fun _ _ _ h=>h) hSd (Or.inl ⟨by rfl,?hy21_a⟩) ?rest21_a
       case hy21_a=>(intro w hSw;(try dsimp only at hSw);go_simp;try with_reducible rfl)
       try simp only[Act.put,List.setIfInBounds_toArray,List.set_cons_zero,List.set_cons_succ]
       refine wpTwo_take (i:=22) (some 50) (v:=?v22_a) rfl rfl (by kernel_rfl) (by kernel_rfl) (by kernel_rfl) (by kernel_rfl) (fun _ _ _ h=>h) hSd (Or.inl ⟨by rfl,?hy22_a⟩) ?rest22_a
       case hy22_a=>(intro w hSw;(try dsimp only at hSw);go_simp;try with_reducible rfl)
       try simp only[Act.put,List.setIfInBounds_toArray,List.set_cons_zero,List.set_cons_succ]
       refine wpTwo_take (i:=23) (some 51) (v:=?v23_a) rfl rfl (by kernel_rfl) (by kernel_rfl) (by kernel_rfl) (by kernel_rfl) (fun _ _ _ h=>h) hSd (Or.inl ⟨by rfl,?hy23_a⟩) ?rest23_a
       case hy23_a=>(intro w hSw;(try dsimp only at hSw);go_simp;try with_reducible rfl)
       try simp only[Act.put,List.setIfInBounds_toArray,List.set_cons_zero,List.set_cons_succ]
       refine wpTwo_take (i:=24) (some 52) (v:=?v24_a) rfl rfl (by kernel_rfl) (by kernel_rfl) (by kernel_rfl) (by kernel_rfl) (fun _ _ _ h=>h) hSd (Or.inl ⟨by rfl,?hy24_a⟩) ?rest24_a
       case hy24_a=>(intro w hSw;(try dsimp only at hSw);go_simp;try with_reducible rfl)
       try simp only[Act.put,List.setIfInBounds_toArray,List.set_cons_zero,List.set_cons_succ]
       refine wpTwo_take (i:=25) (some 53) (v:=?v25_a) rfl rfl (by kernel_rfl) (by kernel_rfl) (by kernel_rfl) (by kernel_rfl) (fun _ _ _ h=>h) hSd (Or.inl ⟨by rfl,?hy25_a⟩) ?rest25_a
       case hy25_a=>(intro w hSw;(try dsimp only at hSw);go_simp;try with_reducible rfl)
       try simp only[Act.put,List.setIfInBounds_toArray,List.set_cons_zero,List.set_cons_succ]
       refine wpTwo_take (i:=26) (some 54) (v:=?v26_a) rfl rfl (by kernel_rfl) (by kernel_rfl) (by kernel_rfl) (by kernel_rfl) (fun _ _ _ h=>h) hSd (Or.inl ⟨by rfl,?hy26_a⟩) ?rest26_a
       case hy26_a=>(intro w hSw;(try dsimp only at hSw);go_simp;try with_reducible rfl)
       try simp only[Act.put,List.setIfInBounds_toArray,List.set_cons_zero,List.set_cons_succ]
       try rw[e2]
       refine wpTwo_take (i:=27) (some 55) (v:=?v27_a) rfl rfl (by kernel_rfl) (by kernel_rfl) (by kernel_rfl) (by kernel_rfl) (fun _ _ _ h=>h) hSd (Or.inl ⟨by rfl,?hy27_a⟩) ?rest27_a
       case hy27_a=>(intro w hSw;(try dsimp only at hSw);go_simp;try with_reducible rfl)
       try simp only[Act.put,List.setIfInBounds_toArray,List.set_cons_zero,List.set_cons_succ]
       refine wpTwo_done (by kernel_rfl) ?_ _
       clear hSd
       go_wp2_with fail
       go_roundg (k - (m+1))
       case measure=>omega
       case rel=>exact⟨m+1,by omega,rfl,by go_num,HF.out,hD⟩
      ·have HF:=hide (HYY.out (by rw[HSM.out,e2,decide_eq_true e1];rfl))
       go_upto_region 11 with fail
       obtain⟨D,hwd⟩:∃D,wr.drew=D:=⟨_,rfl⟩
       have hD:Below W.heap.size W D:=by rw[←hwd];exact bjoin (Below.refl _ _).drew HBR2.out
       have hSd:(fun X:World=>X.cell? ⟨w.heap.size,0,none⟩=some (.slice (some ⟨b,off,none⟩) xs.length cap)∧X.cell? ⟨b,p,none⟩=some (.int .i64 x.client)∧X.cell? ⟨b,p+1,none⟩=some (.string x.tag)∧X.cell? ⟨b,r,none⟩=some (.int .i64 y.client)∧X.cell? ⟨b,r+1,none⟩=some (.string y.tag)) D:=KS.out D hD
       refine wp_region_two (fun X:World=>X.cell? ⟨w.heap.size,0,none⟩=some (.slice (some ⟨b,off,none⟩) xs.length cap)∧X.cell? ⟨b,p,none⟩=some (.int .i64 x.client)∧X.cell? ⟨b,p+1,none⟩=some (.string x.tag)∧X.cell? ⟨b,r,none⟩=some (.int .i64 y.client)∧X.cell? ⟨b,r+1,none⟩=some (.string y.tag)) 28 (by kernel_rfl) ?_
       rw[hwd]
       clear hwd
       refine wpTwo_take (i:=0) (some 28) (v:=?v0_b) rfl rfl (by kernel_rfl) (by kernel_rfl) (by kernel_rfl) (by kernel_rfl) (fun _ _ _ h=>h) hSd (Or.inl ⟨by rfl,?hy0_b⟩) ?rest0_b
       case hy0_b=>(intro w hSw;(try dsimp only at hSw);go_simp;try with_reducible rfl)
       try simp only[Act.put,List.setIfInBounds_toArray,List.set_cons_zero,List.set_cons_succ]
       refine wpTwo_take (i:=1) (some 29) (v:=?v1_b) rfl rfl (by kernel_rfl) (by kernel_rfl) (by kernel_rfl) (by kernel_rfl) (fun _ _ _ h=>h) hSd (Or.inl ⟨by rfl,?hy1_b⟩) ?rest1_b
       case hy1_b=>(intro w hSw;(try dsimp only at hSw);go_simp;try with_reducible rfl)
       try simp only[Act.put,List.setIfInBounds_toArray,List.set_cons_zero,List.set_cons_succ]
       refine wpTwo_take (i:=2) (some 30) (v:=?v2_b) rfl rfl (by kernel_rfl) (by kernel_rfl) (by kernel_rfl) (by kernel_rfl) (fun _ _ _ h=>h) hSd (Or.inl ⟨by rfl,?hy2_b⟩) ?rest2_b
       case hy2_b=>(intro w hSw;(try dsimp only at hSw);go_simp;try with_reducible rfl)
       try simp only[Act.put,List.setIfInBounds_toArray,List.set_cons_zero,List.set_cons_succ]
       refine wpTwo_take (i:=3) (some 31) (v:=?v3_b) rfl rfl (by kernel_rfl) (by kernel_rfl) (by kernel_rfl) (by kernel_rfl) (fun _ _ _ h=>h) hSd (Or.inl ⟨by rfl,?hy3_b⟩) ?rest3_b
       case hy3_b=>(intro w hSw;(try dsimp only at hSw);go_simp;try with_reducible rfl)
       try simp only[Act.put,List.setIfInBounds_toArray,List.set_cons_zero,List.set_cons_succ]
       refine wpTwo_take (i:=4) (some 32) (v:=?v4_b) rfl rfl (by kernel_rfl) (by kernel_rfl) (by kernel_rfl) (by kernel_rfl) (fun _ _ _ h=>h) hSd (Or.inl ⟨by rfl,?hy4_b⟩) ?rest4_b
       case hy4_b=>(intro w hSw;(try dsimp only at hSw);go_simp;try with_reducible rfl)
       try simp only[Act.put,List.setIfInBounds_toArray,List.set_cons_zero,List.set_cons_succ]
       refine wpTwo_take (i:=5) (some 33) (v:=?v5_b) rfl rfl (by kernel_rfl) (by kernel_rfl) (by kernel_rfl) (by kernel_rfl) (fun _ _ _ h=>h) hSd (Or.inl ⟨by rfl,?hy5_b⟩) ?rest5_b
       case hy5_b=>(intro w hSw;(try dsimp only at hSw);go_simp;try with_reducible rfl)
       try simp only[Act.put,List.setIfInBounds_toArray,List.set_cons_zero,List.set_cons_succ]
       refine wpTwo_take (i:=6) (some 34) (v:=?v6_b) rfl rfl (by kernel_rfl) (by kernel_rfl) (by kernel_rfl) (by kernel_rfl) (fun _ _ _ h=>h) hSd (Or.inl ⟨by rfl,?hy6_b⟩) ?rest6_b
       case hy6_b=>(intro w hSw;(try dsimp only at hSw);go_simp;try with_reducible rfl)
       try simp only[Act.put,List.setIfInBounds_toArray,List.set_cons_zero,List.set_cons_succ]
       refine wpTwo_take (i:=7) (some 35) (v:=?v7_b) rfl rfl (by kernel_rfl) (by kernel_rfl) (by kernel_rfl) (by kernel_rfl) (fun _ _ _ h=>h) hSd (Or.inl ⟨by rfl,?hy7_b⟩) ?rest7_b
       case hy7_b=>(intro w hSw;(try dsimp only at hSw);go_simp;try with_reducible rfl)
       try simp only[Act.put,List.setIfInBounds_toArray,List.set_cons_zero,List.set_cons_succ]
       refine wpTwo_take (i:=8) (some 36) (v:=?v8_b) rfl rfl (by kernel_rfl) (by kernel_rfl) (by kernel_rfl) (by kernel_rfl) (fun _ _ _ h=>h) hSd (Or.inl ⟨by rfl,?hy8_b⟩) ?rest8_b
       case hy8_b=>(intro w hSw;(try dsimp only at hSw);go_simp;try with_reducible rfl)
       try simp only[Act.put,List.setIfInBounds_toArray,List.set_cons_zero,List.set_cons_succ]
       refine wpTwo_take (i:=9) (some 37) (v:=?v9_b) rfl rfl (by kernel_rfl) (by kernel_rfl) (by kernel_rfl) (by kernel_rfl) (fun _ _ _ h=>h) hSd (Or.inl ⟨by rfl,?hy9_b⟩) ?rest9_b
       case hy9_b=>(intro w hSw;(try dsimp only at hSw);go_simp;try with_reducible rfl)
       try simp only[Act.put,List.setIfInBounds_toArray,List.set_cons_zero,List.set_cons_succ]
       refine wpTwo_take (i:=10) (some 38) (v:=?v10_b) rfl rfl (by kernel_rfl) (by kernel_rfl) (by kernel_rfl) (by kernel_rfl) (fun _ _ _ h=>h) hSd (Or.inl ⟨by rfl,?hy10_b⟩) ?rest10_b
       case hy10_b=>(intro w hSw;(try dsimp only at hSw);go_simp;try with_reducible rfl)
       try simp only[Act.put,List.setIfInBounds_toArray,List.set_cons_zero,List.set_cons_succ]
       refine wpTwo_take (i:=11) (some 39) (v:=?v11_b) rfl rfl (by kernel_rfl) (by kernel_rfl) (by kernel_rfl) (by kernel_rfl) (fun _ _ _ h=>h) hSd (Or.inl ⟨by rfl,?hy11_b⟩) ?rest11_b
       case hy11_b=>(intro w hSw;(try dsimp only at hSw);go_simp;try with_reducible rfl)
       try simp only[Act.put,List.setIfInBounds_toArray,List.set_cons_zero,List.set_cons_succ]
       refine wpTwo_take (i:=12) (some 40) (v:=?v12_b) rfl rfl (by kernel_rfl) (by kernel_rfl) (by kernel_rfl) (by kernel_rfl) (fun _ _ _ h=>h) hSd (Or.inl ⟨by rfl,?hy12_b⟩) ?rest12_b
       case hy12_b=>(intro w hSw;(try dsimp only at hSw);go_simp;try with_reducible rfl)
       try simp only[Act.put,List.setIfInBounds_toArray,List.set_cons_zero,List.set_cons_succ]
       try rw[e1b]
       refine wpTwo_take (i:=13) (some 41) (v:=?v13_b) rfl rfl (by kernel_rfl) (by kernel_rfl) (by kernel_rfl) (by kernel_rfl) (fun _ _ _ h=>h) hSd (Or.inl ⟨by rfl,?hy13_b⟩) ?rest13_b
       case hy13_b=>(intro w hSw;(try dsimp only at hSw);go_simp;try with_reducible rfl)
       try simp only[Act.put,List.setIfInBounds_toArray,List.set_cons_zero,List.set_cons_succ]
       try rw[e1b]
       refine wpTwo_take (i:=14) (some 42) (v:=?v14_b) rfl rfl (by kernel_rfl) (by kernel_rfl) (by kernel_rfl) (by kernel_rfl) (fun _ _ _ h=>h) hSd (Or.inl ⟨by rfl,?hy14_b⟩) ?rest14_b
       case hy14_b=>(intro w hSw;(try dsimp only at hSw);go_simp;try with_reducible rfl)
       try simp only[Act.put,List.setIfInBounds_toArray,List.set_cons_zero,List.set_cons_succ]
       refine wpTwo_take (i:=15) (some 43) (v:=?v15_b) rfl rfl (by kernel_rfl) (by kernel_rfl) (by kernel_rfl) (by kernel_rfl) (fun _ _ _ h=>h) hSd (Or.inl ⟨by rfl,?hy15_b⟩) ?rest15_b
       case hy15_b=>(intro w hSw;(try dsimp only at hSw);go_simp;try with_reducible rfl)
       try simp only[Act.put,List.setIfInBounds_toArray,List.set_cons_zero,List.set_cons_succ]
       refine wpTwo_take (i:=16) (some 44) (v:=?v16_b) rfl rfl (by kernel_rfl) (by kernel_rfl) (by kernel_rfl) (by kernel_rfl) (fun _ _ _ h=>h) hSd (Or.inl ⟨by rfl,?hy16_b⟩) ?rest16_b
       case hy16_b=>(intro w hSw;(try dsimp only at hSw);go_simp;try with_reducible rfl)
       try simp only[Act.put,List.setIfInBounds_toArray,List.set_cons_zero,List.set_cons_succ]
       refine wpTwo_take (i:=17) (some 45) (v:=?v17_b) rfl rfl (by kernel_rfl) (by kernel_rfl) (by kernel_rfl) (by kernel_rfl) (fun _ _ _ h=>h) hSd (Or.inl ⟨by rfl,?hy17_b⟩) ?rest17_b
       case hy17_b=>(intro w hSw;(try dsimp only at hSw);go_simp;try with_reducible rfl)
       try simp only[Act.put,List.setIfInBounds_toArray,List.set_cons_zero,List.set_cons_succ]
       refine wpTwo_take (i:=18) (some 46) (v:=?v18_b) rfl rfl (by kernel_rfl) (by kernel_rfl) (by kernel_rfl) (by kernel_rfl) (fun _ _ _ h=>h) hSd (Or.inl ⟨by rfl,?hy18_b⟩) ?rest18_b
       case hy18_b=>(intro w hSw;(try dsimp only at hSw);go_simp;try with_reducible rfl)
       try simp only[Act.put,List.setIfInBounds_toArray,List.set_cons_zero,List.set_cons_succ]
       refine wpTwo_take (i:=19) (some 47) (v:=?v19_b) rfl rfl (by kernel_rfl) (by kernel_rfl) (by kernel_rfl) (by kernel_rfl) (fun _ _ _ h=>h) hSd (Or.inl ⟨by rfl,?hy19_b⟩) ?rest19_b
       case hy19_b=>(intro w hSw;(try dsimp only at hSw);go_simp;try with_reducible rfl)
       try simp only[Act.put,List.setIfInBounds_toArray,List.set_cons_zero,List.set_cons_succ]
       refine wpTwo_take (i:=20) (some 48) (v:=?v20_b) rfl rfl (by kernel_rfl) (by kernel_rfl) (by kernel_rfl) (by kernel_rfl) (fun _ _ _ h=>h) hSd (Or.inl ⟨by rfl,?hy20_b⟩) ?rest20_b
       case hy20_b=>(intro w hSw;(try dsimp only at hSw);go_simp;try with_reducible rfl)
       try simp only[Act.put,List.setIfInBounds_toArray,List.set_cons_zero,List.set_cons_succ]
       refine wpTwo_take (i:=21) (some 49) (v:=?v21_b) rfl rfl (by kernel_rfl) (by kernel_rfl) (by kernel_rfl) (by kernel_rfl) (fun _ _ _ h=>h) hSd (Or.inl ⟨by rfl,?hy21_b⟩) ?rest21_b
       case hy21_b=>(intro w hSw;(try dsimp only at hSw);go_simp;try with_reducible rfl)
       try simp only[Act.put,List.setIfInBounds_toArray,List.set_cons_zero,List.set_cons_succ]
       refine wpTwo_take (i:=22) (some 50) (v:=?v22_b) rfl rfl (by kernel_rfl) (by kernel_rfl) (by kernel_rfl) (by kernel_rfl) (fun _ _ _ h=>h) hSd (Or.inl ⟨by rfl,?hy22_b⟩) ?rest22_b
       case hy22_b=>(intro w hSw;(try dsimp only at hSw);go_simp;try with_reducible rfl)
       try simp only[Act.put,List.setIfInBounds_toArray,List.set_cons_zero,List.set_cons_succ]
       refine wpTwo_take (i:=23) (some 51) (v:=?v23_b) rfl rfl (by kernel_rfl) (by kernel_rfl) (by kernel_rfl) (by kernel_rfl) (fun _ _ _ h=>h) hSd (Or.inl ⟨by rfl,?hy23_b⟩) ?rest23_b
       case hy23_b=>(intro w hSw;(try dsimp only at hSw);go_simp;try with_reducible rfl)
       try simp only[Act.put,List.setIfInBounds_toArray,List.set_cons_zero,List.set_cons_succ]
       refine wpTwo_take (i:=24) (some 52) (v:=?v24_b) rfl rfl (by kernel_rfl) (by kernel_rfl) (by kernel_rfl) (by kernel_rfl) (fun _ _ _ h=>h) hSd (Or.inl ⟨by rfl,?hy24_b⟩) ?rest24_b
       case hy24_b=>(intro w hSw;(try dsimp only at hSw);go_simp;try with_reducible rfl)
       try simp only[Act.put,List.setIfInBounds_toArray,List.set_cons_zero,List.set_cons_succ]
       refine wpTwo_take (i:=25) (some 53) (v:=?v25_b) rfl rfl (by kernel_rfl) (by kernel_rfl) (by kernel_rfl) (by kernel_rfl) (fun _ _ _ h=>h) hSd (Or.inl ⟨by rfl,?hy25_b⟩) ?rest25_b
       case hy25_b=>(intro w hSw;(try dsimp only at hSw);go_simp;try with_reducible rfl)
       try simp only[Act.put,List.setIfInBounds_toArray,List.set_cons_zero,List.set_cons_succ]
       refine wpTwo_take (i:=26) (some 54) (v:=?v26_b) rfl rfl (by kernel_rfl) (by kernel_rfl) (by kernel_rfl) (by kernel_rfl) (fun _ _ _ h=>h) hSd (Or.inl ⟨by rfl,?hy26_b⟩) ?rest26_b
       case hy26_b=>(intro w hSw;(try dsimp only at hSw);go_simp;try with_reducible rfl)
       try simp only[Act.put,List.setIfInBounds_toArray,List.set_cons_zero,List.set_cons_succ]
       try rw[e2]
       refine wpTwo_take (i:=27) (some 55) (v:=?v27_b) rfl rfl (by kernel_rfl) (by kernel_rfl) (by kernel_rfl) (by kernel_rfl) (fun _ _ _ h=>h) hSd (Or.inl ⟨by rfl,?hy27_b⟩) ?rest27_b
       case hy27_b=>(intro w hSw;(try dsimp only at hSw);go_simp;try with_reducible rfl)
       try simp only[Act.put,List.setIfInBounds_toArray,List.set_cons_zero,List.set_cons_succ]
       refine wpTwo_done (by kernel_rfl) ?_ _
       clear hSd
       go_wp2_with fail
       go_ret
       exact⟨ret_bool HF.out.symm,bjoin hD HB.out⟩
     ·have e1b:(x.client == y.client)=false:=by simpa using e1
      have HF:=hide (HNN.out (by rw[HSM.out,decide_eq_false e1,Bool.false_and]))
      go_upto_region 11 with fail
      obtain⟨D,hwd⟩:∃D,wr.drew=D:=⟨_,rfl⟩
      have hD:Below W.heap.size W D:=by rw[←hwd];exact bjoin (Below.refl _ _).drew HBR2.out
      have hSd:(fun X:World=>X.cell? ⟨w.heap.size,0,none⟩=some (.slice (some ⟨b,off,none⟩) xs.length cap)∧X.cell? ⟨b,p,none⟩=some (.int .i64 x.client)∧X.cell? ⟨b,p+1,none⟩=some (.string x.tag)∧X.cell? ⟨b,r,none⟩=some (.int .i64 y.client)∧X.cell? ⟨b,r+1,none⟩=some (.string y.tag)) D:=KS.out D hD
      refine wp_region_two (fun X:World=>X.cell? ⟨w.heap.size,0,none⟩=some (.slice (some ⟨b,off,none⟩) xs.length cap)∧X.cell? ⟨b,p,none⟩=some (.int .i64 x.client)∧X.cell? ⟨b,p+1,none⟩=some (.string x.tag)∧X.cell? ⟨b,r,none⟩=some (.int .i64 y.client)∧X.cell? ⟨b,r+1,none⟩=some (.string y.tag)) 28 (by kernel_rfl) ?_
      rw[hwd]
      clear hwd
      refine wpTwo_take (i:=0) (some 28) (v:=?v0_c) rfl rfl (by kernel_rfl) (by kernel_rfl) (by kernel_rfl) (by kernel_rfl) (fun _ _ _ h=>h) hSd (Or.inl ⟨by rfl,?hy0_c⟩) ?rest0_c
      case hy0_c=>(intro w hSw;(try dsimp only at hSw);go_simp;try with_reducible rfl)
      try simp only[Act.put,List.setIfInBounds_toArray,List.set_cons_zero,List.set_cons_succ]
      refine wpTwo_take (i:=1) (some 29) (v:=?v1_c) rfl rfl (by kernel_rfl) (by kernel_rfl) (by kernel_rfl) (by kernel_rfl) (fun _ _ _ h=>h) hSd (Or.inl ⟨by rfl,?hy1_c⟩) ?rest1_c
      case hy1_c=>(intro w hSw;(try dsimp only at hSw);go_simp;try with_reducible rfl)
      try simp only[Act.put,List.setIfInBounds_toArray,List.set_cons_zero,List.set_cons_succ]
      refine wpTwo_take (i:=2) (some 30) (v:=?v2_c) rfl rfl (by kernel_rfl) (by kernel_rfl) (by kernel_rfl) (by kernel_rfl) (fun _ _ _ h=>h) hSd (Or.inl ⟨by rfl,?hy2_c⟩) ?rest2_c
      case hy2_c=>(intro w hSw;(try dsimp only at hSw);go_simp;try with_reducible rfl)
      try simp only[Act.put,List.setIfInBounds_toArray,List.set_cons_zero,List.set_cons_succ]
      refine wpTwo_take (i:=3) (some 31) (v:=?v3_c) rfl rfl (by kernel_rfl) (by kernel_rfl) (by kernel_rfl) (by kernel_rfl) (fun _ _ _ h=>h) hSd (Or.inl ⟨by rfl,?hy3_c⟩) ?rest3_c
      case hy3_c=>(intro w hSw;(try dsimp only at hSw);go_simp;try with_reducible rfl)
      try simp only[Act.put,List.setIfInBounds_toArray,List.set_cons_zero,List.set_cons_succ]
      refine wpTwo_take (i:=4) (some 32) (v:=?v4_c) rfl rfl (by kernel_rfl) (by kernel_rfl) (by kernel_rfl) (by kernel_rfl) (fun _ _ _ h=>h) hSd (Or.inl ⟨by rfl,?hy4_c⟩) ?rest4_c
      case hy4_c=>(intro w hSw;(try dsimp only at hSw);go_simp;try with_reducible rfl)
      try simp only[Act.put,List.setIfInBounds_toArray,List.set_cons_zero,List.set_cons_succ]
      refine wpTwo_take (i:=5) (some 33) (v:=?v5_c) rfl rfl (by kernel_rfl) (by kernel_rfl) (by kernel_rfl) (by kernel_rfl) (fun _ _ _ h=>h) hSd (Or.inl ⟨by rfl,?hy5_c⟩) ?rest5_c
      case hy5_c=>(intro w hSw;(try dsimp only at hSw);go_simp;try with_reducible rfl)
      try simp only[Act.put,List.setIfInBounds_toArray,List.set_cons_zero,List.set_cons_succ]
      refine wpTwo_take (i:=6) (some 34) (v:=?v6_c) rfl rfl (by kernel_rfl) (by kernel_rfl) (by kernel_rfl) (by kernel_rfl) (fun _ _ _ h=>h) hSd (Or.inl ⟨by rfl,?hy6_c⟩) ?rest6_c
      case hy6_c=>(intro w hSw;(try dsimp only at hSw);go_simp;try with_reducible rfl)
      try simp only[Act.put,List.setIfInBounds_toArray,List.set_cons_zero,List.set_cons_succ]
      refine wpTwo_take (i:=7) (some 35) (v:=?v7_c) rfl rfl (by kernel_rfl) (by kernel_rfl) (by kernel_rfl) (by kernel_rfl) (fun _ _ _ h=>h) hSd (Or.inl ⟨by rfl,?hy7_c⟩) ?rest7_c
      case hy7_c=>(intro w hSw;(try dsimp only at hSw);go_simp;try with_reducible rfl)
      try simp only[Act.put,List.setIfInBounds_toArray,List.set_cons_zero,List.set_cons_succ]
      refine wpTwo_take (i:=8) (some 36) (v:=?v8_c) rfl rfl (by kernel_rfl) (by kernel_rfl) (by kernel_rfl) (by kernel_rfl) (fun _ _ _ h=>h) hSd (Or.inl ⟨by rfl,?hy8_c⟩) ?rest8_c
      case hy8_c=>(intro w hSw;(try dsimp only at hSw);go_simp;try with_reducible rfl)
      try simp only[Act.put,List.setIfInBounds_toArray,List.set_cons_zero,List.set_cons_succ]
      refine wpTwo_take (i:=9) (some 37) (v:=?v9_c) rfl rfl (by kernel_rfl) (by kernel_rfl) (by kernel_rfl) (by kernel_rfl) (fun _ _ _ h=>h) hSd (Or.inl ⟨by rfl,?hy9_c⟩) ?rest9_c
      case hy9_c=>(intro w hSw;(try dsimp only at hSw);go_simp;try with_reducible rfl)
      try simp only[Act.put,List.setIfInBounds_toArray,List.set_cons_zero,List.set_cons_succ]
      refine wpTwo_take (i:=10) (some 38) (v:=?v10_c) rfl rfl (by kernel_rfl) (by kernel_rfl) (by kernel_rfl) (by kernel_rfl) (fun _ _ _ h=>h) hSd (Or.inl ⟨by rfl,?hy10_c⟩) ?rest10_c
      case hy10_c=>(intro w hSw;(try dsimp only at hSw);go_simp;try with_reducible rfl)
      try simp only[Act.put,List.setIfInBounds_toArray,List.set_cons_zero,List.set_cons_succ]
      refine wpTwo_take (i:=11) (some 39) (v:=?v11_c) rfl rfl (by kernel_rfl) (by kernel_rfl) (by kernel_rfl) (by kernel_rfl) (fun _ _ _ h=>h) hSd (Or.inl ⟨by rfl,?hy11_c⟩) ?rest11_c
      case hy11_c=>(intro w hSw;(try dsimp only at hSw);go_simp;try with_reducible rfl)
      try simp only[Act.put,List.setIfInBounds_toArray,List.set_cons_zero,List.set_cons_succ]
      refine wpTwo_take (i:=12) (some 40) (v:=?v12_c) rfl rfl (by kernel_rfl) (by kernel_rfl) (by kernel_rfl) (by kernel_rfl) (fun _ _ _ h=>h) hSd (Or.inl ⟨by rfl,?hy12_c⟩) ?rest12_c
      case hy12_c=>(intro w hSw;(try dsimp only at hSw);go_simp;try with_reducible rfl)
      try simp only[Act.put,List.setIfInBounds_toArray,List.set_cons_zero,List.set_cons_succ]
      try rw[e1b]
      refine wpTwo_take (i:=13) (some 41) (v:=?v13_c) rfl rfl (by kernel_rfl) (by kernel_rfl) (by kernel_rfl) (by kernel_rfl) (fun _ _ _ h=>h) hSd (Or.inl ⟨by rfl,?hy13_c⟩) ?rest13_c
      case hy13_c=>(intro w hSw;(try dsimp only at hSw);go_simp;try with_reducible rfl)
      try simp only[Act.put,List.setIfInBounds_toArray,List.set_cons_zero,List.set_cons_succ]
      try rw[e1b]
      refine wpTwo_take (i:=14) (some 42) (v:=undef) rfl rfl (by kernel_rfl) (by kernel_rfl) (by kernel_rfl) (by kernel_rfl) (fun _ _ _ h=>h) hSd (Or.inr ⟨by rfl,rfl⟩) ?rest14_c
      try simp only[Act.put,List.setIfInBounds_toArray,List.set_cons_zero,List.set_cons_succ]
      refine wpTwo_take (i:=15) (some 43) (v:=undef) rfl rfl (by kernel_rfl) (by kernel_rfl) (by kernel_rfl) (by kernel_rfl) (fun _ _ _ h=>h) hSd (Or.inr ⟨by rfl,rfl⟩) ?rest15_c
      try simp only[Act.put,List.setIfInBounds_toArray,List.set_cons_zero,List.set_cons_succ]
      refine wpTwo_take (i:=16) (some 44) (v:=undef) rfl rfl (by kernel_rfl) (by kernel_rfl) (by kernel_rfl) (by kernel_rfl) (fun _ _ _ h=>h) hSd (Or.inr ⟨by rfl,rfl⟩) ?rest16_c
      try simp only[Act.put,List.setIfInBounds_toArray,List.set_cons_zero,List.set_cons_succ]
      refine wpTwo_take (i:=17) (some 45) (v:=undef) rfl rfl (by kernel_rfl) (by kernel_rfl) (by kernel_rfl) (by kernel_rfl) (fun _ _ _ h=>h) hSd (Or.inr ⟨by rfl,rfl⟩) ?rest17_c
      try simp only[Act.put,List.setIfInBounds_toArray,List.set_cons_zero,List.set_cons_succ]
      refine wpTwo_take (i:=18) (some 46) (v:=undef) rfl rfl (by kernel_rfl) (by kernel_rfl) (by kernel_rfl) (by kernel_rfl) (fun _ _ _ h=>h) hSd (Or.inr ⟨by rfl,rfl⟩) ?rest18_c
      try simp only[Act.put,List.setIfInBounds_toArray,List.set_cons_zero,List.set_cons_succ]
      refine wpTwo_take (i:=19) (some 47) (v:=undef) rfl rfl (by kernel_rfl) (by kernel_rfl) (by kernel_rfl) (by kernel_rfl) (fun _ _ _ h=>h) hSd (Or.inr ⟨by rfl,rfl⟩) ?rest19_c
      try simp only[Act.put,List.setIfInBounds_toArray,List.set_cons_zero,List.set_cons_succ]
      refine wpTwo_take (i:=20) (some 48) (v:=undef) rfl rfl (by kernel_rfl) (by kernel_rfl) (by kernel_rfl) (by kernel_rfl) (fun _ _ _ h=>h) hSd (Or.inr ⟨by rfl,rfl⟩) ?rest20_c
      try simp only[Act.put,List.setIfInBounds_toArray,List.set_cons_zero,List.set_cons_succ]
      refine wpTwo_take (i:=21) (some 49) (v:=undef) rfl rfl (by kernel_rfl) (by kernel_rfl) (by kernel_rfl) (by kernel_rfl) (fun _ _ _ h=>h) hSd (Or.inr ⟨by rfl,rfl⟩) ?rest21_c
      try simp only[Act.put,List.setIfInBounds_toArray,List.set_cons_zero,List.set_cons_succ]
      refine wpTwo_take (i:=22) (some 50) (v:=undef) rfl rfl (by kernel_rfl) (by kernel_rfl) (by kernel_rfl) (by kernel_rfl) (fun _ _ _ h=>h) hSd (Or.inr ⟨by rfl,rfl⟩) ?rest22_c
      try simp only[Act.put,List.setIfInBounds_toArray,List.set_cons_zero,List.set_cons_succ]
      refine wpTwo_take (i:=23) (some 51) (v:=undef) rfl rfl (by kernel_rfl) (by kernel_rfl) (by kernel_rfl) (by kernel_rfl) (fun _ _ _ h=>h) hSd (Or.inr ⟨by rfl,rfl⟩) ?rest23_c
      try simp only[Act.put,List.setIfInBounds_toArray,List.set_cons_zero,List.set_cons_succ]
      refine wpTwo_take (i:=24) (some 52) (v:=undef) rfl rfl (by kernel_rfl) (by kernel_rfl) (by kernel_rfl) (by kernel_rfl) (fun _ _ _ h=>h) hSd (Or.inr ⟨by rfl,rfl⟩) ?rest24_c
      try simp only[Act.put,List.setIfInBounds_toArray,List.set_cons_zero,List.set_cons_succ]
      refine wpTwo_take (i:=25) (some 53) (v:=undef) rfl rfl (by kernel_rfl) (by kernel_rfl) (by kernel_rfl) (by kernel_rfl) (fun _ _ _ h=>h) hSd (Or.inr ⟨by rfl,rfl⟩) ?rest25_c
      try simp only[Act.put,List.setIfInBounds_toArray,List.set_cons_zero,List.set_cons_succ]
      refine wpTwo_take (i:=26) (some 54) (v:=undef) rfl rfl (by kernel_rfl) (by kernel_rfl) (by kernel_rfl) (by kernel_rfl) (fun _ _ _ h=>h) hSd (Or.inr ⟨by rfl,rfl⟩) ?rest26_c
      try simp only[Act.put,List.setIfInBounds_toArray,List.set_cons_zero,List.set_cons_succ]
      refine wpTwo_take (i:=27) (some 55) (v:=?v27_c) rfl rfl (by kernel_rfl) (by kernel_rfl) (by kernel_rfl) (by kernel_rfl) (fun _ _ _ h=>h) hSd (Or.inl ⟨by rfl,?hy27_c⟩) ?rest27_c
      case hy27_c=>(intro w hSw;(try dsimp only at hSw);go_simp;try with_reducible rfl)
      try simp only[Act.put,List.setIfInBounds_toArray,List.set_cons_zero,List.set_cons_succ]
      refine wpTwo_done (by kernel_rfl) ?_ _
      clear hSd
      go_wp2_with fail
      go_roundg (k - (m+1))
      case measure=>omega
      case rel=>exact⟨m+1,by omega,rfl,by go_num,HF.out,hD⟩
    ·obtain rfl:m=k:=by omega
     have hmi:¬(m:Int)<(m:Int):=by omega
     have HPK:=hide (HPO.out hs (fun j hj=>HNO.out j hj hj))
     go_wp2_with fail
     go_roundg (xs.length - (m+1))
     case measure=>omega
     case rel=>exact⟨m+1,by omega,rfl,by go_num,fun j hj hjm=>by
      by_cases e:j=m
      ·subst e;exact HPK.out
      ·exact HOK.out j hj (by omega),HBR2.out⟩
  ·obtain rfl:k=xs.length:=by omega
   have hki:¬(xs.length:Int)<(xs.length:Int):=by omega
   have HX:Hid (tblB xs=true):=by
    show _=_
    unfold tblB
    rw[decide_eq_true (p:=xs.length≤16) (by omega),decide_eq_true (p:=∀i (h:i<xs.length),placeOk xs i h) (fun i h=>HOK.out i h h)]
    rfl
   go_wp2_with fail
   go_ret
   exact⟨ret_bool HX.out.symm,bjoin HBR.out HB.out⟩
end Go.Proofs.YtglcdcekkglmiaaGreatDoor.Msg
