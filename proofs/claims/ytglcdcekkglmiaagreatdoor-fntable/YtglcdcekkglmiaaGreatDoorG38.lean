import Derived.Test.YtglcdcekkglmiaaGreatDoorG23
import Derived.Test.YtglcdcekkglmiaaGreatDoorG14
import Derived.Deep.DeepCutAuto
namespace Go.Proofs.YtglcdcekkglmiaaGreatDoor.Msg
open Go.ChangeShapes Go.WideShapes Go.ChangeAt Go.RowKit
set_option linter.unusedVariables false
set_option linter.unusedSimpArgs false
def CSt (rv:Value) (X0 X:World) (v:Value) (cs:List Chg):Prop:=FB (snC rv) 7 28 X0.heap.size X v cs∧Below X0.heap.size X0 X
theorem CSt.more {a9:Option Addr} {n9 c9:Nat} {X0 X:World} {v:Value} {cs:List Chg} (h:CSt (.slice a9 n9 c9) X0 X v cs) (c:Chg) (hl:cs.length≤100) {n:Nat} (hn:cs.length=n) :
  ∃a' c' w',(Builtin.append_ #[69,69] 69 #[v,.slice (some ⟨X.heap.size,0,none⟩) 1 1]).run Tryz.prog (X.alloc (.cells (snC (.slice a9 n9 c9) c).toArray 28))=.ok (.slice a' (n+1) c') w'∧CSt (.slice a9 n9 c9) X0 w' (.slice a' (n+1) c') (cs++[c]):=by
 obtain⟨a',c',w',hr,hF,hO,_⟩:=row_more (C:=snC (.slice a9 n9 c9)) (c:=7) (bytes:=88) (e:=28) Tryz.underlying69 info_Chg rfl (by decide) h.1 c rfl (cgC_one _ _ _ _) h.2.size hn (by omega) (by decide)
 exact⟨a',c',w',hr,hF,h.2.trans (hO.below h.2.size fun d hd=>(h.1.own d hd).1)⟩
theorem box7s {W:World} {b:Nat} {t:TypeId} {y0 y1 y2 y3 y4 y5 y6:Value} (h:Box W b t #[y0,y1,y2,y3,y4,y5,y6]):W.cell? ⟨b,0,none⟩=some y0∧W.cell? ⟨b,1,none⟩=some y1∧W.cell? ⟨b,2,none⟩=some y2∧W.cell? ⟨b,3,none⟩=some y3∧W.cell? ⟨b,4,none⟩=some y4∧W.cell? ⟨b,5,none⟩=some y5∧W.cell? ⟨b,6,none⟩=some y6 :=
 ⟨h.cell 0 (by simp),h.cell 1 (by simp),h.cell 2 (by simp),h.cell 3 (by simp),h.cell 4 (by simp),h.cell 5 (by simp),h.cell 6 (by simp)⟩
set_option maxRecDepth 100000 in
set_option maxHeartbeats 16000000 in
theorem snapS_any (xs:List Sess) (v:Value) (w:World) {lo:Nat} (hv:SesssAt lo w v xs) :
  Calls Tryz.prog 13 #[.agg #[v]] w fun e w'=>e=.returned (.string (snapB xs))∧Below w.heap.size w w':=by
 obtain⟨a,cap,rfl,_⟩:=At.form hv
 obtain⟨n,hnn⟩:∃n,xs.length=n:=⟨_,rfl⟩
 have HN:=hide hnn
 obtain⟨w1,hw1⟩:∃w1,w.alloc (Obj.cells #[.slice a xs.length cap] 25)=w1:=⟨_,rfl⟩
 have hb1:Below w.heap.size w w1:=by rw[←hw1];exact alcB _ _
 have hs1:w1.heap.size=w.heap.size+1:=by rw[←hw1];simp
 have HXT:Hid (Box w1 w.heap.size 25 #[.slice a xs.length cap]):=by rw[←hw1];exact Box.new _ _ _
 have HV:Hid (∀X,Below w1.heap.size w1 X→SesssAt lo X (.slice a xs.length cap) xs):=fun X hX=>At.kept kept_sess hv (bjoin hX hb1)
 have HTO:=hide (tableOk_any xs _ w1 (HV.out w1 (Below.refl _ _)))
 have HB1:=hide hb1
 have HSW1:=hide hs1
 rw[hnn] at HXT HV HTO hw1 ⊢
 have KD:Hid (∀X,Below w1.heap.size w1 X→X.cell? ⟨w.heap.size,0,none⟩=some (.slice a n cap)):=fun X hX=>(HXT.out.below hX).cell 0 (by simp)
 have HW1:=hide hw1
 have d0:=KD.out w1 (Below.refl _ _)
 clear hv hb1 hs1 hw1 hnn
 cases htb:tblB xs
 ·have HX:Hid (snapB xs=⟨#[]⟩):=by show _=_;unfold snapB;rw[htb];rfl
  rw[htb] at HTO
  go_enter Tryz.func13,Tryz.ntmps13
  go_wp2_with fail
  (try rw[HW1.out])
  refine HTO.out.mono ?_
  rintro e W1 ⟨rfl,hb⟩
  have HB:=hide (bjoin hb HB1.out)
  clear hb
  go_wp2_with fail
  go_ret
  exact⟨ret_string HX.out.symm,HB.out⟩
 have HX:Hid (snapB xs=⟨(outL xs).toArray⟩):=by show _=_;unfold snapB;rw[htb];rfl
 rw[htb] at HTO
 have HTB:=hide (tblB_sess htb)
 have hn16:n≤16:=by rw[←HN.out];exact HTB.out.1
 clear htb
 go_enter Tryz.func13,Tryz.ntmps13
 go_wp2_with fail
 (try rw[HW1.out])
 refine HTO.out.mono ?_
 rintro e W1 ⟨rfl,hb⟩
 have HBW:=hide hb
 obtain⟨W2,hW2⟩:∃x,W1.alloc (Obj.cells #[] 5)=x:=⟨_,rfl⟩
 have HBUF:Hid (Buf w1.heap.size W2 (.slice (some ⟨W1.heap.size,0,none⟩) 0 0) []):=by rw[←hW2];exact Buf.empty_at _ W1 hb.size
 have HB2:Hid (Below w1.heap.size w1 W2):=by rw[←hW2];exact hb.alloc hb.size _
 have HW2:=hide hW2
 clear hb hW2 d0
 go_wp2_with fail
 (try rw[HW2.out])
 go_loopg [3,4] n (fun q out i wr=>∃(k L:Nat) (ao:Option Addr) (co:Nat),k≤n∧q=n - k∧out=.slice ao L co∧i=.int .i64 (k:Int)∧L=(outL (xs.take k)).length∧Buf w1.heap.size wr (.slice ao L co) (outL (xs.take k))∧Below w1.heap.size w1 wr)
 case atStart=>exact⟨0,0,_,_,zrL _,rfl,rfl,rfl,rfl,HBUF.out,HB2.out⟩
 case round =>
  obtain⟨k,L,ao,co,hk,rfl,rfl,rfl,hL,hBf,hbr⟩:=hrel
  obtain⟨Y,rfl⟩:∃x,x=wr:=⟨_,rfl⟩
  have HBF:=hide hBf
  have HBR:=hide hbr
  have HL:=hide hL
  have d0:=KD.out Y hbr
  clear hBf hbr hL
  by_cases hlt:k<n
  ·have hki:(k:Int)<(n:Int):=by omega
   have hk0:(0:Int)≤(k:Int):=by omega
   have hkl:k<xs.length:=by rw[HN.out];exact hlt
   obtain⟨s,hs⟩:∃s,xs[k]=s:=⟨_,rfl⟩
   have hsB:sessB s=true:=by rw[←hs];exact HTB.out.2 k hkl
   have HSB:=hide hsB
   have HSTEP:Hid (outL (xs.take (k+1))=outL (xs.take k)++snapL (pastS s)):=by show _=_;rw[outL_step xs k hkl,hs]
   obtain⟨a',cap',ea,hel⟩:=At.form (HV.out w1 (Below.refl _ _))
   rw[HN.out] at ea
   injection ea with e1 _ e3
   subst e1 e3
   obtain⟨b,off,rfl,_,hbl,g⟩:=hel k hkl
   rw[hs] at g
   obtain⟨p,hp⟩:∃p,off+k * 7=p:=⟨_,rfl⟩
   rw[hp] at g
   obtain⟨h0,h1,h2,h3,h4,h6,z1,z2,ve,h5,hrows⟩:=g
   have g0:=(HBR.out.cell (p:=⟨b,p,none⟩) hbl).trans h0
   have g1:=(HBR.out.cell (p:=⟨b,p+1,none⟩) hbl).trans h1
   have g2:=(HBR.out.cell (p:=⟨b,p+2,none⟩) hbl).trans h2
   have g3:=(HBR.out.cell (p:=⟨b,p+3,none⟩) hbl).trans h3
   have g4:=(HBR.out.cell (p:=⟨b,p+4,none⟩) hbl).trans h4
   have g5:=(HBR.out.cell (p:=⟨b,p+5,none⟩) hbl).trans h5
   have g6:=(HBR.out.cell (p:=⟨b,p+6,none⟩) hbl).trans h6
   clear h0 h1 h2 h3 h4 h5 h6
   obtain⟨ar,cr,rfl,_⟩:=At.form hrows
   obtain⟨nr,hnr⟩:∃q,s.rows.length=q:=⟨_,rfl⟩
   rw[hnr] at g5 hrows
   have HNR:=hide hnr
   obtain⟨X0,hX0⟩:∃x,Y.alloc (Obj.cells #[.int .i64 s.client,.string s.tag,.string s.query,.int .i64 s.page,.int .i64 s.state,.slice ar nr cr,.int .i64 s.cursor] 41)=x:=⟨_,rfl⟩
   have hbx:Below Y.heap.size Y X0:=by rw[←hX0];exact alcB _ _
   have hsx:X0.heap.size=Y.heap.size+1:=by rw[←hX0];simp
   have HBX:Hid (Box X0 Y.heap.size 41 #[.int .i64 s.client,.string s.tag,.string s.query,.int .i64 s.page,.int .i64 s.state,.slice ar nr cr,.int .i64 s.cursor]):=by rw[←hX0];exact Box.new _ _ _
   have KB:Hid (∀X,Below X0.heap.size X0 X→X.cell? ⟨Y.heap.size,0,none⟩=some (.int .i64 s.client)∧X.cell? ⟨Y.heap.size,1,none⟩=some (.string s.tag)∧X.cell? ⟨Y.heap.size,2,none⟩=some (.string s.query)∧X.cell? ⟨Y.heap.size,3,none⟩=some (.int .i64 s.page)∧X.cell? ⟨Y.heap.size,4,none⟩=some (.int .i64 s.state)∧X.cell? ⟨Y.heap.size,5,none⟩=some (.slice ar nr cr)∧X.cell? ⟨Y.heap.size,6,none⟩=some (.int .i64 s.cursor)):=fun X hX=>box7s (HBX.out.below hX)
   have HRW:Hid (∀X,Below w1.heap.size w1 X→StrsAt lo X (.slice ar nr cr) s.rows):=fun X hX=>At.kept kept_str hrows hX
   have HBF0:=hide (HBF.out.keep hbx)
   have HB0:=hide (bjoin hbx HBR.out)
   obtain⟨k0,k1,k2,k3,k4,k5,k6⟩:=KB.out X0 (Below.refl _ _)
   obtain⟨Y1,hY1⟩:∃x,X0.alloc (Obj.cells #[.int .i64 1,.int .i64 s.client,.string s.tag,.string s.query,.int .i64 s.page,.slice none 0 0,.int .i64 0] 28)=x:=⟨_,rfl⟩
   have HS1:Hid (CSt (.slice ar nr cr) X0 Y1 (.slice (some ⟨X0.heap.size,0,none⟩) 1 1) (pS0 s)):=by rw[←hY1];exact⟨FB.lit1 (cgC_len _) _ X0 (chO s),alcB _ _⟩
   have HX0:=hide hX0
   have HY1:=hide hY1
   clear hs hel hrows hbx hsx hX0 hY1 hsB hnr
   go_upto_region 8 with fail
   (try rw[HX0.out])
   clear g0 g1 g2 g3 g4 g5 g6 d0
   go_upto_region 9 with fail
   (try rw[HY1.out])
   clear k0 k1 k2 k3 k4 k5 k6
   have HN1:Hid ((pS0 s).length=1):=rfl
   have HP1:=hide (pS0_len s)
   obtain⟨k0,k1,k2,k3,k4,k5,k6⟩:=KB.out Y1 HS1.out.2
   go_upto_if 37 with fail
   go_cut [6] (fun s6 wx=>∃a c,s6=.slice a (pS1 s).length c∧CSt (.slice ar nr cr) X0 wx (.slice a (pS1 s).length c) (pS1 s))
   case first =>
    by_cases hcond:0<s.rows.length
    ·have HE:Hid (pS1 s=pS0 s++[chR s]):=if_pos hcond
     obtain⟨a',c',w',hr,hS'⟩:=HS1.out.more (chR s) (by have:=HP1.out;omega) (n:=1) HN1.out
     have hr':(Builtin.append_ #[69,69] 69 #[.slice (some ⟨X0.heap.size,0,none⟩) 1 1,.slice (some ⟨Y1.heap.size,0,none⟩) 1 1]).run Tryz.prog (Y1.alloc (.cells #[.int .i64 2,.int .i64 s.client,.string s.tag,.string ⟨#[]⟩,.int .i64 0,.slice ar nr cr,.int .i64 0] 28))=.ok (.slice a' (1+1) c') w':=hr
     have HS':=hide hS'
     have HLE:Hid ((pS1 s).length=1+1):=by show _=_;rw[HE.out,List.length_append,HN1.out];rfl
     have hq:(0:Int)<(nr:Int):=by have:=HNR.out;omega
     clear hr hS'
     go_wp2_with (first|(at_builtin;refine wpList_app rfl _ _ 69 rfl hr' (by first|rfl|simp[Act.eval,Act.put]) (by first|rfl|simp[Act.eval,Act.put]) ?_))
     go_meet
     case rel=>exact⟨a',c',by rw[HLE.out],by rw[HLE.out,HE.out];exact HS'.out⟩
    ·have HE:Hid (pS1 s=pS0 s):=if_neg hcond
     have hq:¬(0:Int)<(nr:Int):=by have:=HNR.out;omega
     go_wp2_with fail
     go_meet
     case rel=>exact⟨_,_,by rw[HE.out,HN1.out],by rw[HE.out,HN1.out];exact HS1.out⟩
   case rest =>
   clear k0 k1 k2 k3 k4 k5 k6
   obtain⟨Y2,rfl⟩:∃x,x=wc:=⟨_,rfl⟩
   obtain⟨a2,c2,rfl,hS2⟩:=hcut
   obtain⟨n2,hn2⟩:∃q,(pS1 s).length=q:=⟨_,rfl⟩
   rw[hn2] at hS2 ⊢
   have HS2:=hide hS2
   have HN2:=hide hn2
   have HP2:=hide (pS1_len s)
   clear hS2 hn2
   obtain⟨k0,k1,k2,k3,k4,k5,k6⟩:=KB.out Y2 HS2.out.2
   go_upto_if 50 with fail
   go_cut [6] (fun s6 wx=>∃a c,s6=.slice a (pS2 s).length c∧CSt (.slice ar nr cr) X0 wx (.slice a (pS2 s).length c) (pS2 s))
   case first =>
    by_cases hcond:s.state=2
    ·have HE:Hid (pS2 s=pS1 s++[ch0 3 s]):=if_pos hcond
     obtain⟨a',c',w',hr,hS'⟩:=HS2.out.more (ch0 3 s) (by have:=HP2.out;omega) (n:=n2) HN2.out
     have hr':(Builtin.append_ #[69,69] 69 #[.slice a2 n2 c2,.slice (some ⟨Y2.heap.size,0,none⟩) 1 1]).run Tryz.prog (Y2.alloc (.cells #[.int .i64 3,.int .i64 s.client,.string s.tag,.string ⟨#[]⟩,.int .i64 0,.slice none 0 0,.int .i64 0] 28))=.ok (.slice a' (n2+1) c') w':=hr
     have HS':=hide hS'
     have HLE:Hid ((pS2 s).length=n2+1):=by show _=_;rw[HE.out,List.length_append,HN2.out];rfl
     have hq:(s.state == 2)=true:=by simpa using hcond
     clear hr hS'
     go_wp2_with (first|(at_builtin;refine wpList_app rfl _ _ 69 rfl hr' (by first|rfl|simp[Act.eval,Act.put]) (by first|rfl|simp[Act.eval,Act.put]) ?_))
     go_meet
     case rel=>exact⟨_,_,by rw[HLE.out],by rw[HLE.out,HE.out];exact HS'.out⟩
    ·have HE:Hid (pS2 s=pS1 s):=if_neg hcond
     have hq:(s.state == 2)=false:=by simpa using hcond
     have hq2:¬s.state=2:=hcond
     go_wp2_with fail
     go_meet
     case rel=>exact⟨_,_,by rw[HE.out,HN2.out],by rw[HE.out,HN2.out];exact HS2.out⟩
   case rest =>
   clear k0 k1 k2 k3 k4 k5 k6
   obtain⟨Y3,rfl⟩:∃x,x=wc:=⟨_,rfl⟩
   obtain⟨a3,c3,rfl,hS3⟩:=hcut
   obtain⟨n3,hn3⟩:∃q,(pS2 s).length=q:=⟨_,rfl⟩
   rw[hn3] at hS3 ⊢
   have HS3:=hide hS3
   have HN3:=hide hn3
   have HP3:=hide (pS2_len s)
   clear hS3 hn3
   obtain⟨k0,k1,k2,k3,k4,k5,k6⟩:=KB.out Y3 HS3.out.2
   go_upto_if 61 with fail
   go_cut [6] (fun s6 wx=>∃a c,s6=.slice a (pS3 s).length c∧CSt (.slice ar nr cr) X0 wx (.slice a (pS3 s).length c) (pS3 s))
   case first =>
    by_cases hcond:s.cursor≠0
    ·have HE:Hid (pS3 s=pS2 s++[chC s]):=if_pos hcond
     obtain⟨a',c',w',hr,hS'⟩:=HS3.out.more (chC s) (by have:=HP3.out;omega) (n:=n3) HN3.out
     have hr':(Builtin.append_ #[69,69] 69 #[.slice a3 n3 c3,.slice (some ⟨Y3.heap.size,0,none⟩) 1 1]).run Tryz.prog (Y3.alloc (.cells #[.int .i64 4,.int .i64 s.client,.string s.tag,.string ⟨#[]⟩,.int .i64 0,.slice none 0 0,.int .i64 s.cursor] 28))=.ok (.slice a' (n3+1) c') w':=hr
     have HS':=hide hS'
     have HLE:Hid ((pS3 s).length=n3+1):=by show _=_;rw[HE.out,List.length_append,HN3.out];rfl
     have hq:(s.cursor != 0)=true:=by simpa using hcond
     have hq2:¬s.cursor=0:=hcond
     clear hr hS'
     go_wp2_with (first|(at_builtin;refine wpList_app rfl _ _ 69 rfl hr' (by first|rfl|simp[Act.eval,Act.put]) (by first|rfl|simp[Act.eval,Act.put]) ?_))
     go_meet
     case rel=>exact⟨_,_,by rw[HLE.out],by rw[HLE.out,HE.out];exact HS'.out⟩
    ·have HE:Hid (pS3 s=pS2 s):=if_neg hcond
     have hq:(s.cursor != 0)=false:=by simpa using hcond
     go_wp2_with fail
     go_meet
     case rel=>exact⟨_,_,by rw[HE.out,HN3.out],by rw[HE.out,HN3.out];exact HS3.out⟩
   case rest =>
   clear k0 k1 k2 k3 k4 k5 k6
   obtain⟨Y4,rfl⟩:∃x,x=wc:=⟨_,rfl⟩
   obtain⟨a4,c4,rfl,hS4⟩:=hcut
   obtain⟨n4,hn4⟩:∃q,(pS3 s).length=q:=⟨_,rfl⟩
   rw[hn4] at hS4 ⊢
   have HS4:=hide hS4
   have HN4:=hide hn4
   have HP4:=hide (pS3_len s)
   clear hS4 hn4
   obtain⟨k0,k1,k2,k3,k4,k5,k6⟩:=KB.out Y4 HS4.out.2
   go_upto_if 74 with fail
   go_cut [6] (fun s6 wx=>∃a c,s6=.slice a (pS4 s).length c∧CSt (.slice ar nr cr) X0 wx (.slice a (pS4 s).length c) (pS4 s))
   case first =>
    by_cases hcond:s.state=3
    ·have HE:Hid (pS4 s=pS3 s++[ch0 5 s]):=if_pos hcond
     obtain⟨a',c',w',hr,hS'⟩:=HS4.out.more (ch0 5 s) (by have:=HP4.out;omega) (n:=n4) HN4.out
     have hr':(Builtin.append_ #[69,69] 69 #[.slice a4 n4 c4,.slice (some ⟨Y4.heap.size,0,none⟩) 1 1]).run Tryz.prog (Y4.alloc (.cells #[.int .i64 5,.int .i64 s.client,.string s.tag,.string ⟨#[]⟩,.int .i64 0,.slice none 0 0,.int .i64 0] 28))=.ok (.slice a' (n4+1) c') w':=hr
     have HS':=hide hS'
     have HLE:Hid ((pS4 s).length=n4+1):=by show _=_;rw[HE.out,List.length_append,HN4.out];rfl
     have hq:(s.state == 3)=true:=by simpa using hcond
     clear hr hS'
     go_wp2_with (first|(at_builtin;refine wpList_app rfl _ _ 69 rfl hr' (by first|rfl|simp[Act.eval,Act.put]) (by first|rfl|simp[Act.eval,Act.put]) ?_))
     go_meet
     case rel=>exact⟨_,_,by rw[HLE.out],by rw[HLE.out,HE.out];exact HS'.out⟩
    ·have HE:Hid (pS4 s=pS3 s):=if_neg hcond
     have hq:(s.state == 3)=false:=by simpa using hcond
     have hq2:¬s.state=3:=hcond
     go_wp2_with fail
     go_meet
     case rel=>exact⟨_,_,by rw[HE.out,HN4.out],by rw[HE.out,HN4.out];exact HS4.out⟩
   case rest =>
   clear k0 k1 k2 k3 k4 k5 k6
   obtain⟨Y5,rfl⟩:∃x,x=wc:=⟨_,rfl⟩
   obtain⟨a5,c5,rfl,hS5⟩:=hcut
   obtain⟨n5,hn5⟩:∃q,(pS4 s).length=q:=⟨_,rfl⟩
   rw[hn5] at hS5 ⊢
   have HS5:=hide hS5
   have HN5:=hide hn5
   have HP5:=hide (pS4_len s)
   clear hS5 hn5
   obtain⟨k0,k1,k2,k3,k4,k5,k6⟩:=KB.out Y5 HS5.out.2
   go_upto_if 85 with fail
   go_cut [6] (fun s6 wx=>∃a c,s6=.slice a (pastS s).length c∧CSt (.slice ar nr cr) X0 wx (.slice a (pastS s).length c) (pastS s))
   case first =>
    by_cases hcond:s.state=4
    ·have HE:Hid (pastS s=pS4 s++[ch0 6 s]):=if_pos hcond
     obtain⟨a',c',w',hr,hS'⟩:=HS5.out.more (ch0 6 s) (by have:=HP5.out;omega) (n:=n5) HN5.out
     have hr':(Builtin.append_ #[69,69] 69 #[.slice a5 n5 c5,.slice (some ⟨Y5.heap.size,0,none⟩) 1 1]).run Tryz.prog (Y5.alloc (.cells #[.int .i64 6,.int .i64 s.client,.string s.tag,.string ⟨#[]⟩,.int .i64 0,.slice none 0 0,.int .i64 0] 28))=.ok (.slice a' (n5+1) c') w':=hr
     have HS':=hide hS'
     have HLE:Hid ((pastS s).length=n5+1):=by show _=_;rw[HE.out,List.length_append,HN5.out];rfl
     have hq:(s.state == 4)=true:=by simpa using hcond
     clear hr hS'
     go_wp2_with (first|(at_builtin;refine wpList_app rfl _ _ 69 rfl hr' (by first|rfl|simp[Act.eval,Act.put]) (by first|rfl|simp[Act.eval,Act.put]) ?_))
     go_meet
     case rel=>exact⟨_,_,by rw[HLE.out],by rw[HLE.out,HE.out];exact HS'.out⟩
    ·have HE:Hid (pastS s=pS4 s):=if_neg hcond
     have hq:(s.state == 4)=false:=by simpa using hcond
     have hq2:¬s.state=4:=hcond
     go_wp2_with fail
     go_meet
     case rel=>exact⟨_,_,by rw[HE.out,HN5.out],by rw[HE.out,HN5.out];exact HS5.out⟩
   case rest =>
   clear k0 k1 k2 k3 k4 k5 k6
   obtain⟨Y6,rfl⟩:∃x,x=wc:=⟨_,rfl⟩
   obtain⟨a6,c6,rfl,hS6⟩:=hcut
   obtain⟨n6,hn6⟩:∃q,(pastS s).length=q:=⟨_,rfl⟩
   rw[hn6] at hS6 ⊢
   have HS6:=hide hS6
   have HN6:=hide hn6
   have HP6:=hide (pastS_len s)
   clear hS6 hn6
   have HBF6:=hide (HBF0.out.keep HS6.out.2)
   have HB6:=hide (HB0.out.trans (HS6.out.2.mono HB0.out.size))
   have HF6:=hide HS6.out.1
   obtain⟨cs,hcs⟩:∃cs,pastS s=cs:=⟨_,rfl⟩
   have HOF:Hid (∀c∈cs,OfS s c):=by rw[←hcs];exact ofS_past s
   rw[hcs] at HSTEP HN6 HF6 HP6
   obtain⟨P,hP⟩:∃P,outL (xs.take k)=P:=⟨_,rfl⟩
   have HPL:Hid (P.length≤5947392):=by
    show _≤_
    rw[←hP]
    have h1:=outL_len (xs.take k)
    have h2:(xs.take k).length≤16:=by rw[List.length_take];omega
    omega
   rw[hP] at HSTEP HBF6 HL
   clear hcs hP HS1 HS2 HS3 HS4 HS5 HS6 HN1 HN2 HN3 HN4 HN5 HP1 HP2 HP3 HP4 HP5 HBF0 HBF
   go_upto_region 19 with fail
   go_wp2_with fail
   go_loopg [3,7] n6 (fun q out jv wx=>∃(j M:Nat) (ao2:Option Addr) (co2:Nat),j≤n6∧q=n6 - j∧out=.slice ao2 M co2∧jv=.int .i64 (j:Int)∧M=(P++snapL (cs.take j)).length∧Buf w1.heap.size wx (.slice ao2 M co2) (P++snapL (cs.take j))∧FB (snC (.slice ar nr cr)) 7 28 X0.heap.size wx (.slice a6 n6 c6) cs∧Below w1.heap.size w1 wx)
   case atStart=>exact⟨0,L,_,_,zrL _,rfl,rfl,rfl,by rw[HL.out];simp[snapL],by simpa [snapL] using HBF6.out,HF6.out,HB6.out⟩
   case round =>
    obtain⟨j,M,ao2,co2,hj,rfl,rfl,rfl,hM,hBf,hF,hbr⟩:=hrel
    obtain⟨Z,rfl⟩:∃x,x=wr:=⟨_,rfl⟩
    have HBFZ:=hide hBf
    have HFZ:=hide hF
    have HBZ:=hide hbr
    clear hBf hF hbr hM
    by_cases hjl:j<n6
    ·have hji:(j:Int)<(n6:Int):=by omega
     have hj0:(0:Int)≤(j:Int):=by omega
     have hj9:(j:Int)≤100:=by have:=HP6.out;have:=HN6.out;omega
     have hjc:j<cs.length:=by rw[HN6.out];exact hjl
     obtain⟨b6,off6,ea6,hbl6,q0,q1,q2,q3,q4,q5,q6⟩:=cg_cells HFZ.out (by have:=HP6.out;omega) j hjc
     subst ea6
     obtain⟨c,hc⟩:∃c,cs[j]=c:=⟨_,rfl⟩
     have hof:OfS s c:=by rw[←hc];exact HOF.out _ (List.getElem_mem hjc)
     have HTK:Hid (P++snapL (cs.take (j+1))=P++snapL (cs.take j)++recC c):=by show _=_;rw[snapL_step cs j hjc,hc,List.append_assoc]
     rw[hc] at q0 q1 q2 q3 q4 q5 q6
     have hrw:=cg_rows hof (HRW.out Z HBZ.out)
     obtain⟨av,nv,cv,hcg⟩:∃a n c9,cgR (.slice ar nr cr) c=.slice a n c9:=by unfold cgR;split;exact⟨_,_,_,rfl⟩;exact⟨_,_,_,rfl⟩
     rw[hcg] at q5 hrw
     have HEN:=hide (encS_any c (.slice av nv cv) Z (ofS_small HSB.out hof).1 (ofS_small HSB.out hof).2 hrw)
     unfold chgV at HEN
     obtain⟨E,hE⟩:∃E,encB c=E:=⟨_,rfl⟩
     have HRE:=hide (fun W=>recS_any E W (by rw[←hE];have:=encB_size c;omega))
     have hRL:=(recC_len c).2
     rw[hE] at HEN hRL
     obtain⟨R,hR⟩:∃R,recB E=R:=⟨_,rfl⟩
     rw[hR] at HRE hRL
     have HRC:Hid (recC c=R.data.toList):=by show _=_;unfold recC;rw[hE,hR]
     obtain⟨pk,hpk⟩:∃q,off6+j * 7=q:=⟨_,rfl⟩
     rw[hpk] at q0 q1 q2 q3 q4 q5 q6
     obtain⟨PP,hPP⟩:∃q,P++snapL (cs.take j)=q:=⟨_,rfl⟩
     have hPPL:PP.length≤6319104:=by
      rw[←hPP,List.length_append]
      have h1:=snapL_len (cs.take j)
      have h2:(cs.take j).length≤6:=by rw[List.length_take];have:=HP6.out;have:=HN6.out;omega
      have h3:=HPL.out
      omega
     have HPPL:=hide hPPL
     rw[hPP] at HBFZ HTK
     have HRL:=hide hRL
     clear hc hof hrw hcg hE hR hPP hPPL hRL
     go_wp2_with fail
     refine HEN.out.mono ?_
     rintro e V1 ⟨rfl,hv1⟩
     have HV1:=hide hv1
     clear hv1 q0 q1 q2 q3 q4 q5 q6
     go_wp2_with fail
     refine(HRE.out _).mono ?_
     rintro e V2 ⟨rfl,hv2⟩
     have HV2:=hide (bjoin hv2 HV1.out)
     clear hv2
     go_wp2_with fail
     refine(put_any w1.heap.size PP R _ V2 (HBFZ.out.keep HV2.out) (Nat.le_trans HBZ.out.size HV2.out.size) (by have:=HPPL.out;have:=HRL.out;omega)).mono ?_
     rintro e V3 ⟨u3,rfl,hB3,hg3⟩
     obtain⟨a3,c3,e3,_⟩:=hB3.form
     obtain⟨M3,hM3⟩:∃q,(PP++R.data.toList).length=q:=⟨_,rfl⟩
     rw[hM3] at e3
     subst e3
     have HB3:=hide hB3
     have HF3:Hid (FB (snC (.slice ar nr cr)) 7 28 X0.heap.size V3 (.slice (some ⟨b6,off6,none⟩) n6 c6) cs):=hg3.fb (HBFZ.out.keep HV2.out) (HFZ.out.below HV2.out) (by decide)
     have HBV:Hid (Below w1.heap.size w1 V3):=(HBZ.out.trans (HV2.out.mono HBZ.out.size)).trans (hg3.below (HBFZ.out.keep HV2.out).own (Nat.le_trans HBZ.out.size HV2.out.size))
     have HM3:=hide hM3
     clear hB3 hg3 hM3
     go_wp2_with fail
     go_roundg (n6 - (j+1))
     case measure=>omega
     case rel=>exact⟨j+1,M3,_,_,by omega,rfl,rfl,by go_num,by rw[HTK.out,HRC.out,HM3.out],by rw[HTK.out,HRC.out];exact HB3.out,HF3.out,HBV.out⟩
    ·obtain rfl:j=n6:=by omega
     have hji:¬(j:Int)<(j:Int):=by omega
     have HFIN:Hid (P++snapL (cs.take j)=outL (xs.take (k+1))):=by show _=_;rw[HSTEP.out,←HN6.out,List.take_length]
     rw[HFIN.out] at HBFZ
     obtain⟨M9,hM9⟩:∃q,(outL (xs.take (k+1))).length=q:=⟨_,rfl⟩
     have hMM:M=M9:=by
      obtain⟨_,_,e9,_⟩:=HBFZ.out.form
      injection e9 with _ e9 _
      rw[e9,hM9]
     have HMM:=hide (hMM.trans hM9.symm)
     clear hMM hM9
     go_wp2_with fail
     go_roundg (n - (k+1))
     case measure=>omega
     case rel=>exact⟨k+1,M,_,_,by omega,rfl,rfl,by go_num,HMM.out,HBFZ.out,HBZ.out⟩
  ·obtain rfl:k=n:=by omega
   have hki:¬(k:Int)<(k:Int):=by omega
   have HAL:Hid (outL (xs.take k)=outL xs):=by show _=_;rw[←HN.out,List.take_length]
   have hst:=HBF.out.string
   rw[HAL.out] at hst
   have HFINB:=hide (bjoin HBR.out HB1.out)
   go_wp2_with fail
   go_ret
   exact⟨ret_string HX.out.symm,HFINB.out⟩
end Go.Proofs.YtglcdcekkglmiaaGreatDoor.Msg
