import Derived.Test.YtfdihjnlgdiioaaGreatDoorG44
import Derived.Test.YtfdihjnlgdiioaaGreatDoorG47
import Derived.Test.YtfdihjnlgdiioaaGreatDoorG40
import Derived.Test.YtfdihjnlgdiioaaGreatDoorG48
import Derived.Deep.DeepCutAuto
namespace Go.Proofs.YtfdihjnlgdiioaaGreatDoor.dB
open Go.ChangeShapes Go.WideShapes Go.ChangeAt Go.RowKit
set_option linter.unusedVariables false
set_option linter.unusedSimpArgs false
theorem Er {w w':World} {xs:List Seg} {e:Ending} (h:qG w (.ok xs) e w'):∃a c,e=.returned (.tuple #[.agg #[.slice a xs.length c],.int .i64 0])∧aX 0 w' (.slice a xs.length c) xs∧Below w.heap.size w w':=by
 obtain⟨u,c,rfl,h1,h2,h3⟩:=h
 obtain⟨rfl,bs,a,b,c⟩:=h2 xs rfl
 have q:aX 0 w' u xs:=bS.pO sW a fun _ _=>eH _
 obtain⟨a',c',rfl,_⟩:=q.form
 exact⟨a',c',rfl,q,h3⟩
theorem aaX (m:List Seg):(encoded m).size≤40000:=by
 cases h:dW m
 ·rw[rE h];exact eH _
 ·rw[jI h]
  unfold dW at h
  simp only[Bool.and_eq_true,decide_eq_true_eq] at h
  show (iq m).toArray.size≤_
  simpa using h.2
theorem parsed (xs:List Seg) (w:World) (hm:Mx w) (hb:dW xs=true):Calls Tryz.prog 8 #[.string (encoded xs)] w fun e w'=>∃a c,e=.returned (.tuple #[.agg #[.slice a xs.length c],.int .i64 0])∧aX 0 w' (.slice a xs.length c) xs∧Below w.heap.size w w':=by
 have h:=PG (encoded xs) w (by have:=aaX xs;omega) hm
 rw[vN hb] at h
 exact h.mono fun _ _ hp=>Er hp
theorem TY {w w':World} {xs:List Seg} {e:Ending} (h:fA w xs e w'):∃a c,e=.returned (.agg #[.slice a xs.length c])∧aX 0 w' (.slice a xs.length c) xs∧Below w.heap.size w w':=by
 obtain⟨u,rfl,bs,hO,_,hbs,hb⟩:=h
 have q:aX 0 w' u xs:=bS.pO sW hO fun _ _=>eH _
 obtain⟨a',c',rfl,_⟩:=q.form
 exact⟨a',c',rfl,q,hb⟩
theorem MC (xs:List Seg) (hs:aT xs≤1048576):(lM xs).1.rows.length≤1048576∧∀s∈(lM xs).1.rows,s.size≤1048576:=by
 have h1:(dQ xs).rows.length≤1048576:=Nat.le_trans (Di xs) (by unfold aT aH at hs;omega)
 have h2:=zm hs
 unfold lM
 split
 ·exact⟨h1,h2⟩
 ·exact⟨by simp[yj],by simp[yj]⟩
theorem Kc {w w':World} {xs:List Seg} {e:Ending} (hs:aT xs≤1048576) (h:zy w (lM xs) e w'):∃a c,e=.returned (.tuple #[gU (lM xs).1 (.slice a (lM xs).1.rows.length c),.bool (lM xs).2])∧bq 0 w' (.slice a (lM xs).1.rows.length c) (lM xs).1.rows∧Below w.heap.size w w':=by
 obtain⟨a,c,rfl,hF,hb⟩:=h
 obtain⟨h1,h2⟩:=MC xs hs
 exact⟨a,c,rfl,At.mono xq (A9 hF (by omega) (fun s hs=>Nat.le_trans (h2 s hs) (by decide))) (eH _),hb⟩
theorem PL {w w':World} {p:jM × Bool} {e:Ending} (h:Nh w p e w'):∃a c,e=.returned (.tuple #[gU p.1 (.slice a p.1.rows.length c),.bool p.2])∧bq 0 w' (.slice a p.1.rows.length c) p.1.rows∧Below w.heap.size w w':=by
 obtain⟨u,rfl,hs,hb⟩:=h
 obtain⟨a,c,rfl,_⟩:=hs.form
 exact⟨a,c,rfl,hs,hb⟩
set_option maxRecDepth 100000 in
set_option maxHeartbeats 32000000 in
theorem T9 (cs ds:List UInt8) (v u:Value) (w:World) {lo lo2:Nat} (hv:iU lo w v cs) (hu:iU lo2 w u ds) (hm:Mx w) (hE:Env w) (hT:Gz w) :
  Calls Tryz.prog 3 #[v,u] w fun e w'=>e=.returned (.bool true)∧Below w.heap.size w w':=by
 have HB0:Hid (Below w.heap.size w w):=Below.refl _ _
 have hvl:=hv.1
 have hul:=hu.1
 have HV:=hide hv
 have HU:=hide hu
 obtain⟨va,vc,rfl,_⟩:=fO hv
 obtain⟨ua,uc,rfl,_⟩:=fO hu
 clear hv hu
 by_cases hl1:(cs.length:Int) > 1048576
 ·go_enter Tryz.func3,Tryz.ntmps3
  go_wp2_with fail
  all_goals
   go_ret
   exact⟨rfl,HB0.out⟩
 by_cases hl2:(ds.length:Int) > 1048576
 ·go_enter Tryz.func3,Tryz.ntmps3
  go_wp2_with fail
  all_goals
   go_ret
   exact⟨rfl,HB0.out⟩
 have hcl:cs.length≤1048576:=by omega
 have hdl:ds.length≤1048576:=by omega
 have HM:=hide (fun W (h:Below w.heap.size w W)=>hm.kept h)
 have HE:=hide (fun W (h:Below w.heap.size w W)=>hE.kept h)
 have HT:=hide (fun W (h:Below w.heap.size w W)=>hT.kept h)
 have HDQ:=hide (fun W (h:Below w.heap.size w W)=>GN cs (.slice va cs.length vc) W (At.kept bJ HV.out h) hcl)
 have HDR:=hide (fun W (h:Below w.heap.size w W)=>GQ cs (.slice va cs.length vc) W (At.kept bJ HV.out h) hcl)
 have Kj:=hide (fun W (h:Below w.heap.size w W)=>Ml ds (.slice ua ds.length uc) W (At.kept bJ HU.out h) hdl)
 have HRR:=hide (fun W (h:Below w.heap.size w W)=>Mi ds (.slice ua ds.length uc) W (At.kept bJ HU.out h) hdl)
 have HSQ:=hide (WT ds)
 have HSR:=hide (WS ds)
 obtain⟨Xg,adL⟩:∃x,Pt ds=x:=⟨_,rfl⟩
 obtain⟨UE,adM⟩:∃x,Pq ds=x:=⟨_,rfl⟩
 rw[adL] at Kj HSQ
 rw[adM] at HRR HSR
 obtain⟨hq0,hq1,hq2,hq3⟩:=J4 cs 0
 have HWI:=hide (fun W=>zh (jq cs 0) W (by omega) (by omega) (by omega) (by omega) (fun u hu W=>Tryz.strconv_Itoa_small u hu W))
 have HWS:=hide (fun W=>wm (jq cs 0) W (by omega) (by omega) (by omega) (by omega))
 have RF:=hide (fun h=>Tg (jq cs 0) h)
 have VW:=hide (vB (jq cs 0))
 have HMZ:=hide (Nat.le_trans (J3 (jq cs 0)) (by decide:300000≤1048576))
 obtain⟨m,hmm⟩:∃x,cK (jq cs 0)=x:=⟨_,rfl⟩
 rw[hmm] at HWI HWS RF VW HMZ
 obtain⟨r,hr⟩:∃x,jq cs 0=x:=⟨_,rfl⟩
 rw[hr] at HDQ HWI HWS RF
 obtain⟨kind,control,tag,query,page,pointer⟩:=r
 unfold bY at HDQ HWI HWS
 dsimp only at HDQ HWI HWS
 obtain⟨n,hn⟩:∃x,m.length=x:=⟨_,rfl⟩
 have HN:=hide hn
 obtain⟨hz0,hz1,hz2,hz3,MZ⟩:=J5 cs 0
 have HXI:=hide (fun(a:Option Addr) (c:Nat) W (lo:Nat) (h:bq lo W (.slice a (gF cs 0).rows.length c) (gF cs 0).rows) (hE:Env W)=>wz (gF cs 0) a c W (by omega) (by omega) (by omega) (by omega) (by omega) h hE)
 have RV:=hide (fun(a:Option Addr) (c:Nat) W (lo:Nat) (h:bq lo W (.slice a (gF cs 0).rows.length c) (gF cs 0).rows)=>wh (gF cs 0) a c W (by omega) (by omega) (by omega) (by omega) h)
 have HXB:=hide (fun h=>TA (gF cs 0) h)
 have HXO:Hid (fE (gF cs 0)=[]∨dW (fE (gF cs 0))=true):=by
  rcases qd (gF cs 0) with h|⟨h,_⟩
  ·exact .inl h
  ·exact .inr h
 have HXZ:=hide (Nat.le_trans (Mg (gF cs 0)) (by decide:300000≤1048576))
 obtain⟨m2,hm2⟩:∃x,fE (gF cs 0)=x:=⟨_,rfl⟩
 rw[hm2] at HXI RV HXB HXO HXZ
 obtain⟨rp,Sd⟩:∃x,gF cs 0=x:=⟨_,rfl⟩
 rw[Sd] at HDR HXI RV HXB
 have Xh:=hide (fun(v u:Value) W (l1 l2:Nat) (h1:bq l1 W v rp.rows) (h2:bq l2 W u rp.rows)=>JM rp v u W h1 h2)
 obtain⟨ack,uL,nL,uM,rows,uN⟩:=rp
 unfold gU at HDR HXI RV Xh
 dsimp only at HDR HXI RV Xh
 obtain⟨n2,hn2⟩:∃x,m2.length=x:=⟨_,rfl⟩
 have MV:=hide hn2
 obtain⟨nr,hnr⟩:∃x,rows.length=x:=⟨_,rfl⟩
 rw[hnr] at HXI RV
 have sF:=hide hnr
 clear hm hE hT adL adM hq0 hq1 hq2 hq3 hmm hr hn hz0 hz1 hz2 hz3 MZ hm2 Sd hn2 hnr
 go_enter Tryz.func3,Tryz.ntmps3
 go_wp2_with fail
 refine(HDQ.out w HB0.out).mono ?_
 rintro e W1 ⟨rfl,hb1⟩
 obtain⟨X1,hX1⟩:∃x,W1.alloc (Obj.cells #[.int .i64 kind,.string control,.string tag,.string query,.int .i64 page,.string pointer] 24)=x:=⟨_,rfl⟩
 have Qc:Below W1.heap.size W1 X1:=by rw[←hX1];exact aO _ _
 have DL:Hid (aU X1 W1.heap.size 24 #[.int .i64 kind,.string control,.string tag,.string query,.int .i64 page,.string pointer]):=by rw[←hX1];exact aU.new _ _ _
 have HB1:=hide (aj Qc hb1)
 clear hb1 Qc
 go_upto_region 4 with fail
 (try rw[hX1])
 clear hX1
 have c0:X1.cell? ⟨W1.heap.size,0,none⟩=some (.int .i64 kind):=DL.out.cell 0 (by simp)
 have c1:X1.cell? ⟨W1.heap.size,1,none⟩=some (.string control):=DL.out.cell 1 (by simp)
 have c2:X1.cell? ⟨W1.heap.size,2,none⟩=some (.string tag):=DL.out.cell 2 (by simp)
 have c3:X1.cell? ⟨W1.heap.size,3,none⟩=some (.string query):=DL.out.cell 3 (by simp)
 have c4:X1.cell? ⟨W1.heap.size,4,none⟩=some (.int .i64 page):=DL.out.cell 4 (by simp)
 have c5:X1.cell? ⟨W1.heap.size,5,none⟩=some (.string pointer):=DL.out.cell 5 (by simp)
 go_wp2_with fail
 refine(HWI.out X1).mono ?_
 intro e W2 hp2
 obtain⟨a2,k2,rfl,hs2,hb2⟩:=TY hp2
 rw[HN.out] at hs2 ⊢
 clear hp2 c0 c1 c2 c3 c4 c5
 obtain⟨X2,hX2⟩:∃x,W2.alloc (Obj.cells #[.slice a2 n k2] 28)=x:=⟨_,rfl⟩
 have bX2:Below W2.heap.size W2 X2:=by rw[←hX2];exact aO _ _
 have adN:Hid (aU X2 W2.heap.size 28 #[.slice a2 n k2]):=by rw[←hX2];exact aU.new _ _ _
 have PN:=hide (aj bX2 hb2)
 have HB2:=hide (aj (aj bX2 hb2) HB1.out)
 have HS2:=hide (At.kept bA hs2 bX2)
 have KS:Hid (∀X,Below X2.heap.size X2 X→X.cell? ⟨W2.heap.size,0,none⟩=some (.slice a2 n k2)∧X.cell? ⟨W1.heap.size,0,none⟩=some (.int .i64 kind)∧X.cell? ⟨W1.heap.size,1,none⟩=some (.string control)∧X.cell? ⟨W1.heap.size,2,none⟩=some (.string tag)∧X.cell? ⟨W1.heap.size,3,none⟩=some (.string query)∧X.cell? ⟨W1.heap.size,4,none⟩=some (.int .i64 page)∧X.cell? ⟨W1.heap.size,5,none⟩=some (.string pointer)):=fun X h=>by
  have o1:=DL.out.below (aj h PN.out)
  have o2:=adN.out.below h
  exact⟨o2.cell 0 (by simp),o1.cell 0 (by simp),o1.cell 1 (by simp),o1.cell 2 (by simp),o1.cell 3 (by simp),o1.cell 4 (by simp),o1.cell 5 (by simp)⟩
 clear hs2 hb2 bX2
 have Xi:=hide (fun W3 (u3:Value) (h:Below X2.heap.size X2 W3) (l:Nat) (h3:aX l W3 u3 m)=>Jo m (.slice a2 n k2) u3 W3 (At.kept bA HS2.out h) h3)
 go_upto_region 5 with fail
 (try rw[hX2])
 clear hX2
 obtain⟨D,hDe⟩:∃D,X2.drew=D:=⟨_,rfl⟩
 have hD0:Below X2.heap.size X2 X2.drew:=(Below.refl _ _).drew
 have hD:Below X2.heap.size X2 D:=by rw[←hDe];exact hD0
 go_region_held3 (fun X=>X.cell? ⟨W2.heap.size,0,none⟩=some (.slice a2 n k2)∧X.cell? ⟨W1.heap.size,0,none⟩=some (.int .i64 kind)∧X.cell? ⟨W1.heap.size,1,none⟩=some (.string control)∧X.cell? ⟨W1.heap.size,2,none⟩=some (.string tag)∧X.cell? ⟨W1.heap.size,3,none⟩=some (.string query)∧X.cell? ⟨W1.heap.size,4,none⟩=some (.int .i64 page)∧X.cell? ⟨W1.heap.size,5,none⟩=some (.string pointer))
  (first|with_reducible exact KS.out _ hD0|with_reducible exact KS.out _ hD|with_reducible exact KS.out _ hB4|with_reducible exact KS.out _ hB3)
  (first
   | (go_at_call 6;refine(Xi.out W3 _ hB3 _ hs3).mono ?_;rintro e W4 ⟨rfl,hb4⟩;have hB4:Below X2.heap.size X2 W4:=aj hb4 hB3)
   | (go_at_call 7;refine(HWS.out _).mono ?_;rintro e W3 ⟨u3,rfl,hs3,hb3⟩;obtain⟨a3,k3,rfl,_⟩:=At.form hs3;rw[HN.out] at hs3 ⊢;have hB3:Below X2.heap.size X2 W3:=aj hb3 hD))
 have o7:=hide hB4
 clear hD0 hD hDe hs3 hb3 hB3 hb4 hB4 Xi
 go_upto_if 46 with fail
 go_cut [46] (fun v46 wx=>Below w.heap.size w wx)
 case first =>
  by_cases hn0:(n:Int) > 0
  ·have hne:m≠[]:=fun h=>by have:=HN.out;rw[h] at this;simp at this;omega
   have hgood:dW m=true:=by rcases VW.out with h|h;exact absurd h hne;exact h
   have hbk:=RF.out hne
   rw[Dn] at hbk
   have HGD:=hide hgood
   have HBQ:=hide hbk
   obtain⟨k2c,_⟩:=KS.out W4 o7.out
   have Yg:=hide (mh m (.slice a2 n k2) W4 HMZ.out (At.kept bA HS2.out o7.out))
   have XQ:=hide (fun W (h:Below w.heap.size w W)=>parsed m W (HM.out W h) HGD.out)
   obtain⟨s,hse⟩:∃s,encoded m=s:=⟨_,rfl⟩
   rw[hse] at Yg XQ
   clear hne hgood hbk hse
   go_wp2_with fail
   refine Yg.out.mono ?_
   rintro e W5 ⟨rfl,hb5⟩
   have Av:=hide (aj hb5 o7.out)
   clear hb5 k2c
   go_wp2_with fail
   refine(XQ.out W5 (aj Av.out HB2.out)).mono ?_
   rintro e W6 ⟨a6,k6,rfl,hs6,hb6⟩
   rw[HN.out] at hs6 ⊢
   obtain⟨X6,Yd⟩:∃x,W6.alloc (Obj.cells #[.slice a6 n k6] 28)=x:=⟨_,rfl⟩
   have bX6:Below W6.heap.size W6 X6:=by rw[←Yd];exact aO _ _
   have afH:Hid (aU X6 W6.heap.size 28 #[.slice a6 n k6]):=by rw[←Yd];exact aU.new _ _ _
   have Jz:=hide (aj bX6 (aj hb6 Av.out))
   have adO:=At.kept bA hs6 bX6
   have WG:=hide (sH m (.slice a6 n k6) X6 (Sg adO HMZ.out) HMZ.out (HE.out X6 (aj Jz.out HB2.out)) (HT.out X6 (aj Jz.out HB2.out)))
   rw[HBQ.out] at WG
   unfold fU bY at WG
   dsimp only at WG
   clear hs6 adO hb6 bX6
   go_upto_region 9 with fail
   (try rw[Yd])
   clear Yd
   have k6c:X6.cell? ⟨W6.heap.size,0,none⟩=some (.slice a6 n k6):=afH.out.cell 0 (by simp)
   go_wp2_with fail
   refine WG.out.mono ?_
   rintro e W7 ⟨rfl,lU⟩
   obtain⟨X7,hX7⟩:∃x,W7.alloc (Obj.cells #[.int .i64 kind,.string control,.string tag,.string query,.int .i64 page,.string pointer] 24)=x:=⟨_,rfl⟩
   have bX7:Below W7.heap.size W7 X7:=by rw[←hX7];exact aO _ _
   have PO:Hid (aU X7 W7.heap.size 24 #[.int .i64 kind,.string control,.string tag,.string query,.int .i64 page,.string pointer]):=by rw[←hX7];exact aU.new _ _ _
   have HB7:=hide (aj bX7 (aj lU Jz.out))
   have nA:=hide (aj HB7.out HB2.out)
   clear lU bX7 k6c
   go_upto_region 10 with fail
   (try rw[hX7])
   clear hX7
   obtain⟨_,q0,q1,q2,q3,q4,q5⟩:=KS.out X7 HB7.out
   have c0:X7.cell? ⟨W7.heap.size,0,none⟩=some (.int .i64 kind):=PO.out.cell 0 (by simp)
   have c1:X7.cell? ⟨W7.heap.size,1,none⟩=some (.string control):=PO.out.cell 1 (by simp)
   have c2:X7.cell? ⟨W7.heap.size,2,none⟩=some (.string tag):=PO.out.cell 2 (by simp)
   have c3:X7.cell? ⟨W7.heap.size,3,none⟩=some (.string query):=PO.out.cell 3 (by simp)
   have c4:X7.cell? ⟨W7.heap.size,4,none⟩=some (.int .i64 page):=PO.out.cell 4 (by simp)
   have c5:X7.cell? ⟨W7.heap.size,5,none⟩=some (.string pointer):=PO.out.cell 5 (by simp)
   go_wp2_with fail
   go_meet
   case rel=>exact nA.out
  ·obtain⟨k2c,_⟩:=KS.out W4 o7.out
   have nA:=hide (aj o7.out HB2.out)
   go_wp2_with fail
   go_meet
   case rel=>exact nA.out
 case rest =>
  obtain⟨Z,rfl⟩:∃x,x=wc:=⟨_,rfl⟩
  have sU:=hide hcut
  clear hcut KS HS2 o7 HB2 PN HB1 DL adN HWI HWS RF VW HMZ HDQ
  go_wp2_with fail
  refine(HDR.out Z sU.out).mono ?_
  rintro e W1 ⟨u1,rfl,hs1,hb1⟩
  obtain⟨a1,k1,rfl,_⟩:=At.form hs1
  rw[sF.out] at hs1 ⊢
  obtain⟨Y1,Aq⟩:∃x,W1.alloc (Obj.cells #[.string ack,.string uL,.int .i64 nL,.string uM,.slice a1 nr k1,.string uN] 38)=x:=⟨_,rfl⟩
  have bY1:Below W1.heap.size W1 Y1:=by rw[←Aq];exact aO _ _
  have adP:Hid (aU Y1 W1.heap.size 38 #[.string ack,.string uL,.int .i64 nL,.string uM,.slice a1 nr k1,.string uN]):=by rw[←Aq];exact aU.new _ _ _
  have HB1:=hide (aj bY1 (aj hb1 sU.out))
  have UA:=hide (At.kept bE hs1 bY1)
  clear hs1 hb1 bY1
  go_upto_region 13 with fail
  (try rw[Aq])
  clear Aq
  go_wp2_with fail
  refine(HDR.out Y1 HB1.out).mono ?_
  rintro e W2 ⟨u2,rfl,hs2,hb2⟩
  obtain⟨a2,k2,rfl,_⟩:=At.form hs2
  rw[sF.out] at hs2 ⊢
  obtain⟨Y2,hY2⟩:∃x,W2.alloc (Obj.cells #[.string ack,.string uL,.int .i64 nL,.string uM,.slice a2 nr k2,.string uN] 38)=x:=⟨_,rfl⟩
  have XR:Below W2.heap.size W2 Y2:=by rw[←hY2];exact aO _ _
  have adQ:Hid (aU Y2 W2.heap.size 38 #[.string ack,.string uL,.int .i64 nL,.string uM,.slice a2 nr k2,.string uN]):=by rw[←hY2];exact aU.new _ _ _
  have PN:=hide (aj XR hb2)
  have HB2:=hide (aj (aj XR hb2) HB1.out)
  have HS2:=hide (At.kept bE hs2 XR)
  have zx:=hide (At.kept bE UA.out PN.out)
  have DV:=hide (adP.out.below PN.out)
  clear hs2 hb2 XR
  go_upto_region 14 with fail
  (try rw[hY2])
  clear hY2
  have c0:Y2.cell? ⟨W1.heap.size,0,none⟩=some (.string ack):=DV.out.cell 0 (by simp)
  have c1:Y2.cell? ⟨W1.heap.size,1,none⟩=some (.string uL):=DV.out.cell 1 (by simp)
  have c2:Y2.cell? ⟨W1.heap.size,2,none⟩=some (.int .i64 nL):=DV.out.cell 2 (by simp)
  have c3:Y2.cell? ⟨W1.heap.size,3,none⟩=some (.string uM):=DV.out.cell 3 (by simp)
  have c4:Y2.cell? ⟨W1.heap.size,4,none⟩=some (.slice a1 nr k1):=DV.out.cell 4 (by simp)
  have c5:Y2.cell? ⟨W1.heap.size,5,none⟩=some (.string uN):=DV.out.cell 5 (by simp)
  go_wp2_with fail
  refine(HXI.out a1 k1 Y2 _ zx.out (HE.out Y2 HB2.out)).mono ?_
  rintro e W3 ⟨u3,rfl,hs3,hb3⟩
  obtain⟨a3,k3,rfl,_⟩:=At.form hs3
  rw[MV.out] at hs3 ⊢
  clear c0 c1 c2 c3 c4 c5
  obtain⟨Y3,D5⟩:∃x,W3.alloc (Obj.cells #[.slice a3 n2 k3] 28)=x:=⟨_,rfl⟩
  have bY3:Below W3.heap.size W3 Y3:=by rw[←D5];exact aO _ _
  have adR:Hid (aU Y3 W3.heap.size 28 #[.slice a3 n2 k3]):=by rw[←D5];exact aU.new _ _ _
  have Ua:=hide (aj bY3 hb3)
  have HB3:=hide (aj (aj bY3 hb3) HB2.out)
  have HS3:=hide (At.kept bA hs3 bY3)
  have KS:Hid (∀X,Below Y3.heap.size Y3 X→X.cell? ⟨W3.heap.size,0,none⟩=some (.slice a3 n2 k3)∧X.cell? ⟨W2.heap.size,0,none⟩=some (.string ack)∧X.cell? ⟨W2.heap.size,1,none⟩=some (.string uL)∧X.cell? ⟨W2.heap.size,2,none⟩=some (.int .i64 nL)∧X.cell? ⟨W2.heap.size,3,none⟩=some (.string uM)∧X.cell? ⟨W2.heap.size,4,none⟩=some (.slice a2 nr k2)∧X.cell? ⟨W2.heap.size,5,none⟩=some (.string uN)):=fun X h=>by
   have o1:=adQ.out.below (aj h Ua.out)
   have o2:=adR.out.below h
   exact⟨o2.cell 0 (by simp),o1.cell 0 (by simp),o1.cell 1 (by simp),o1.cell 2 (by simp),o1.cell 3 (by simp),o1.cell 4 (by simp),o1.cell 5 (by simp)⟩
  have Ga:=hide (fun X (h:Below Y3.heap.size Y3 X)=>At.kept bE HS2.out (aj h Ua.out))
  have adS:=hide (fun X (h:Below Y3.heap.size Y3 X)=>RV.out a2 k2 X _ (Ga.out X h))
  have Xi:=hide (fun W3 (u3:Value) (h:Below Y3.heap.size Y3 W3) (l:Nat) (h3:aX l W3 u3 m2)=>Jo m2 (.slice a3 n2 k3) u3 W3 (At.kept bA HS3.out h) h3)
  clear hs3 hb3 bY3 HXI RV HDR DV
  go_upto_region 15 with fail
  (try rw[D5])
  clear D5
  obtain⟨D,hDe⟩:∃D,Y3.drew=D:=⟨_,rfl⟩
  have hD0:Below Y3.heap.size Y3 Y3.drew:=(Below.refl _ _).drew
  have hD:Below Y3.heap.size Y3 D:=by rw[←hDe];exact hD0
  go_region_held3 (fun X=>X.cell? ⟨W3.heap.size,0,none⟩=some (.slice a3 n2 k3)∧X.cell? ⟨W2.heap.size,0,none⟩=some (.string ack)∧X.cell? ⟨W2.heap.size,1,none⟩=some (.string uL)∧X.cell? ⟨W2.heap.size,2,none⟩=some (.int .i64 nL)∧X.cell? ⟨W2.heap.size,3,none⟩=some (.string uM)∧X.cell? ⟨W2.heap.size,4,none⟩=some (.slice a2 nr k2)∧X.cell? ⟨W2.heap.size,5,none⟩=some (.string uN))
   (first|with_reducible exact KS.out _ hD0|with_reducible exact KS.out _ hD|with_reducible exact KS.out _ kG|with_reducible exact KS.out _ hB4)
   (first
    | (go_at_call 6;refine(Xi.out W4 _ hB4 _ hs4).mono ?_;rintro e W5 ⟨rfl,hb5⟩;have kG:Below Y3.heap.size Y3 W5:=aj hb5 hB4)
    | (go_at_call 13;refine(adS.out _ hD).mono ?_;rintro e W4 ⟨u4,rfl,hs4,hb4⟩;obtain⟨a4,k4,rfl,_⟩:=At.form hs4;rw[MV.out] at hs4 ⊢;have hB4:Below Y3.heap.size Y3 W4:=aj hb4 hD))
  have Av:=hide kG
  clear hD0 hD hDe hs4 hb4 hB4 hb5 kG Xi adS
  go_upto_if 83 with fail
  go_cut [83] (fun v83 wx=>Below w.heap.size w wx)
  case first =>
   by_cases hn0:(n2:Int) > 0
   ·have hne:m2≠[]:=fun h=>by have:=MV.out;rw[h] at this;simp at this;omega
    have hgood:dW m2=true:=by rcases HXO.out with h|h;exact absurd h hne;exact h
    have hbk:=HXB.out hne
    rw[Fw] at hbk
    have HGD:=hide hgood
    have HBQ:=hide hbk
    obtain⟨k3c,_⟩:=KS.out W5 Av.out
    have Yg:=hide (mh m2 (.slice a3 n2 k3) W5 HXZ.out (At.kept bA HS3.out Av.out))
    have XQ:=hide (fun W (h:Below w.heap.size w W)=>parsed m2 W (HM.out W h) HGD.out)
    obtain⟨s,hse⟩:∃s,encoded m2=s:=⟨_,rfl⟩
    rw[hse] at Yg XQ
    clear hne hgood hbk hse
    go_wp2_with fail
    refine Yg.out.mono ?_
    rintro e W6 ⟨rfl,hb6⟩
    have Jz:=hide (aj hb6 Av.out)
    clear hb6 k3c
    go_wp2_with fail
    refine(XQ.out W6 (aj Jz.out HB3.out)).mono ?_
    rintro e W7 ⟨a7,k7,rfl,hs7,lU⟩
    have adT:=hs7
    rw[MV.out] at hs7 ⊢
    obtain⟨Y7,hY7⟩:∃x,W7.alloc (Obj.cells #[.slice a7 n2 k7] 28)=x:=⟨_,rfl⟩
    have bY7:Below W7.heap.size W7 Y7:=by rw[←hY7];exact aO _ _
    have afI:Hid (aU Y7 W7.heap.size 28 #[.slice a7 n2 k7]):=by rw[←hY7];exact aU.new _ _ _
    have HB7:=hide (aj bY7 (aj lU Jz.out))
    have WG:=hide (yG m2 a7 k7 Y7 (At.kept bA adT bY7) HXZ.out (HE.out Y7 (aj HB7.out HB3.out)))
    rw[MV.out] at WG
    clear hs7 adT lU bY7
    go_upto_region 19 with fail
    (try rw[hY7])
    clear hY7
    have k7c:Y7.cell? ⟨W7.heap.size,0,none⟩=some (.slice a7 n2 k7):=afI.out.cell 0 (by simp)
    go_wp2_with fail
    refine WG.out.mono ?_
    intro e W8 hp8
    obtain⟨a8,k8,rfl,L9,nI⟩:=Kc HXZ.out hp8
    rw[HBQ.out] at L9 ⊢
    unfold gU
    dsimp only at L9 ⊢
    rw[sF.out] at L9 ⊢
    obtain⟨Y8,hY8⟩:∃x,W8.alloc (Obj.cells #[.string ack,.string uL,.int .i64 nL,.string uM,.slice a8 nr k8,.string uN] 38)=x:=⟨_,rfl⟩
    have bY8:Below W8.heap.size W8 Y8:=by rw[←hY8];exact aO _ _
    have PS:Hid (aU Y8 W8.heap.size 38 #[.string ack,.string uL,.int .i64 nL,.string uM,.slice a8 nr k8,.string uN]):=by rw[←hY8];exact aU.new _ _ _
    have HB8:=hide (aj bY8 (aj nI HB7.out))
    have nA:=hide (aj HB8.out HB3.out)
    have DK:=hide (Xh.out (.slice a8 nr k8) (.slice a2 nr k2) Y8 _ _ (At.kept bE L9 bY8) (Ga.out Y8 HB8.out))
    clear L9 nI bY8 k7c hp8
    go_upto_region 20 with fail
    (try rw[hY8])
    clear hY8
    obtain⟨_,q0,q1,q2,q3,q4,q5⟩:=KS.out Y8 HB8.out
    have c0:Y8.cell? ⟨W8.heap.size,0,none⟩=some (.string ack):=PS.out.cell 0 (by simp)
    have c1:Y8.cell? ⟨W8.heap.size,1,none⟩=some (.string uL):=PS.out.cell 1 (by simp)
    have c2:Y8.cell? ⟨W8.heap.size,2,none⟩=some (.int .i64 nL):=PS.out.cell 2 (by simp)
    have c3:Y8.cell? ⟨W8.heap.size,3,none⟩=some (.string uM):=PS.out.cell 3 (by simp)
    have c4:Y8.cell? ⟨W8.heap.size,4,none⟩=some (.slice a8 nr k8):=PS.out.cell 4 (by simp)
    have c5:Y8.cell? ⟨W8.heap.size,5,none⟩=some (.string uN):=PS.out.cell 5 (by simp)
    go_wp2_with fail
    refine DK.out.mono ?_
    rintro e W9 ⟨rfl,ou⟩
    have jr:=hide (aj ou nA.out)
    clear ou
    go_wp2_with fail
    go_meet
    case rel=>exact jr.out
   ·obtain⟨k3c,_⟩:=KS.out W5 Av.out
    have nA:=hide (aj Av.out HB3.out)
    go_wp2_with fail
    go_meet
    case rel=>exact nA.out
  case rest =>
   obtain⟨Z2,rfl⟩:∃x,x=wc:=⟨_,rfl⟩
   have adU:=hide hcut
   clear hcut KS UA zx HS2 HS3 Av Ua HB3 HB2 PN HB1 sU adP adQ adR Ga Xh HXB HXO HXZ
   have hsm:qQ jB Xg=qQ iG Xg:=(Dn Xg).symm
   obtain⟨pq,hpq⟩:∃p,qQ iG Xg=p:=⟨_,rfl⟩
   obtain⟨⟨kind',qY,tag',zA,FE,pointer'⟩,wc9⟩:=pq
   have HA1:=hide (fun W (v:Value) (lo:Nat) (h:Below w.heap.size w W) (hs:aX lo W v Xg)=>sH Xg v W (Sg hs HSQ.out) HSQ.out (HE.out W h) (HT.out W h))
   have HA2:=hide (fun W (v:Value) (lo:Nat) (hs:aX lo W v Xg)=>GK Xg v W (WK hs HSQ.out) HSQ.out)
   rw[hsm,hpq] at HA1
   rw[hpq] at HA2
   unfold fU bY at HA1 HA2
   dsimp only at HA1 HA2
   have Ut:=hide (fun W (a:Option Addr) (c:Nat) (lo:Nat) (h:Below w.heap.size w W) (hs:aX lo W (.slice a UE.length c) UE)=>(yG UE a c W hs HSR.out (HE.out W h)).mono fun _ _ hp=>Kc HSR.out hp)
   have HA4:=hide (fun W (a:Option Addr) (c:Nat) (lo:Nat) (hs:aX lo W (.slice a UE.length c) UE) (h1:UE.length≤c) (h2:c≤9223372036854775807)=>(GV UE a c W hs h1 h2 HSR.out).mono fun _ _ hp=>PL hp)
   rw[Fw] at HA4
   obtain⟨pr,hpr⟩:∃p,lM UE=p:=⟨_,rfl⟩
   rw[hpr] at Ut HA4
   have Xi:=hide (fun(v u:Value) W (l1 l2:Nat) (h1:bq l1 W v pr.1.rows) (h2:bq l2 W u pr.1.rows)=>JM pr.1 v u W h1 h2)
   obtain⟨⟨ack,uL,nL,uM,rows,uN⟩,ok9⟩:=pr
   unfold gU at Ut HA4 Xi
   dsimp only at Ut HA4 Xi
   obtain⟨nr,hnr⟩:∃x,rows.length=x:=⟨_,rfl⟩
   rw[hnr] at Ut HA4
   obtain⟨nq,hnq⟩:∃x,Xg.length=x:=⟨_,rfl⟩
   obtain⟨nn,hnn⟩:∃x,UE.length=x:=⟨_,rfl⟩
   rw[hnn] at Ut HA4
   have HNQ:=hide hnq
   have Um:=hide hnn
   clear hsm hpq hpr hnr hnq hnn
   go_wp2_with fail
   refine(Kj.out Z2 adU.out).mono ?_
   rintro e V1 ⟨u1,rfl,hs1,hb1⟩
   obtain⟨a1,k1,rfl,_⟩:=At.form hs1
   rw[HNQ.out] at hs1 ⊢
   have HB1:=hide (aj hb1 adU.out)
   have HR1:=hide (HA1.out V1 _ _ HB1.out hs1)
   clear hs1 hb1
   go_wp2_with fail
   refine HR1.out.mono ?_
   rintro e V2 ⟨rfl,hb2⟩
   obtain⟨G2,hG2⟩:∃x,V2.alloc (Obj.cells #[.int .i64 kind',.string qY,.string tag',.string zA,.int .i64 FE,.string pointer'] 24)=x:=⟨_,rfl⟩
   have bG2:Below V2.heap.size V2 G2:=by rw[←hG2];exact aO _ _
   have afJ:Hid (aU G2 V2.heap.size 24 #[.int .i64 kind',.string qY,.string tag',.string zA,.int .i64 FE,.string pointer']):=by rw[←hG2];exact aU.new _ _ _
   have HB2:=hide (aj bG2 (aj hb2 HB1.out))
   clear hb2 bG2
   go_upto_region 23 with fail
   (try rw[hG2])
   clear hG2
   go_wp2_with fail
   refine(Kj.out G2 HB2.out).mono ?_
   rintro e V3 ⟨u3,rfl,hs3,hb3⟩
   obtain⟨a3,k3,rfl,_⟩:=At.form hs3
   rw[HNQ.out] at hs3 ⊢
   have HB3:=hide (aj hb3 HB2.out)
   have HR3:=hide (HA2.out V3 _ _ hs3)
   have Ua:=hide hb3
   clear hs3 hb3
   go_wp2_with fail
   refine HR3.out.mono ?_
   rintro e V4 ⟨rfl,hb4⟩
   obtain⟨G4,hG4⟩:∃x,V4.alloc (Obj.cells #[.int .i64 kind',.string qY,.string tag',.string zA,.int .i64 FE,.string pointer'] 24)=x:=⟨_,rfl⟩
   have bG4:Below V4.heap.size V4 G4:=by rw[←hG4];exact aO _ _
   have afK:Hid (aU G4 V4.heap.size 24 #[.int .i64 kind',.string qY,.string tag',.string zA,.int .i64 FE,.string pointer']):=by rw[←hG4];exact aU.new _ _ _
   have adV:=hide (aj bG4 (aj hb4 Ua.out))
   have o7:=hide (aj adV.out HB2.out)
   clear hb4 bG4
   go_upto_region 24 with fail
   (try rw[hG4])
   clear hG4
   go_wp2_with fail
   refine(HRR.out G4 o7.out).mono ?_
   rintro e V5 ⟨u5,rfl,⟨hs5,_⟩,hb5⟩
   obtain⟨a5,k5,rfl,_⟩:=At.form hs5
   rw[Um.out] at hs5 ⊢
   have Gu:=hide hb5
   have Np:=hide (Ut.out V5 a5 k5 _ (aj hb5 o7.out) hs5)
   clear hs5 hb5
   go_wp2_with fail
   refine Np.out.mono ?_
   rintro e V6 ⟨a6,k6,rfl,hs6,hb6⟩
   obtain⟨G6,hG6⟩:∃x,V6.alloc (Obj.cells #[.string ack,.string uL,.int .i64 nL,.string uM,.slice a6 nr k6,.string uN] 38)=x:=⟨_,rfl⟩
   have bG6:Below V6.heap.size V6 G6:=by rw[←hG6];exact aO _ _
   have afL:Hid (aU G6 V6.heap.size 38 #[.string ack,.string uL,.int .i64 nL,.string uM,.slice a6 nr k6,.string uN]):=by rw[←hG6];exact aU.new _ _ _
   have aaY:=hide (aj bG6 (aj hb6 Gu.out))
   have Jz:=hide (aj aaY.out o7.out)
   have HS6:=hide (At.kept bE hs6 bG6)
   clear hs6 hb6 bG6
   go_upto_region 25 with fail
   (try rw[hG6])
   clear hG6
   go_wp2_with fail
   refine(HRR.out G6 Jz.out).mono ?_
   rintro e V7 ⟨u7,rfl,⟨hs7,Q0⟩,lU⟩
   obtain⟨a7,n7,k7,rfl,hk7,hm7⟩:=Q0
   have hl7:n7=UE.length:=by obtain⟨_,_,e,_⟩:=At.form hs7;injection e
   rw[Um.out] at hl7
   subst hl7
   have afM:=hide lU
   have HR7:=hide (HA4.out V7 a7 k7 _ hs7 hk7 hm7)
   clear hs7 lU hk7 hm7
   go_wp2_with fail
   refine HR7.out.mono ?_
   rintro e V8 ⟨a8,k8,rfl,L9,nI⟩
   obtain⟨G8,hG8⟩:∃x,V8.alloc (Obj.cells #[.string ack,.string uL,.int .i64 nL,.string uM,.slice a8 nr k8,.string uN] 38)=x:=⟨_,rfl⟩
   have bG8:Below V8.heap.size V8 G8:=by rw[←hG8];exact aO _ _
   have PU:Hid (aU G8 V8.heap.size 38 #[.string ack,.string uL,.int .i64 nL,.string uM,.slice a8 nr k8,.string uN]):=by rw[←hG8];exact aU.new _ _ _
   have Ub:=hide (aj bG8 (aj nI afM.out))
   have HB8:=hide (aj Ub.out Jz.out)
   have DK:=hide (Xi.out (.slice a6 nr k6) (.slice a8 nr k8) G8 _ _ (At.kept bE HS6.out Ub.out) (At.kept bE L9 bG8))
   have o2:=afJ.out.below (aj Ub.out (aj aaY.out adV.out))
   have o4:=afK.out.below (aj Ub.out aaY.out)
   have o6:=afL.out.below Ub.out
   clear L9 nI bG8
   go_upto_region 26 with fail
   (try rw[hG8])
   clear hG8
   have p0:G8.cell? ⟨V2.heap.size,0,none⟩=some (.int .i64 kind'):=o2.cell 0 (by simp)
   have p1:G8.cell? ⟨V2.heap.size,1,none⟩=some (.string qY):=o2.cell 1 (by simp)
   have p2:G8.cell? ⟨V2.heap.size,2,none⟩=some (.string tag'):=o2.cell 2 (by simp)
   have p3:G8.cell? ⟨V2.heap.size,3,none⟩=some (.string zA):=o2.cell 3 (by simp)
   have p4:G8.cell? ⟨V2.heap.size,4,none⟩=some (.int .i64 FE):=o2.cell 4 (by simp)
   have p5:G8.cell? ⟨V2.heap.size,5,none⟩=some (.string pointer'):=o2.cell 5 (by simp)
   have q0:G8.cell? ⟨V4.heap.size,0,none⟩=some (.int .i64 kind'):=o4.cell 0 (by simp)
   have q1:G8.cell? ⟨V4.heap.size,1,none⟩=some (.string qY):=o4.cell 1 (by simp)
   have q2:G8.cell? ⟨V4.heap.size,2,none⟩=some (.string tag'):=o4.cell 2 (by simp)
   have q3:G8.cell? ⟨V4.heap.size,3,none⟩=some (.string zA):=o4.cell 3 (by simp)
   have q4:G8.cell? ⟨V4.heap.size,4,none⟩=some (.int .i64 FE):=o4.cell 4 (by simp)
   have q5:G8.cell? ⟨V4.heap.size,5,none⟩=some (.string pointer'):=o4.cell 5 (by simp)
   have g0:G8.cell? ⟨V6.heap.size,0,none⟩=some (.string ack):=o6.cell 0 (by simp)
   have g1:G8.cell? ⟨V6.heap.size,1,none⟩=some (.string uL):=o6.cell 1 (by simp)
   have g2:G8.cell? ⟨V6.heap.size,2,none⟩=some (.int .i64 nL):=o6.cell 2 (by simp)
   have g3:G8.cell? ⟨V6.heap.size,3,none⟩=some (.string uM):=o6.cell 3 (by simp)
   have g4:G8.cell? ⟨V6.heap.size,4,none⟩=some (.slice a6 nr k6):=o6.cell 4 (by simp)
   have g5:G8.cell? ⟨V6.heap.size,5,none⟩=some (.string uN):=o6.cell 5 (by simp)
   have h0:G8.cell? ⟨V8.heap.size,0,none⟩=some (.string ack):=PU.out.cell 0 (by simp)
   have h1:G8.cell? ⟨V8.heap.size,1,none⟩=some (.string uL):=PU.out.cell 1 (by simp)
   have h2:G8.cell? ⟨V8.heap.size,2,none⟩=some (.int .i64 nL):=PU.out.cell 2 (by simp)
   have h3:G8.cell? ⟨V8.heap.size,3,none⟩=some (.string uM):=PU.out.cell 3 (by simp)
   have h4:G8.cell? ⟨V8.heap.size,4,none⟩=some (.slice a8 nr k8):=PU.out.cell 4 (by simp)
   have h5:G8.cell? ⟨V8.heap.size,5,none⟩=some (.string uN):=PU.out.cell 5 (by simp)
   clear o2 o4 o6
   go_wp2_with fail
   refine DK.out.mono ?_
   rintro e V9 ⟨rfl,ou⟩
   have jr:=hide (aj ou HB8.out)
   clear ou
   go_wp2_with fail
   go_ret
   exact⟨rfl,jr.out⟩
end Go.Proofs.YtfdihjnlgdiioaaGreatDoor.dB
