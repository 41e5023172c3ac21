import Derived.Test.YtglcdcekkglmiaaGreatDoorG39
import Derived.Test.YtglcdcekkglmiaaGreatDoorG40
import Derived.Test.YtglcdcekkglmiaaGreatDoorG36
namespace Go.Proofs.YtglcdcekkglmiaaGreatDoor.Msg
open Go.ChangeShapes Go.WideShapes Go.ChangeAt Go.RowKit Go.Shelf
set_option linter.unusedVariables false
set_option linter.unusedSimpArgs false
theorem bytes_snoc (l:List UInt8) (s:ByteArray):Lib.byteCells l++Lib.strCells s=Lib.byteCells (l++s.data.toList):=by
 simp[Lib.byteCells,Lib.strCells]
set_option maxRecDepth 100000 in
set_option maxHeartbeats 16000000 in
theorem snapI_any (xs:List Sess) (v:Value) (w:World) {lo:Nat} (hv:SesssAt lo w v xs) (hT:TabW w) :
  Calls Tryz.prog 12 #[.agg #[v]] w fun e w'=>e=.returned (.string (snapB xs))∧Below w.heap.size w w':=by
 obtain⟨a,cap,rfl,_⟩:=At.form hv
 obtain⟨n,hnn⟩:∃n,xs.length=n:=⟨_,rfl⟩
 have HN:=hide hnn
 obtain⟨w1,hw1⟩:∃w1,w.alloc (Obj.cells #[.slice a xs.length cap] 25)=w1:=⟨_,rfl⟩
 have hb1:Below w.heap.size w w1:=by rw[←hw1];exact alcB _ _
 have HXT:Hid (Box w1 w.heap.size 25 #[.slice a xs.length cap]):=by rw[←hw1];exact Box.new _ _ _
 have HV:Hid (∀X,Below w1.heap.size w1 X→SesssAt lo X (.slice a xs.length cap) xs):=fun X hX=>At.kept kept_sess hv (bjoin hX hb1)
 have HT:Hid (∀X,Below w1.heap.size w1 X→TabW X):=fun X hX=>hT.kept (bjoin hX hb1)
 have HBO:=hide (bookOf_any xs _ w1 (HV.out w1 (Below.refl _ _)))
 have HB1:=hide hb1
 rw[hnn] at HXT HV HBO hw1 ⊢
 have KD:Hid (∀X,Below w1.heap.size w1 X→X.cell? ⟨w.heap.size,0,none⟩=some (.slice a n cap)):=fun X hX=>(HXT.out.below hX).cell 0 (by simp)
 have HW1:=hide hw1
 have d0:=KD.out w1 (Below.refl _ _)
 clear hv hb1 hw1 hnn hT
 go_enter Tryz.func12,Tryz.ntmps12
 go_upto_region 1 with fail
 (try rw[HW1.out])
 go_wp2_with fail
 refine HBO.out.mono ?_
 rintro e W1 ⟨hpo,hb⟩
 have HBW:=hide hb
 by_cases htb:tblB xs=true
 ·rw[if_pos htb] at hpo
  obtain⟨K,M,ov,nm,ps,bs,rfl,_,_,_⟩:=hpo
  have HX:Hid (snapB xs=⟨(outL xs).toArray⟩):=by show _=_;unfold snapB;rw[htb];rfl
  have HTB:=hide (tblB_sess htb)
  have hn16:n≤16:=by rw[←HN.out];exact HTB.out.1
  obtain⟨W2,hW2⟩:∃x,W1.alloc (Obj.cells #[.pointer none,.slice none 0 0] 68)=x:=⟨_,rfl⟩
  have HIB:Hid (Lib.IsBuilder 68 5 W1.heap.size W1.heap.size [] W2):=by rw[←hW2];exact Lib.fresh_isBuilder _ _ W1
  have HB2:Hid (Below W1.heap.size W1 W2):=by rw[←hW2];exact alcB _ _
  have HW2:=hide hW2
  have HLW:Hid (w1.heap.size≤W1.heap.size):=hb.size
  have KW:Hid (∀X,Below W1.heap.size W1 X→Below w1.heap.size w1 X):=fun X hX=>HBW.out.trans (hX.mono HBW.out.size)
  clear d0
  have d0:=KD.out W2 (KW.out W2 HB2.out)
  clear hb hW2 htb
  go_upto_region 4 with fail
  (try rw[HW2.out])
  go_wp2_with fail
  go_loopg [14] n (fun q i wr=>∃(k:Nat),k≤n∧q=n - k∧i=.int .i64 (k:Int)∧Lib.IsBuilder 68 5 W1.heap.size W1.heap.size (Lib.byteCells (outL (xs.take k))) wr∧Below W1.heap.size W1 wr)
  case atStart=>exact⟨0,zrL _,rfl,rfl,HIB.out,HB2.out⟩
  case round =>
   obtain⟨k,hk,rfl,rfl,hIB,hbr⟩:=hrel
   obtain⟨Y,rfl⟩:∃x,x=wr:=⟨_,rfl⟩
   have HIY:=hide hIB
   have HBR:=hide hbr
   clear hIB hbr d0
   by_cases hlt:k<n
   ·have hki:(k:Int)<(n:Int):=by omega
    have hk0:(0:Int)≤(k:Int):=by omega
    have hk9:(k:Int)≤100:=by omega
    have hkl:k<xs.length:=by rw[HN.out];exact hlt
    obtain⟨s,hs⟩:∃s,xs[k]=s:=⟨_,rfl⟩
    have hsB:sessB s=true:=by rw[←hs];exact HTB.out.2 k hkl
    have HSB:=hide hsB
    have HSTEP:Hid (outL (xs.take (k+1))=outL (xs.take k)++snapL (pastS s)):=by show _=_;rw[outL_step xs k hkl,hs]
    obtain⟨a',cap',ea,hel⟩:=At.form (HV.out w1 (Below.refl _ _))
    rw[HN.out] at ea
    injection ea with e1 _ e3
    subst e1 e3
    obtain⟨b,off,rfl,_,hbl,g⟩:=hel k hkl
    rw[hs] at g
    obtain⟨p,hp⟩:∃p,off+k * 7=p:=⟨_,rfl⟩
    rw[hp] at g
    obtain⟨h0,h1,h2,h3,h4,h6,z1,z2,ve,h5,hrows⟩:=g
    have hBY:=KW.out Y HBR.out
    have g0:=(hBY.cell (p:=⟨b,p,none⟩) hbl).trans h0
    have g1:=(hBY.cell (p:=⟨b,p+1,none⟩) hbl).trans h1
    have g2:=(hBY.cell (p:=⟨b,p+2,none⟩) hbl).trans h2
    have g3:=(hBY.cell (p:=⟨b,p+3,none⟩) hbl).trans h3
    have g4:=(hBY.cell (p:=⟨b,p+4,none⟩) hbl).trans h4
    have g5:=(hBY.cell (p:=⟨b,p+5,none⟩) hbl).trans h5
    have g6:=(hBY.cell (p:=⟨b,p+6,none⟩) hbl).trans h6
    clear h0 h1 h2 h3 h4 h5 h6 hBY
    obtain⟨ar,cr,rfl,_⟩:=At.form hrows
    obtain⟨nr,hnr⟩:∃q,s.rows.length=q:=⟨_,rfl⟩
    rw[hnr] at g5 hrows
    have HRW:Hid (∀X,Below w1.heap.size w1 X→StrsAt lo X (.slice ar nr cr) s.rows):=fun X hX=>At.kept kept_str hrows hX
    obtain⟨X0,hX0⟩:∃x,Y.alloc (Obj.cells #[.int .i64 s.client,.string s.tag,.string s.query,.int .i64 s.page,.int .i64 s.state,.slice ar nr cr,.int .i64 s.cursor] 41)=x:=⟨_,rfl⟩
    have hbx:Below Y.heap.size Y X0:=by rw[←hX0];exact alcB _ _
    have HBX:Hid (Box X0 Y.heap.size 41 #[.int .i64 s.client,.string s.tag,.string s.query,.int .i64 s.page,.int .i64 s.state,.slice ar nr cr,.int .i64 s.cursor]):=by rw[←hX0];exact Box.new _ _ _
    obtain⟨k0,k1,k2,k3,k4,k5,k6⟩:=box7s HBX.out
    have HPA:=hide (past_any s ar nr cr hnr X0)
    rw[past_same hsB] at HPA
    have HI0:=hide (isb_below HIY.out hbx)
    have HB0:=hide (HBR.out.trans (hbx.mono HBR.out.size))
    have HX0:=hide hX0
    clear hs hel hrows hbx hX0 hsB hnr
    go_upto_region 7 with fail
    (try rw[HX0.out])
    clear g0 g1 g2 g3 g4 g5 g6
    go_wp2_with fail
    refine HPA.out.mono ?_
    rintro e V0 ⟨pv,rfl,hF0,hv0⟩
    obtain⟨cs,hcs⟩:∃cs,pastS s=cs:=⟨_,rfl⟩
    have HOF:Hid (∀c∈cs,OfS s c):=by rw[←hcs];exact ofS_past s
    have HP6:Hid (cs.length≤6):=by rw[←hcs];exact pastS_len s
    rw[hcs] at hF0 HSTEP
    obtain⟨a6,c6,e6,_⟩:=hF0.form
    obtain⟨n6,hn6⟩:∃q,cs.length=q:=⟨_,rfl⟩
    rw[hn6] at e6
    subst e6
    have HN6:=hide hn6
    have HF6:=hide hF0
    have HI6:=hide (isb_below HI0.out hv0)
    have HB6:=hide (HB0.out.trans (hv0.mono HB0.out.size))
    obtain⟨P,hP⟩:∃P,outL (xs.take k)=P:=⟨_,rfl⟩
    have HPL:Hid (P.length≤5947392):=by
     show _≤_
     rw[←hP]
     have h1:=outL_len (xs.take k)
     have h2:(xs.take k).length≤16:=by rw[List.length_take];omega
     omega
    rw[hP] at HSTEP HI6
    clear hcs hP hF0 hv0 hn6 k0 k1 k2 k3 k4 k5 k6
    go_wp2_with fail
    go_loopg [21] n6 (fun q jv wx=>∃(j:Nat),j≤n6∧q=n6 - j∧jv=.int .i64 (j:Int)∧Lib.IsBuilder 68 5 W1.heap.size W1.heap.size (Lib.byteCells (P++snapL (cs.take j))) wx∧FB (snC (.slice ar nr cr)) 7 28 X0.heap.size wx (.slice a6 n6 c6) cs∧Below W1.heap.size W1 wx)
    case atStart=>exact⟨0,zrL _,rfl,rfl,by simpa [snapL] using HI6.out,HF6.out,HB6.out⟩
    case round =>
     obtain⟨j,hj,rfl,rfl,hIB,hF,hbr⟩:=hrel
     obtain⟨Z,rfl⟩:∃x,x=wr:=⟨_,rfl⟩
     have HIZ:=hide hIB
     have HFZ:=hide hF
     have HBZ:=hide hbr
     clear hIB hF hbr
     by_cases hjl:j<n6
     ·have hji:(j:Int)<(n6:Int):=by omega
      have hj0:(0:Int)≤(j:Int):=by omega
      have hj9:(j:Int)≤100:=by have:=HP6.out;have:=HN6.out;omega
      have hjc:j<cs.length:=by rw[HN6.out];exact hjl
      obtain⟨b6,off6,ea6,hbl6,q0,q1,q2,q3,q4,q5,q6⟩:=cg_cells HFZ.out (by have:=HP6.out;omega) j hjc
      subst ea6
      obtain⟨c,hc⟩:∃c,cs[j]=c:=⟨_,rfl⟩
      have hof:OfS s c:=by rw[←hc];exact HOF.out _ (List.getElem_mem hjc)
      have HTK:Hid (P++snapL (cs.take (j+1))=P++snapL (cs.take j)++recC c):=by show _=_;rw[snapL_step cs j hjc,hc,List.append_assoc]
      rw[hc] at q0 q1 q2 q3 q4 q5 q6
      obtain⟨av,nv,cv,hcg⟩:∃a n c9,cgR (.slice ar nr cr) c=.slice a n c9:=by unfold cgR;split;exact⟨_,_,_,rfl⟩;exact⟨_,_,_,rfl⟩
      obtain⟨Z1,hZ1⟩:∃x,Z.alloc (Obj.cells #[.int .i64 c.kind,.int .i64 c.client,.string c.tag,.string c.query,.int .i64 c.page,.slice av nv cv,.int .i64 c.n] 28)=x:=⟨_,rfl⟩
      have hbz:Below Z.heap.size Z Z1:=by rw[←hZ1];exact alcB _ _
      have HBC:Hid (Box Z1 Z.heap.size 28 #[.int .i64 c.kind,.int .i64 c.client,.string c.tag,.string c.query,.int .i64 c.page,.slice av nv cv,.int .i64 c.n]):=by rw[←hZ1];exact Box.new _ _ _
      obtain⟨r0,r1,r2,r3,r4,r5,r6⟩:=box7s HBC.out
      have HBZ1:=hide (HBZ.out.trans (hbz.mono HBZ.out.size))
      have hrw:=cg_rows hof (HRW.out Z1 (KW.out Z1 HBZ1.out))
      rw[hcg] at q5 hrw
      have HEN:=hide (encI_any c (.slice av nv cv) Z1 (ofS_small HSB.out hof).1 (ofS_small HSB.out hof).2 hrw (HT.out Z1 (KW.out Z1 HBZ1.out)))
      unfold chgV at HEN
      have HIZ1:=hide (isb_below HIZ.out hbz)
      have HFZ1:=hide (HFZ.out.below hbz)
      obtain⟨E,hE⟩:∃E,encB c=E:=⟨_,rfl⟩
      have HRE:=hide (fun W=>record_any E W (by rw[←hE];have:=encB_size c;omega))
      have hRL:=(recC_len c).2
      rw[hE] at HEN hRL
      obtain⟨R,hR⟩:∃R,recB E=R:=⟨_,rfl⟩
      rw[hR] at HRE hRL
      have HRC:Hid (recC c=R.data.toList):=by show _=_;unfold recC;rw[hE,hR]
      obtain⟨pk,hpk⟩:∃q,off6+j * 7=q:=⟨_,rfl⟩
      rw[hpk] at q0 q1 q2 q3 q4 q5 q6
      obtain⟨PP,hPP⟩:∃q,P++snapL (cs.take j)=q:=⟨_,rfl⟩
      have hPPL:PP.length≤6319104:=by
       rw[←hPP,List.length_append]
       have h1:=snapL_len (cs.take j)
       have h2:(cs.take j).length≤6:=by rw[List.length_take];have:=HP6.out;have:=HN6.out;omega
       have h3:=HPL.out
       omega
      have HPPL:=hide hPPL
      rw[hPP] at HIZ1 HTK
      have HRL:=hide hRL
      have HZ1:=hide hZ1
      clear hc hof hrw hcg hE hR hPP hPPL hRL hbz hZ1
      go_upto_region 10 with fail
      (try rw[HZ1.out])
      clear q0 q1 q2 q3 q4 q5 q6
      go_wp2_with fail
      refine HEN.out.mono ?_
      rintro e V1 ⟨rfl,hv1⟩
      have HV1:=hide hv1
      clear hv1 r0 r1 r2 r3 r4 r5 r6
      go_wp2_with fail
      refine(HRE.out _).mono ?_
      rintro e V2 ⟨rfl,hv2⟩
      have HV2:=hide (bjoin hv2 HV1.out)
      clear hv2
      go_wp2_with fail
      refine(writeStr_more W1.heap.size W1.heap.size _ R V2 (isb_below HIZ1.out HV2.out) (by rw[Lib.byteCells_length];have:=HPPL.out;have:=HRL.out;omega) (Nat.le_trans HBZ1.out.size HV2.out.size)).mono ?_
      rintro e V3 ⟨rfl,hI3,hb3,hk3⟩
      rw[bytes_snoc] at hI3
      have HI3:=hide hI3
      have HF3:Hid (FB (snC (.slice ar nr cr)) 7 28 X0.heap.size V3 (.slice (some ⟨b6,off6,none⟩) n6 c6) cs):=hk3.fb (HFZ1.out.below HV2.out)
      have HBV:Hid (Below W1.heap.size W1 V3):=(HBZ1.out.trans (HV2.out.mono HBZ1.out.size)).trans hb3
      clear hI3 hb3 hk3
      go_wp2_with fail
      go_roundg (n6 - (j+1))
      case measure=>omega
      case rel=>exact⟨j+1,by omega,rfl,by go_num,by rw[HTK.out,HRC.out];exact HI3.out,HF3.out,HBV.out⟩
     ·obtain rfl:j=n6:=by omega
      have hji:¬(j:Int)<(j:Int):=by omega
      have HFIN:Hid (P++snapL (cs.take j)=outL (xs.take (k+1))):=by show _=_;rw[HSTEP.out,←HN6.out,List.take_length]
      rw[HFIN.out] at HIZ
      go_wp2_with fail
      go_roundg (n - (k+1))
      case measure=>omega
      case rel=>exact⟨k+1,by omega,rfl,by go_num,HIZ.out,HBZ.out⟩
   ·obtain rfl:k=n:=by omega
    have hki:¬(k:Int)<(k:Int):=by omega
    have HAL:Hid (outL (xs.take k)=outL xs):=by show _=_;rw[←HN.out,List.take_length]
    rw[HAL.out] at HIY
    go_wp2_with fail
    refine(Tryz.Builder_String_any W1.heap.size W1.heap.size _ _ HIY.out HBR.out.size).mono ?_
    rintro e V9 ⟨rfl,hb9⟩
    have HEND:=hide (bjoin (KW.out V9 (HBR.out.trans hb9)) HB1.out)
    clear hb9
    go_wp2_with fail
    go_ret
    exact⟨ret_string HX.out.symm,HEND.out⟩
 ·rw[if_neg htb] at hpo
  subst hpo
  have HX:Hid (snapB xs=⟨#[]⟩):=by show _=_;unfold snapB;rw[if_neg htb]
  have HEND:=hide (bjoin HBW.out HB1.out)
  clear hb
  go_wp2_with fail
  go_ret
  exact⟨ret_string HX.out.symm,HEND.out⟩
end Go.Proofs.YtglcdcekkglmiaaGreatDoor.Msg
namespace Go.Proofs.YtglcdcekkglmiaaGreatDoor.Msg
open Go.ChangeShapes Go.WideShapes Go.ChangeAt Go.RowKit
set_option linter.unusedVariables false
set_option linter.unusedSimpArgs false
theorem roomP_len (ys:List Sess):(roomP ys).length≤ys.length:=by
 unfold roomP
 split
 ·exact leR _
 ·split
  ·exact List.length_eraseIdx_le _ _
  ·exact leR _
theorem openFin_len (xs ys:List Sess) (c:Chg) (h:ys.length≤xs.length):(openFin xs ys c).1.length≤xs.length+1:=by
 unfold openFin
 split
 ·exact Nat.le_succ _
 ·rw[List.length_append,List.length_singleton]
  have:=roomP_len ys
  omega
theorem doP_len (xs:List Sess) (c:Chg):(doP xs c).1.length≤xs.length+1:=by
 unfold doP
 split
 ·unfold openP
  split
  ·split
   ·exact Nat.le_succ _
   ·exact openFin_len _ _ _ (List.length_eraseIdx_le _ _)
  ·exact openFin_len _ _ _ (leR _)
 ·unfold opP
  split
  ·unfold atP
   split
   ·rw[List.length_set];exact Nat.le_succ _
   ·exact Nat.le_succ _
  ·exact Nat.le_succ _
theorem applyP_len (xs:List Sess) (c:Chg):(applyP xs c).1.length≤17:=by
 by_cases h:tblB xs=true∧chgB c=true
 ·rw[applyP_do h.1 h.2]
  have:=doP_len xs c
  have:=(tbl_sm h.1).1
  omega
 ·rw[applyP_not h]
  simp
set_option maxRecDepth 100000 in
set_option maxHeartbeats 16000000 in
theorem applyI_any (xs:List Sess) (v:Value) (c:Chg) (au:Option Addr) (nu cu:Nat) (w:World) {lo lo2:Nat} (hv:SesssAt lo w v xs) (hc1:c.tag.size≤9223372036854775807) (hc2:c.query.size≤9223372036854775807) (hr:StrsAt lo2 w (.slice au nu cu) c.rows) :
  Calls Tryz.prog 6 #[.agg #[v],chgV c (.slice au nu cu)] w (ApPost w (applyP xs c)):=by
 obtain⟨R,hR⟩:∃R,applyP xs c=R:=⟨_,rfl⟩
 have HRL:Hid (R.1.length≤17):=by rw[←hR];exact applyP_len xs c
 rw[hR]
 have HBO:=hide (fun W (h:Below w.heap.size w W)=>bookOf_any xs v W (At.kept kept_sess hv h))
 have HCK:=hide (fun W (h:Below w.heap.size w W)=>isChange_any c (.slice au nu cu) W hc1 hc2 (At.kept kept_str hr h))
 have HAP:=hide (fun(base:Nat) (W:World) (K M:Nat) (ov:Value) (nm:Nat) (ps:List (Sess × Value)) (bs:List Nat) (h:BK base W K M ov nm ps bs) (hbase:base≤W.heap.size) (hV:TV ps) (hnm:nm≤100000) (hck:chgB c=true) (hb:Below w.heap.size w W)=>apply_any h hbase hV hnm c hck hc2 au nu cu (At.kept kept_str hr hb))
 have HDO:=hide (fun(h1:tblB xs=true) (h2:chgB c=true)=>applyP_do h1 h2)
 have HNO:=hide (fun(h:¬(tblB xs=true∧chgB c=true))=>applyP_not h)
 rw[hR] at HDO HNO
 obtain⟨chb,hchb⟩:∃b,chgB c=b:=⟨_,rfl⟩
 rw[hchb] at HCK HAP HDO HNO
 obtain⟨dp,hdp⟩:∃f:List Sess→List Sess × Int,∀ys,doP ys c=f ys:=⟨fun ys=>doP ys c,fun _=>rfl⟩
 have HAP2:Hid (∀(base:Nat) (W:World) (K M:Nat) (ov:Value) (nm:Nat) (ps:List (Sess × Value)) (bs:List Nat) (h:BK base W K M ov nm ps bs) (hbase:base≤W.heap.size) (hV:TV ps) (hnm:nm≤100000) (hck:chb=true) (hb:Below w.heap.size w W),Calls Tryz.prog 30 #[.pointer (some ⟨K,0,none⟩),chgV c (.slice au nu cu)] W (StPost base W K M nm (BIn K M ov ps bs) (dp (ps.map Prod.fst)))):=fun base W K M ov nm ps bs h hbase hV hnm hck hb=>by have:=HAP.out base W K M ov nm ps bs h hbase hV hnm hck hb;rw[hdp] at this;exact this
 have HDO2:Hid (tblB xs=true→chb=true→R=dp xs):=fun h1 h2=>by rw[←hdp];exact HDO.out h1 h2
 clear HAP HDO
 obtain⟨kind,client,tag,query,page,rows,n0⟩:=c
 unfold chgV at HCK HAP2 ⊢
 dsimp only at HCK HAP2 ⊢
 obtain⟨a,cap,rfl,_⟩:=At.form hv
 obtain⟨n,hnn⟩:∃n,xs.length=n:=⟨_,rfl⟩
 rw[hnn] at HBO ⊢
 obtain⟨x3,hx3⟩:∃x,((w.alloc (Obj.cells #[.slice a n cap] 25)).alloc (Obj.cells #[.int .i64 kind,.int .i64 client,.string tag,.string query,.int .i64 page,.slice au nu cu,.int .i64 n0] 28)).alloc (Obj.cells #[.slice none 0 0] 25)=x:=⟨_,rfl⟩
 have s3:x3.heap.size=w.heap.size+3:=by rw[←hx3];simp
 have HO3:Hid (Box x3 w.heap.size 25 #[.slice a n cap]∧Box x3 (w.heap.size+1) 28 #[.int .i64 kind,.int .i64 client,.string tag,.string query,.int .i64 page,.slice au nu cu,.int .i64 n0]∧Box x3 (w.heap.size+2) 25 #[.slice none 0 0]∧Below w.heap.size w x3):=by
  rw[←hx3]
  refine⟨((Box.new w _ _).alloc _).alloc _,?_,?_,?_⟩
  ·have:=(Box.new (w.alloc (Obj.cells #[.slice a n cap] 25)) 28 #[.int .i64 kind,.int .i64 client,.string tag,.string query,.int .i64 page,.slice au nu cu,.int .i64 n0]).alloc (Obj.cells #[.slice none 0 0] 25)
   rw[Deep.nblk_alloc] at this
   exact this
  ·have:=Box.new ((w.alloc (Obj.cells #[.slice a n cap] 25)).alloc (Obj.cells #[.int .i64 kind,.int .i64 client,.string tag,.string query,.int .i64 page,.slice au nu cu,.int .i64 n0] 28)) 25 #[.slice none 0 0]
   rw[Deep.nblk_alloc,Deep.nblk_alloc] at this
   exact this
  ·have h1:=(Below.refl w.heap.size w).alloc (leR _) (Obj.cells #[.slice a n cap] 25)
   have h2:=h1.alloc h1.size (Obj.cells #[.int .i64 kind,.int .i64 client,.string tag,.string query,.int .i64 page,.slice au nu cu,.int .i64 n0] 28)
   exact h2.alloc h2.size _
 have HS3:=hide s3
 have HX3:=hide hx3
 have c0:x3.cell? ⟨w.heap.size,0,none⟩=some (.slice a n cap):=HO3.out.1.cell 0 (by simp)
 have HB3:=hide (HBO.out x3 HO3.out.2.2.2)
 clear hv hr hc1 hc2 hR hchb hdp hnn hx3 s3 HBO
 go_enter Tryz.func6,Tryz.ntmps6
 go_upto_region 1 with fail
 (try rw[HX3.out])
 go_wp2_with fail
 refine HB3.out.mono ?_
 rintro e W1 ⟨hpo,hb1⟩
 have HB1:=hide hb1
 have HW1:Hid (Below w.heap.size w W1):=bjoin hb1 HO3.out.2.2.2
 have HO1:=hide (And.intro (HO3.out.2.1.below hb1) (HO3.out.2.2.1.below hb1))
 clear hb1 c0
 have HCL:Hid (∀U:World,Box U (w.heap.size+1) 28 #[.int .i64 kind,.int .i64 client,.string tag,.string query,.int .i64 page,.slice au nu cu,.int .i64 n0]→U.cell? ⟨w.heap.size+1,0,none⟩=some (.int .i64 kind)∧U.cell? ⟨w.heap.size+1,1,none⟩=some (.int .i64 client)∧U.cell? ⟨w.heap.size+1,2,none⟩=some (.string tag)∧U.cell? ⟨w.heap.size+1,3,none⟩=some (.string query)∧U.cell? ⟨w.heap.size+1,4,none⟩=some (.int .i64 page)∧U.cell? ⟨w.heap.size+1,5,none⟩=some (.slice au nu cu)∧U.cell? ⟨w.heap.size+1,6,none⟩=some (.int .i64 n0)):=fun U o=>⟨o.cell 0 (by simp),o.cell 1 (by simp),o.cell 2 (by simp),o.cell 3 (by simp),o.cell 4 (by simp),o.cell 5 (by simp),o.cell 6 (by simp)⟩
 have HEMPTY:Hid (R=([],9)→∀U,Below w.heap.size w U→ApPost w R (.returned (.tuple #[.agg #[.slice none 0 0],.int .i64 9])) (U.setCell ⟨w.heap.size+2,0,none⟩ (.slice none 0 0))):=fun he U hU=>⟨.slice none 0 0,by rw[he],⟨[],TE.nil _ _,by rw[he];rfl⟩,hU.setCell (p:=⟨w.heap.size+2,0,none⟩) (by dsimp only;omega) _⟩
 by_cases ht:tblB xs=true
 ·rw[if_pos ht] at hpo
  obtain⟨K,M,ov,nm,ps,bs,rfl,hbk,hps,hn16⟩:=hpo
  have HBK:=hide hbk
  have HPS:=hide hps
  have HTV:Hid (TV ps):=tv_of (by rw[hps];exact ht)
  have HNM:=hide hn16
  have HT:=hide ht
  have HCK1:=hide (HCK.out W1 HW1.out)
  obtain⟨q0,q1,q2,q3,q4,q5,q6⟩:=HCL.out W1 HO1.out.1
  clear hbk hps hn16 ht
  cases chb with
  | false =>
   have HE:=hide (HEMPTY.out (HNO.out (by simp)))
   clear HEMPTY HNO
   go_wp2_with fail
   refine HCK1.out.mono ?_
   rintro e W2 ⟨rfl,hb2⟩
   have HW2:Hid (Below w.heap.size w W2):=bjoin hb2 HW1.out
   have HO2:=hide (HO1.out.2.below hb2)
   have z0:W2.cell? ⟨w.heap.size+2,0,none⟩=some (.slice none 0 0):=HO2.out.cell 0 (by simp)
   have zf:=HO2.out.frozen 0
   have zl:=HO2.out.lt
   have HFIN:=hide (HE.out W2 HW2.out)
   clear hb2 q0 q1 q2 q3 q4 q5 q6
   go_wp2_with fail
   exact bodyPost_ret (v:=.tuple #[.agg #[.slice none 0 0],.int .i64 9]) (by simp[results,Tryz.results6,go_sem,z0,zl]) rfl HFIN.out
  | true =>
   clear HEMPTY HNO
   go_wp2_with fail
   refine HCK1.out.mono ?_
   rintro e W2 ⟨rfl,hb2⟩
   have HW2:Hid (Below w.heap.size w W2):=bjoin hb2 HW1.out
   have HBK2:=hide (HBK.out.below hb2)
   have HO2:=hide (And.intro (HO1.out.1.below hb2) (HO1.out.2.below hb2))
   have HAP3:=hide (HAP2.out _ _ _ _ _ _ _ _ HBK2.out (by have:=HBK2.out.own (.inl rfl);omega) HTV.out (by have:=HNM.out;omega) (by first|rfl|trivial) HW2.out)
   rw[HPS.out,←HDO2.out HT.out (by first|rfl|trivial)] at HAP3
   clear q0 q1 q2 q3 q4 q5 q6 hb2
   obtain⟨q0,q1,q2,q3,q4,q5,q6⟩:=HCL.out W2 HO2.out.1
   go_wp2_with fail
   refine HAP3.out.mono ?_
   rintro e W3 ⟨code,rfl,⟨ov3,nm3,ps3,bs3,hbk3,hps3,_,_⟩,hb3⟩
   have HBK3:=hide hbk3
   have HPS3:=hide hps3
   have hkl:=(HBK2.out.own (.inl rfl))
   have HO3':Hid (Box W3 (w.heap.size+2) 25 #[.slice none 0 0]):=HO2.out.2.keep (hb3.block _ (by have:=HS3.out;omega))
   have HW3:Hid (Below w.heap.size w W3):=HW2.out.trans (hb3.mono (by have:=HS3.out;omega))
   have HLEN:Hid (ps3.length≤1000):=by
    show _≤_
    have e1:(ps3.map Prod.fst).length=R.1.length:=by rw[←hps3]
    rw[List.length_map] at e1
    rw[e1]
    have:=HRL.out;omega
   have HTB:=hide (table_any HBK3.out (by have:=HBK3.out.own (.inl rfl);omega) HLEN.out)
   clear q0 q1 q2 q3 q4 q5 q6 hbk3 hps3 hb3 hkl
   go_wp2_with fail
   refine HTB.out.mono ?_
   rintro e W4 ⟨t,rfl,hte,hb4⟩
   have HTE:=hide hte
   have HO4:=hide (HO3'.out.below hb4)
   have HW4:Hid (Below w.heap.size w W4):=bjoin hb4 HW3.out
   have z0:W4.cell? ⟨w.heap.size+2,0,none⟩=some (.slice none 0 0):=HO4.out.cell 0 (by simp)
   have zf:=HO4.out.frozen 0
   have zl:=HO4.out.lt
   have HFIN:Hid (ApPost w R (.returned (.tuple #[.agg #[t],.int .i64 code])) (W4.setCell ⟨w.heap.size+2,0,none⟩ t)):=⟨t,by rw[←HPS3.out],⟨ps3,(HTE.out.low (by have:=HS3.out;omega)).setBox HO4.out t,by rw[←HPS3.out]⟩,HW4.out.setCell (p:=⟨w.heap.size+2,0,none⟩) (by dsimp only;omega) _⟩
   obtain⟨at4,ct4,hform,_⟩:=hte.form
   obtain⟨n4,hn4⟩:∃q,ps3.length=q:=⟨_,rfl⟩
   rw[hn4] at hform
   subst hform
   clear hte hb4 hn4
   go_wp2_with fail
   exact bodyPost_ret (v:=.tuple #[.agg #[.slice at4 n4 ct4],.int .i64 code]) (by simp[results,Tryz.results6,go_sem,z0,zl]) rfl HFIN.out
 ·rw[if_neg ht] at hpo
  subst hpo
  have HE:=hide (HEMPTY.out (HNO.out (fun h=>ht h.1)))
  have z0:W1.cell? ⟨w.heap.size+2,0,none⟩=some (.slice none 0 0):=HO1.out.2.cell 0 (by simp)
  have zf:=HO1.out.2.frozen 0
  have zl:=HO1.out.2.lt
  have HFIN:=hide (HE.out W1 HW1.out)
  clear HEMPTY HNO
  go_wp2_with fail
  exact bodyPost_ret (v:=.tuple #[.agg #[.slice none 0 0],.int .i64 9]) (by simp[results,Tryz.results6,go_sem,z0,zl]) rfl HFIN.out
end Go.Proofs.YtglcdcekkglmiaaGreatDoor.Msg
