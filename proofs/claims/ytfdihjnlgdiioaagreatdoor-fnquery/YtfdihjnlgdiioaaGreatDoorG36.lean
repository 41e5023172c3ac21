import Derived.Test.YtfdihjnlgdiioaaGreatDoorG30
import Derived.Deep.RegionHeld3
namespace Go.Proofs.YtfdihjnlgdiioaaGreatDoor.dB
open Go.ChangeShapes Go.WideShapes Go.ChangeAt Go.RowKit
set_option linter.unusedVariables false
set_option linter.unusedSimpArgs false
theorem toList_nil (s:ByteArray):s.toList=[] ↔ s.size=0:=by
 rw[←qb,List.length_eq_zero_iff]
theorem Dp (r:pK) (h:nM r=false):cK r=[]:=by
 obtain⟨kind,control,tag,query,page,pointer⟩:=r
 unfold nM at h
 simp only at h
 unfold cK
 simp only
 split
 ·rename_i k1
  rw[if_pos k1] at h
  split
  ·rename_i hp
   rw[toList_nil] at hp
   cases hl:newL control tag query page with
   | some c=>rfl
   | none =>
    exfalso
    unfold newL at hl
    split at hl
    ·rename_i h1
     split at hl
     ·rename_i h2
      simp only[Bool.and_eq_true,decide_eq_true_eq] at h1 h2
      simp[h1.1,h1.2,h2.1,h2.2.1,h2.2.2,hp] at h
     ·cases hl
    ·cases hl
  ·rfl
 ·rename_i k1
  rw[if_neg k1] at h
  split
  ·rename_i k2
   rw[if_pos k2] at h
   split
   ·rename_i hp
    cases hl:gJ control tag query pointer with
    | some c=>rfl
    | none =>
     exfalso
     unfold gJ at hl
     split at hl
     ·rename_i h1
      split at hl
      ·rename_i h2
       simp only[Bool.and_eq_true,decide_eq_true_eq] at h1 h2
       rw[h1.1,h1.2,h2.1,h2.2.1,decide_eq_true h2.2.2,decide_eq_true hp] at h
       exact absurd h (by decide)
      ·cases hl
     ·cases hl
   ·rfl
  ·rename_i k2
   rw[if_neg k2] at h
   split
   ·rename_i k3
    split
    ·rename_i hq
     rw[toList_nil,toList_nil] at hq
     split
     ·rename_i h1
      simp only[Bool.and_eq_true] at h1
      simp[h1.1,h1.2,hq.1,hq.2.1,hq.2.2,k3] at h
     ·rfl
    ·rfl
   ·rfl
theorem acW {control tag query pointer:ByteArray} {page:Int} (h:nM ⟨1,control,tag,query,page,pointer⟩=true):1≤page∧page≤50∧cK ⟨1,control,tag,query,page,pointer⟩=mg control tag query (bR page.toNat):=by
 unfold nM at h
 simp only[if_pos,Bool.and_eq_true,decide_eq_true_eq] at h
 obtain⟨h1,h2,h3,h4,h5,h6⟩:=h
 refine⟨h4,h5,?_⟩
 have hp:=(toList_nil pointer).2 h6
 simp[cK,newL,h1,h2,h3,h4,h5,hp]
theorem acX {control tag query pointer:ByteArray} {page:Int} (h:nM ⟨2,control,tag,query,page,pointer⟩=true):cK ⟨2,control,tag,query,page,pointer⟩=iC control tag query pointer:=by
 unfold nM at h
 simp only[show ¬(2:Int)=1 from by decide,if_neg,if_pos,not_false_eq_true,Bool.and_eq_true,decide_eq_true_eq] at h
 obtain⟨h1,h2,h3,h4,h5,h6⟩:=h
 simp[cK,gJ,h1,h2,h3,h4,h5,h6]
theorem acY {control tag query pointer:ByteArray} {page:Int} (h:nM ⟨3,control,tag,query,page,pointer⟩=true):cK ⟨3,control,tag,query,page,pointer⟩=fI control tag:=by
 unfold nM at h
 simp only[show ¬(3:Int)=1 from by decide,show ¬(3:Int)=2 from by decide,if_neg,not_false_eq_true,Bool.and_eq_true,decide_eq_true_eq] at h
 obtain⟨h1,h2,_,h4,h5,h6⟩:=h
 have hq:=(toList_nil query).2 h4
 have hp:=(toList_nil pointer).2 h6
 simp[cK,h1,h2,hq,h5,hp]
theorem JL {r:pK} (h:nM r=true):r.kind=1∨r.kind=2∨r.kind=3:=by
 unfold nM at h
 by_cases k1:r.kind=1
 ·exact .inl k1
 by_cases k2:r.kind=2
 ·exact .inr (.inl k2)
 ·simp only[if_neg k1,if_neg k2,Bool.and_eq_true,decide_eq_true_eq] at h
  exact .inr (.inr h.2.2.1)
theorem wm (r:pK) (w:World) (h1:r.control.size≤1048576) (h2:r.tag.size≤1048576) (h3:r.query.size≤1048576) (h4:r.pointer.size≤1048576) :
  Calls Tryz.prog 7 #[bY r] w (pE w (cK r)):=by
 cases hok:nM r with
 | false=>rw[Dp r hok];exact LK r w h1 h2 h3 h4 hok
 | true =>
  obtain⟨kind,control,tag,query,page,pointer⟩:=r
  have hk:=JL hok
  simp only at h1 h2 h3 h4 hk
  rcases hk with rfl|rfl|rfl
  ·obtain⟨p1,p2,e⟩:=acW hok
   obtain⟨u,rfl⟩:=Int.eq_ofNat_of_zero_le (show 0≤page by omega)
   rw[e]
   exact LP control tag query pointer u w h1 h2 h3 h4 (by omega) hok
  ·rw[acX hok];exact Jy control tag query pointer page w h1 h2 h3 h4 hok
  ·rw[acY hok];exact Ej control tag query pointer page w h1 h2 h3 h4 hok
theorem Mx.only {w w':World} (h:Mx w) {bs:List Nat} (ho:Only bs w w') (h0:1 ∉ bs):Mx w':=by
 have hp:=h.pos
 obtain⟨m,hm⟩:=h
 exact⟨m,by rw[fZ (ho.block 1 hp h0)];exact hm⟩
theorem qR {bs:List Nat} {w w':World} (ho:Only bs w w') {b o:Nat} (h1:b<w.heap.size) (h2:b ∉ bs):w'.cell? ⟨b,o,none⟩=w.cell? ⟨b,o,none⟩:=fZ (ho.block b h1 h2)
set_option maxRecDepth 100000 in
set_option maxHeartbeats 8000000 in
theorem Au (name:ByteArray) (xs:List Field) (v:Value) (bs:List Nat) (d:ByteArray) (w:World) (hd:d.size=5) (hv:aN w v xs bs) (hnd:bs.Nodup) (h0:1 ∉ bs) (hm:Mx w) (hz:∀f∈xs,∀r∈f,∀c∈r,c.size≤40000) (hll:xs.length≤1048576) (hl2:∀f∈xs,f.length≤1048576) (hl3:∀f∈xs,∀r∈f,r.length≤1048576) :
  Calls Tryz.prog 61 #[.agg #[.string name,v],.string d] w fun e w'=>e=.returned (.bool (dK (dK (dK (plainO d hd))) xs).isSome)∧Only bs w w'∧∀ys,dK (dK (dK (plainO d hd))) xs=some ys→aN w' v ys bs:=by
 obtain⟨a,c,rfl⟩:=dA hv
 have HZ:=hide hz
 have HL2:=hide hl2
 have PX:=hide hl3
 have GX:=hide hnd
 have H0:=hide h0
 have hb0:=(Below.refl w.heap.size w).alloc (aS _) (Obj.cells #[.string name,.slice a xs.length c] 54)
 have PY:=hide (Only.of_below (bs:=bs) hb0)
 have HV:=hide (bS.kept bQ hv hb0.size (fun e he=>hb0.block e (bS.lt dD hv e he)))
 have HM:=hide hm
 have ZO:Hid (∀t,plainO d hd t=(kQ d[0] d[1] d[2] d[3] d[4] t.data.toList).map txt):=fun _=>rfl
 clear hz hl2 hl3 hnd h0 hv hm hb0
 go_enter Tryz.func61,Tryz.ntmps61
 go_wp2_with fail
 go_loopg [16] xs.length (fun n i wr=>∃(k:Nat) (ys:List Field),k≤xs.length∧n=xs.length - k∧i=.int .i64 k∧ys.length=k∧dK (dK (dK (plainO d hd))) xs=(dK (dK (dK (plainO d hd))) (xs.drop k)).map (ys++·)∧aN wr (.slice a xs.length c) (ys++xs.drop k) bs∧Only bs w wr)
 case atStart=>exact⟨0,[],eH _,by simp,rfl,rfl,by simp,by show aN _ _ (xs.drop 0) _;rw[List.drop_zero];exact HV.out,PY.out⟩
 case round =>
  obtain⟨k,ys,hk,rfl,rfl,hyl,hE,hO,ho⟩:=hrel
  obtain⟨W1,rfl⟩:∃x,x=wr:=⟨_,rfl⟩
  have HYL:=hide hyl
  have HE:=hide hE
  have HO:=hide hO
  have HOW:=hide ho
  clear hyl hE hO ho
  by_cases hlt:k<xs.length
  ·obtain⟨b,off,cap,ve,Cr,hvf,hbl,hbn,hsub,acZ,hce,hOe,hup⟩:=Ie (O:=bP) (fun _ _ _ _ _ h s d=>bS.kept fD h s d) (fun _ _ _ _ h=>bS.lt dJ h) HO.out GX.out (i:=k) (by rw[xE ys xs k (by omega) HYL.out];exact hlt)
   rw[xE ys xs k (by omega) HYL.out] at hvf
   injection hvf with hva _ hvc
   subst hva hvc
   rw[KC ys xs k hlt HYL.out] at hOe
   obtain⟨f,hf⟩:∃f,xs[k]=f:=⟨_,rfl⟩
   have HF:=hide hf
   rw[hf] at hOe
   have hfm:f∈xs:=by rw[←hf];exact List.getElem_mem hlt
   obtain⟨a2,c2,rfl⟩:=dN hOe
   have hfl:=HL2.out f hfm
   have HUP:=hide hup
   have WB:=hide hsub
   have afb:=hide acZ
   have HOE:=hide hOe
   have HFM:=hide hfm
   have hbW:Below W1.heap.size W1 (W1.alloc (Obj.cells #[.slice a2 f.length c2] 57)):=aO _ _
   have HO1:=hide (Only.of_below (bs:=Cr) hbW)
   have F4:=hide (bS.kept fD hOe hbW.size (fun e he=>hbW.block e (bS.lt dJ hOe e he)))
   clear hup hsub acZ hOe hfm hf hbW
   go_wp2_with fail
   go_loopg [23] f.length (fun n i wr=>∃(q:Nat) (zs:List lW),q≤f.length∧n=f.length - q∧i=.int .i64 q∧zs.length=q∧dK (dK (plainO d hd)) f=(dK (dK (plainO d hd)) (f.drop q)).map (zs++·)∧bP wr (.slice a2 f.length c2) (zs++f.drop q) Cr∧Only Cr W1 wr)
   case atStart=>exact⟨0,[],eH _,by simp,rfl,rfl,by simp,by show bP _ _ (f.drop 0) _;rw[List.drop_zero];exact F4.out,HO1.out⟩
   case round =>
    obtain⟨q,zs,hq,rfl,rfl,hzl,hE2,hO2,ho2⟩:=hrel
    obtain⟨W2,rfl⟩:∃x,x=wr:=⟨_,rfl⟩
    have HZL:=hide hzl
    have HE2:=hide hE2
    have HO2:=hide hO2
    have WC:=hide ho2
    clear hzl hE2 hO2 ho2
    by_cases hq2:q<f.length
    ·obtain⟨b2,off2,cap2,vr,yH,ac0,Kn,ahg,hsub2,Vv,hcr,hOr,ac1⟩:=Ie (O:=fV) (fun _ _ _ _ _ h s d=>bS.kept d9 h s d) (fun _ _ _ _ h=>bS.lt jy h) HO2.out afb.out (i:=q) (by rw[xE zs f q (by omega) HZL.out];exact hq2)
     rw[xE zs f q (by omega) HZL.out] at ac0
     injection ac0 with afc _ afd
     subst afc afd
     rw[KC zs f q hq2 HZL.out] at hOr
     obtain⟨r,hr⟩:∃r,f[q]=r:=⟨_,rfl⟩
     have HR:=hide hr
     rw[hr] at hOr
     have hrm:r∈f:=by rw[←hr];exact List.getElem_mem hq2
     obtain⟨a3,c3,rfl⟩:=ow hOr
     have hrl:=PX.out f HFM.out r hrm
     have XL:=hide (HZ.out f HFM.out r hrm)
     have afe:=hide ac1
     have Tc:=hide hsub2
     have YU:=hide (bS.lt jy hOr)
     have hbW2:Below W2.heap.size W2 (W2.alloc (Obj.cells #[.slice a3 r.length c3] 60)):=aO _ _
     have HO3:=hide (Only.of_below (bs:=yH) hbW2)
     have HV2:=hide (bS.kept d9 hOr hbW2.size (fun e he=>hbW2.block e (bS.lt jy hOr e he)))
     have jr:Hid (∀wX,Only yH (W2.alloc (Obj.cells #[.slice a3 r.length c3] 60)) wX→wX.cell? ⟨W2.heap.size,0,none⟩=some (.slice a3 r.length c3)):=fun wX h=>by
      rw[qR h (by simp) (fun hm=>by have:=YU.out _ hm;omega)];simp
     clear ac1 hsub2 Vv hOr hrm hr hbW2
     go_wp2_with fail
     go_loopg [30] r.length (fun n i wr=>∃(p:Nat) (ts:List ByteArray),p≤r.length∧n=r.length - p∧i=.int .i64 p∧ts.length=p∧dK (plainO d hd) r=(dK (plainO d hd) (r.drop p)).map (ts++·)∧fV wr (.slice a3 r.length c3) (ts++r.drop p) yH∧Only yH (W2.alloc (Obj.cells #[.slice a3 r.length c3] 60)) wr)
     case atStart=>exact⟨0,[],eH _,by simp,rfl,rfl,by simp,by show fV _ _ (r.drop 0) _;rw[List.drop_zero];exact HV2.out,Only.refl _ _⟩
     case round =>
      obtain⟨p,ts,hp,rfl,rfl,htl,hE3,hO3,ho3⟩:=hrel
      obtain⟨W3,rfl⟩:∃x,x=wr:=⟨_,rfl⟩
      have HTL:=hide htl
      have HE3:=hide hE3
      have ac2:=hide hO3
      have WE:=hide ho3
      have Vl:Hid (Only bs w W3):=(HOW.out.trans (WC.out.mono WB.out)).trans ((HO3.out.mono (fun e he=>WB.out e (Tc.out e he))).trans (ho3.mono (fun e he=>WB.out e (Tc.out e he))))
      clear htl hE3 hO3 ho3
      by_cases hp2:p<r.length
      ·have hlm:(ts++r.drop p).length=r.length:=xE ts r p (by omega) HTL.out
       obtain⟨b3,mq,Af,ac3,Ny,ahh,hc3,hf3,hput⟩:=QH ac2.out (i:=p) (by rw[hlm];exact hp2)
       rw[hlm] at ac3
       injection ac3 with aff _ afg
       subst aff afg
       rw[KC ts r p hp2 HTL.out] at hc3
       have ZH:=hide hput
       have hrz:=XL.out r[p] (List.getElem_mem hp2)
       have Oq:=jr.out _ WE.out
       have Kv:W2.heap.size<W3.heap.size:=by have:=WE.out.size;simp at this;omega
       have HM3:=hide (HM.out.only Vl.out H0.out)
       have hpi:(p:Int)<(r.length:Int):=by omega
       clear hlm hput
       go_wp2_with fail
       refine(Jw r[p] d _ hrz hd HM3.out).mono ?_
       rintro e W4 ⟨rfl,hb4⟩
       have ac4:=hide (Vl.out.trans (Only.of_below (bs:=bs) hb4))
       cases hpl:kQ d[0] d[1] d[2] d[3] d[4] r[p].data.toList with
       | none =>
        have HN3:Hid (plainO d hd r[p]=none):=by rw[ZO.out,hpl];rfl
        have MV:Hid (dK (plainO d hd) f[q]=none):=by rw[HR.out];exact yP hp2 HE3.out HN3.out
        have HN1:Hid (dK (dK (plainO d hd)) xs[k]=none):=by rw[HF.out];exact yP hq2 HE2.out MV.out
        have HN0:Hid (dK (dK (dK (plainO d hd))) xs=none):=yP hlt HE.out HN1.out
        clear hpl
        simp only[Option.getD_none,Option.isSome_none]
        go_wp2_with fail
        go_ret
        exact⟨aA (by rw[HN0.out];rfl),ac4.out,fun ys h=>(by rw[HN0.out] at h;cases h)⟩
       | some t =>
        have htl:t.length≤40000:=by have:=Bl hpl;simp at this;omega
        have HN3:Hid (plainO d hd r[p]=some (txt t)):=by rw[ZO.out,hpl];rfl
        have HST:=hide (yO hp2 HE3.out HN3.out)
        have hc4:W4.cell? ⟨b3,mq+p,none⟩=some (.string r[p]):=by rw[hb4.cell (p:=⟨b3,mq+p,none⟩) Ny];exact hc3
        have DX:W4.frozen? ⟨b3,mq+p,none⟩=false:=by rw[hb4.frozen (p:=⟨b3,mq+p,none⟩) Ny];exact hf3
        have ahi:W4.cell? ⟨W2.heap.size,0,none⟩=some (.slice (some ⟨b3,mq,none⟩) r.length c3):=by rw[hb4.cell (p:=⟨W2.heap.size,0,none⟩) Kv];exact Oq
        have Uu:=hide (ZH.out W4 (txt t) (by rw[dn];omega) hb4)
        have XV:=hide (set_mid ts r p hp2 HTL.out (txt t))
        clear hpl hb4 hc3 hf3 Oq
        simp only[Option.getD_some,Option.isSome_some]
        go_wp2_with fail
        go_roundg (r.length - (p+1))
        case measure=>omega
        case rel=>exact⟨p+1,ts++[txt t],by omega,rfl,by go_num,by rw[List.length_append,List.length_singleton,HTL.out],HST.out,by rw[←XV.out];exact Uu.out.1,WE.out.trans Uu.out.2⟩
      ·have Xt:Hid (dK (plainO d hd) f[q]=some ts):=by rw[HR.out];exact yQ (by omega) HE3.out
       have Ga:=hide (yO hq2 HE2.out Xt.out)
       have Ui:Hid (fV W3 (.slice a3 r.length c3) ts yH):=by
        have:=ac2.out
        rwa [List.drop_eq_nil_of_le (by omega),List.append_nil] at this
       have ac5:=hide (HO3.out.trans WE.out)
       have aas:=hide (afe.out W3 ts ac5.out Ui.out)
       have XV:=hide (set_mid zs f q hq2 HZL.out ts)
       go_wp2_with fail
       go_roundg (f.length - (q+1))
       case measure=>omega
       case rel=>exact⟨q+1,zs++[ts],by omega,rfl,by go_num,by rw[List.length_append,List.length_singleton,HZL.out],Ga.out,by rw[←XV.out];exact aas.out,WC.out.trans (ac5.out.mono Tc.out)⟩
    ·have Xt:Hid (dK (dK (plainO d hd)) xs[k]=some zs):=by rw[HF.out];exact yQ (by omega) HE2.out
     have afh:=hide (yO hlt HE.out Xt.out)
     have HZS:Hid (bP W2 (.slice a2 f.length c2) zs Cr):=by
      have:=HO2.out
      rwa [List.drop_eq_nil_of_le (by omega),List.append_nil] at this
     have aas:=hide (HUP.out W2 zs WC.out HZS.out)
     have XV:=hide (set_mid ys xs k hlt HYL.out zs)
     go_wp2_with fail
     go_roundg (xs.length - (k+1))
     case measure=>omega
     case rel=>exact⟨k+1,ys++[zs],by omega,rfl,by go_num,by rw[List.length_append,List.length_singleton,HYL.out],afh.out,by rw[←XV.out];exact aas.out,HOW.out.trans (WC.out.mono WB.out)⟩
  ·have Xt:Hid (dK (dK (dK (plainO d hd))) xs=some ys):=yQ (by omega) HE.out
   have HFN:Hid (∀zs,dK (dK (dK (plainO d hd))) xs=some zs→aN W1 (.slice a xs.length c) zs bs):=fun zs h=>by
    rw[Xt.out] at h
    injection h with h
    subst h
    have:=HO.out
    rwa [List.drop_eq_nil_of_le (by omega),List.append_nil] at this
   go_wp2_with fail
   go_ret
   exact⟨aA (by rw[Xt.out];rfl),HOW.out,HFN.out⟩
end Go.Proofs.YtfdihjnlgdiioaaGreatDoor.dB
