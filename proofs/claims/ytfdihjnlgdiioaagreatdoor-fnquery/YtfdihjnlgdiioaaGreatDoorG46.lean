import Derived.Test.YtfdihjnlgdiioaaGreatDoorG41
namespace Go.Proofs.YtfdihjnlgdiioaaGreatDoor.dB
open Go.ChangeShapes Go.WideShapes Go.ChangeAt Go.RowKit
set_option linter.unusedVariables false
set_option linter.unusedSimpArgs false
theorem TR {s:Seg} (h:wT s=true):aB [s] ⟨#[82,68,84]⟩ 1 1=pick s.fields (1 - fT s.name) 1:=by
 have e:s.name.toList=[82,68,84]:=eq_of_beq h
 have e2:s.name=⟨#[82,68,84]⟩:=by
  apply ByteArray.ext
  rw[ByteArray.toList_eq] at e
  exact Array.toList_inj.1 e
 unfold aB
 rw[List.find?_cons,e2]
 have hb:((⟨#[82,68,84]⟩:ByteArray).toList == (⟨#[82,68,84]⟩:ByteArray).toList)=true:=beq_self_eq_true _
 rw[hb]
 simp only[if_true]
 congr 1
theorem WW {xs:List Seg} {v:Value} {w:World} {lo:Nat} (hv:aX lo w v xs) (hsz:aT xs≤1048576):∀(W:World) (n:ByteArray) (f c:Int),Below w.heap.size w W→n.size≤3→0≤f→f≤20→0≤c→c≤20 →
  Calls Tryz.prog 63 #[.agg #[v],.string n,.int .i64 f,.int .i64 c] W fun e W'=>e=.returned (.string (aB xs n f c))∧Below W.heap.size W W':=fun W n f c hb hn h1 h2 h3 h4 =>
 zP xs n f c v W (by omega) (by unfold aT aH at hsz;omega) (by omega) (by omega) (by omega) (by omega) (At.kept bA hv hb) hsz
theorem Py {X:World} {R:Nat} {tmps:Array Value} {t0 t1 t3 t5:ByteArray} {k2:Int} {ad:Option Addr} {ln cp:Nat} (h2:tmps[2]?=some (.pointer (some ⟨R,0,none⟩))) (h:aU X R 38 #[.string t0,.string t1,.int .i64 k2,.string t3,.slice ad ln cp,.string t5]) :
  (results Tryz.f40 tmps).run Tryz.prog X=.ok (.agg #[.string t0,.string t1,.int .i64 k2,.string t3,.slice ad ln cp,.string t5]) X:=by
 have c0:=h.cell 0 (by simp)
 have c1:=h.cell 1 (by simp)
 have c2:=h.cell 2 (by simp)
 have c3:=h.cell 3 (by simp)
 have c4:=h.cell 4 (by simp)
 have c5:=h.cell 5 (by simp)
 simp at c0 c1 c2 c3 c4 c5
 have hl:=h.lt
 simp[results,Tryz.results40,go_sem,h2,c0,c1,c2,c3,c4,c5,hl]
def Pz (w:World) (r:jM) (e:Ending) (w':World):Prop:=∃ar cr,e=.returned (gU r (.slice ar r.rows.length cr))∧FB sP 1 9 w.heap.size w' (.slice ar r.rows.length cr) r.rows∧Below w.heap.size w w'
theorem FB.mono {α:Type} {C:α→List Value} {c:Nat} {e:TypeId} {base base':Nat} {w:World} {v:Value} {xs:List α} (h:FB C c e base w v xs) (hb:base'≤base):FB C c e base' w v xs:=qE h hb
set_option maxRecDepth 100000 in
set_option maxHeartbeats 16000000 in
theorem Mt (xs:List Seg) (a:Option Addr) (cap:Nat) (w:World) {lo:Nat} (hv:aX lo w (.slice a xs.length cap) xs) (hsz:aT xs≤1048576) (hE:Env w) :
  Calls Tryz.prog 40 #[.agg #[.slice a xs.length cap]] w (Pz w (dQ xs)):=by
 obtain⟨x1,hx1⟩:∃x1,w.alloc (Obj.cells #[.slice a xs.length cap] 28)=x1:=⟨_,rfl⟩
 obtain⟨w1,hw1⟩:∃w1,x1.alloc (Obj.cells #[.string ⟨#[]⟩,.string ⟨#[]⟩,.int .i64 0,.string ⟨#[]⟩,.slice none 0 0,.string ⟨#[]⟩] 38)=w1:=⟨_,rfl⟩
 have bN:x1.heap.size=w.heap.size+1:=by rw[←hx1];simp
 have dG:w1.heap.size=w.heap.size+1+1:=by rw[←hw1];simp[bN]
 have bx1:Below w.heap.size w x1:=by rw[←hx1];exact aO _ _
 have dV:Below x1.heap.size x1 w1:=by rw[←hw1];exact aO _ _
 have k0:w1.cell? ⟨w.heap.size,0,none⟩=some (.slice a xs.length cap):=(dV.cell (p:=⟨w.heap.size,0,none⟩) (by rw[bN];simp)).trans (by rw[←hx1];simp)
 have vE:Hid (aU w1 (w.heap.size+1) 38 #[.string ⟨#[]⟩,.string ⟨#[]⟩,.int .i64 0,.string ⟨#[]⟩,.slice none 0 0,.string ⟨#[]⟩]):=by rw[←hw1,←bN];exact aU.new _ _ _
 have HB1:=hide (aJ dV bx1)
 have F4:=hide (At.kept bA hv HB1.out)
 have HG:=hide (WW F4.out hsz)
 have IU:=hide (fun W (h:Below w1.heap.size w1 W)=>HG.out W ⟨#[77,83,65]⟩ 1 1 h (by decide) (by decide) (by decide) (by decide) (by decide))
 have HG2:=hide (fun W (h:Below w1.heap.size w1 W)=>HG.out W ⟨#[77,83,65]⟩ 2 1 h (by decide) (by decide) (by decide) (by decide) (by decide))
 have WX:=hide (fun W (h:Below w1.heap.size w1 W)=>HG.out W ⟨#[69,82,82]⟩ 3 1 h (by decide) (by decide) (by decide) (by decide) (by decide))
 have HG5:=hide (fun W (h:Below w1.heap.size w1 W)=>HG.out W ⟨#[81,65,75]⟩ 1 1 h (by decide) (by decide) (by decide) (by decide) (by decide))
 have HG6:=hide (fun W (h:Below w1.heap.size w1 W)=>HG.out W ⟨#[68,83,67]⟩ 1 1 h (by decide) (by decide) (by decide) (by decide) (by decide))
 have HEV:=hide (fun W (h:Below w1.heap.size w1 W)=>(hE.kept HB1.out).kept h)
 have JU:=hide (fun W (h:Below w1.heap.size w1 W)=>xU (aB xs ⟨#[69,82,82]⟩ 3 1) W (Nat.le_trans (bK xs _ _ _) hsz) (HEV.out W h))
 have KM:Hid (∀X,Below w1.heap.size w1 X→X.cell? ⟨w.heap.size,0,none⟩=some (.slice a xs.length cap)):=fun X h=>(h.cell (p:=⟨w.heap.size,0,none⟩) (by rw[dG];dsimp only;omega)).trans k0
 have hnl:xs.length≤1048576:=by unfold aT aH at hsz;omega
 have nC:=hide hsz
 have wZ:=hide dG
 have HW1:Hid ((w.alloc (Obj.cells #[.slice a xs.length cap] 28)).alloc (Obj.cells #[.string ⟨#[]⟩,.string ⟨#[]⟩,.int .i64 0,.string ⟨#[]⟩,.slice none 0 0,.string ⟨#[]⟩] 38)=w1):=by rw[hx1];exact hw1
 obtain⟨n,hn⟩:∃n,xs.length=n:=⟨_,rfl⟩
 have HN:=hide hn
 rw[hn] at k0 KM F4 HW1 hnl ⊢
 rw[hn] at IU HG2 WX HG5 HG6
 have Ah:Hid (dQ xs=⟨aB xs ⟨#[77,83,65]⟩ 1 1,aB xs ⟨#[77,83,65]⟩ 2 1,jB (aB xs ⟨#[69,82,82]⟩ 3 1).data.toList,aB xs ⟨#[81,65,75]⟩ 1 1,rowsOf xs,aB xs ⟨#[68,83,67]⟩ 1 1⟩):=rfl
 obtain⟨ack,hack⟩:∃t,aB xs ⟨#[77,83,65]⟩ 1 1=t:=⟨_,rfl⟩
 obtain⟨control,yZ⟩:∃t,aB xs ⟨#[77,83,65]⟩ 2 1=t:=⟨_,rfl⟩
 obtain⟨tag,htag⟩:∃t,aB xs ⟨#[81,65,75]⟩ 1 1=t:=⟨_,rfl⟩
 obtain⟨pointer,GD⟩:∃t,aB xs ⟨#[68,83,67]⟩ 1 1=t:=⟨_,rfl⟩
 obtain⟨et,het⟩:∃t,aB xs ⟨#[69,82,82]⟩ 3 1=t:=⟨_,rfl⟩
 rw[hack] at IU Ah
 rw[yZ] at HG2 Ah
 rw[het] at WX JU Ah
 rw[htag] at HG5 Ah
 rw[GD] at HG6 Ah
 obtain⟨cd,hcd⟩:∃cd:Int,jB et.data.toList=cd:=⟨_,rfl⟩
 rw[hcd] at JU Ah
 obtain⟨lr,hlr⟩:∃r:jM,dQ xs=r:=⟨_,rfl⟩
 rw[hlr] at Ah ⊢
 clear hack yZ htag GD het hcd hlr hx1 hw1 bN dG bx1 dV hv hsz hn HG hE
 go_enter Tryz.func40,Tryz.ntmps40
 go_upto_region 1 with fail
 rw[HW1.out]
 go_cut [3] (fun v3 wx=>∃M,v3=.pointer (some ⟨M,0,none⟩)∧RB w1 wx M #[.string ack,.string control,.int .i64 cd,.string tag,.slice none 0 0,.string pointer])
 case first =>
  obtain⟨D,hDe⟩:∃D,w1.drew=D:=⟨_,rfl⟩
  have hD0:Below w1.heap.size w1 w1.drew:=(Below.refl _ _).drew
  have hD:Below w1.heap.size w1 D:=by rw[←hDe];exact hD0
  have hDs:=hD.size
  go_region_held3 (fun X:World=>X.cell? ⟨w.heap.size,0,none⟩=some (.slice a n cap))
   (exact KM.out _ (by repeat (first|with_reducible exact hD0|with_reducible exact hD|with_reducible exact mZ|with_reducible exact kG|with_reducible exact hB4|with_reducible exact hB3|with_reducible exact hB2|with_reducible exact hB1|with_reducible refine Below.mo ?_ (aS _)|with_reducible refine Below.st2 ?_ (by first|assumption|omega|(simp only[Deep.nblk_alloc,Deep.nblk_setCell];omega)))))
   (first
    | (have _g:=kG;go_at_call 63;with_reducible refine(HG6.out _ ?UC).mono ?_;(case UC=>(repeat (first|with_reducible exact kG|with_reducible refine Below.mo ?_ (aS _))));rintro e v6 ⟨rfl,hb6⟩;have mZ:Below w1.heap.size w1 v6:=aj hb6 (by repeat (first|with_reducible exact kG|with_reducible refine Below.mo ?_ (aS _)));have hz1:=hB1.size;have hz2:=hB2.size;have hz3:=hB3.size;have MZ:=hB4.size;have Xy:=kG.size;have hz6:=mZ.size;first
     | (with_reducible refine Ba (((((((aU.new _ _ _).below hb1).below hb2).below hb3).below hb4).below hb5).below hb6) ?_;rintro hbx ⟨⟨z0,z1,z2,z3,z4,z5⟩,f0,f1,f2,f3,f4,f5⟩)
     | (with_reducible refine Ba ((((((aU.new _ _ _).below hb2).below hb3).below hb4).below hb5).below hb6) ?_;rintro hbx ⟨⟨z0,z1,z2,z3,z4,z5⟩,f0,f1,f2,f3,f4,f5⟩)
     | (with_reducible refine Ba (((((aU.new _ _ _).below hb3).below hb4).below hb5).below hb6) ?_;rintro hbx ⟨⟨z0,z1,z2,z3,z4,z5⟩,f0,f1,f2,f3,f4,f5⟩)
     | (with_reducible refine Ba ((((aU.new _ _ _).below hb4).below hb5).below hb6) ?_;rintro hbx ⟨⟨z0,z1,z2,z3,z4,z5⟩,f0,f1,f2,f3,f4,f5⟩)
     | (with_reducible refine Ba (((aU.new _ _ _).below hb5).below hb6) ?_;rintro hbx ⟨⟨z0,z1,z2,z3,z4,z5⟩,f0,f1,f2,f3,f4,f5⟩)
     | (with_reducible refine Ba ((aU.new _ _ _).below hb6) ?_;rintro hbx ⟨⟨z0,z1,z2,z3,z4,z5⟩,f0,f1,f2,f3,f4,f5⟩)
     | skip)
    | (have _g:=hB4;go_at_call 63;with_reducible refine(HG5.out _ ?hq5).mono ?_;(case hq5=>(repeat (first|with_reducible exact hB4|with_reducible refine Below.mo ?_ (aS _))));rintro e v5 ⟨rfl,hb5⟩;have kG:Below w1.heap.size w1 v5:=aj hb5 (by repeat (first|with_reducible exact hB4|with_reducible refine Below.mo ?_ (aS _))))
    | (have _g:=hB3;go_at_call 72;with_reducible refine(JU.out _ ?hq4).mono ?_;(case hq4=>(repeat (first|with_reducible exact hB3|with_reducible refine Below.mo ?_ (aS _))));rintro e v4 ⟨rfl,hb4⟩;have hB4:Below w1.heap.size w1 v4:=aj hb4 (by repeat (first|with_reducible exact hB3|with_reducible refine Below.mo ?_ (aS _))))
    | (have _g:=hB2;go_at_call 63;with_reducible refine(WX.out _ ?hq3).mono ?_;(case hq3=>(repeat (first|with_reducible exact hB2|with_reducible refine Below.mo ?_ (aS _))));rintro e v3 ⟨rfl,hb3⟩;have hB3:Below w1.heap.size w1 v3:=aj hb3 (by repeat (first|with_reducible exact hB2|with_reducible refine Below.mo ?_ (aS _))))
    | (have _g:=hB1;go_at_call 63;with_reducible refine(HG2.out _ ?hq2).mono ?_;(case hq2=>(repeat (first|with_reducible exact hB1|with_reducible refine Below.mo ?_ (aS _))));rintro e v2 ⟨rfl,hb2⟩;have hB2:Below w1.heap.size w1 v2:=aj hb2 (by repeat (first|with_reducible exact hB1|with_reducible refine Below.mo ?_ (aS _))))
    | (go_at_call 63;with_reducible refine(IU.out _ ?hq1).mono ?_;(case hq1=>(repeat (first|with_reducible exact hD|with_reducible refine Below.mo ?_ (aS _))));rintro e v1 ⟨rfl,hb1⟩;have hB1:Below w1.heap.size w1 v1:=aj hb1 (by repeat (first|with_reducible exact hD|with_reducible refine Below.mo ?_ (aS _)))))
  all_goals
   go_wp2_with fail
   go_meet
   case rel=>first
    | with_reducible exact⟨_,rfl,RB.late mZ⟩
    | (refine⟨_,rfl,?_⟩;with_reducible exact RB.early hbx mZ (by first|assumption|omega|(simp only[Deep.nblk_alloc];omega)) _ _ _ _ _ _)
 case rest =>
  obtain⟨M,rfl,M0⟩:=hcut
  obtain⟨X,rfl⟩:∃x,x=wc:=⟨_,rfl⟩
  have wR:=hide M0
  clear M0 IU HG2 WX HG5 HG6 JU HEV
  have km:=KM.out X wR.out.2.1
  go_wp2_with fail
  go_loopg [21] n (fun q i wr=>∃(k:Nat) (ar:Option Addr) (cr nr:Nat),k≤n∧q=n - k∧i=.int .i64 (k:Int)∧nr=(rowsOf (xs.take k)).length∧RB w1 wr M #[.string ack,.string control,.int .i64 cd,.string tag,.slice ar nr cr,.string pointer]∧FB sP 1 9 X.heap.size wr (.slice ar nr cr) (rowsOf (xs.take k))∧X.heap.size≤wr.heap.size)
  case atStart=>exact⟨0,none,0,0,eH _,rfl,rfl,rfl,wR.out,FB.nil _ _ _ _ _,aS _⟩
  case round =>
   obtain⟨k,ar,cr,nr,hk,rfl,rfl,hnr,hR,hF,hX⟩:=hrel
   obtain⟨Y,rfl⟩:∃x,x=wr:=⟨_,rfl⟩
   have HR:=hide hR
   have HF:=hide hF
   have sF:=hide hnr
   have HX:=hide hX
   have afx:nr≤262144:=by rw[hnr];exact Dk nC.out k
   clear hR hF hnr hX km
   by_cases hlt:k<n
   ·have hki:(k:Int)<(n:Int):=by omega
    have k1:k<xs.length:=by have:=HN.out;omega
    obtain⟨a',cap',e',hc⟩:=(At.kept bA F4.out HR.out.2.1).form
    injection e' with ea eb ec
    subst ea ec
    clear eb
    obtain⟨b,off,rfl,hlo,hbl,hcell,hcs,fv,hcell2,Bc⟩:=hc k k1
    have rZ:=hide (fun h=>Dh k1 h)
    have Ux:=hide (fun h=>Fg k1 h)
    have HZ1:Hid (xs[k].fields.length≤1048576):=by
     have h2:=rP bB xs xs[k] (List.getElem_mem k1)
     have h6:xs[k].fields.length≤bB xs[k]:=by unfold bB aH;omega
     have h:=nC.out
     unfold aT aH at h
     show _≤_
     omega
    obtain⟨sg,hsg⟩:∃s,xs[k]=s:=⟨_,rfl⟩
    rw[hsg] at hcell Bc rZ Ux HZ1
    obtain⟨af,cf,rfl⟩:=gN Bc
    have HFS:=hide Bc
    clear hc hcs hsg Bc
    obtain⟨Y1,Aq⟩:∃Y1,Y.alloc (Obj.cells #[.string sg.name,.slice af sg.fields.length cf] 54)=Y1:=⟨_,rfl⟩
    have hb1:Below Y.heap.size Y Y1:=by rw[←Aq];exact aO _ _
    have Zu:Y1.heap.size=Y.heap.size+1:=by rw[←Aq];simp
    have AQ:Hid (aU Y1 Y.heap.size 54 #[.string sg.name,.slice af sg.fields.length cf]):=by rw[←Aq];exact aU.new _ _ _
    have HR1:Hid (RB w1 Y1 M #[.string ack,.string control,.int .i64 cd,.string tag,.slice ar nr cr,.string pointer]):=⟨HR.out.1.below hb1,aj hb1 HR.out.2.1,HR.out.2.2⟩
    have Pw:=hide (HF.out.below hb1)
    have afy:=hide (At.kept aP HFS.out hb1)
    have n0:Y1.cell? ⟨Y.heap.size,0,none⟩=some (.string sg.name):=AQ.out.cell 0 (by simp)
    have n1:Y1.cell? ⟨Y.heap.size,1,none⟩=some (.slice af sg.fields.length cf):=AQ.out.cell 1 (by simp)
    have ahD:=hide hb1
    have HSY:=hide Zu
    clear hb1
    cases hrb:wT sg
    ·have e1:(sg.name.toList == [82,68,84])=false:=hrb
     have TS:=hide (Ux.out hrb)
     clear hrb
     go_wp2_with fail
     go_roundg (n - (k+1))
     case measure=>omega
     case rel=>exact⟨k+1,ar,cr,nr,by omega,rfl,by go_num,by rw[TS.out];exact sF.out,HR1.out,by rw[TS.out];exact Pw.out,by have:=HX.out;have:=HSY.out;omega⟩
    ·have e1:(sg.name.toList == [82,68,84])=true:=hrb
     have DT:=hide (rZ.out hrb)
     have Uk:=hide (TR hrb)
     obtain⟨rw1,hrw1⟩:∃t,aB [sg] ⟨#[82,68,84]⟩ 1 1=t:=⟨_,rfl⟩
     have HGR:=hide (fun W (h:Below Y1.heap.size Y1 W)=>I5 sg.name sg.fields 1 1 (.slice af sg.fields.length cf) W (by decide) (by decide) (by decide) (by decide) (At.kept aP afy.out h) HZ1.out)
     rw[←Uk.out,hrw1] at HGR
     rw[hrw1] at DT
     clear hrb hrw1 rZ Ux Uk
     obtain⟨D,hDe⟩:∃D,Y1.drew=D:=⟨_,rfl⟩
     have hD:Below Y1.heap.size Y1 D:=by rw[←hDe];exact(Below.refl _ _).drew
     have hSd:(fun X:World=>X.cell? ⟨M,4,none⟩=some (.slice ar nr cr)∧X.cell? ⟨Y.heap.size,0,none⟩=some (.string sg.name)∧X.cell? ⟨Y.heap.size,1,none⟩=some (.slice af sg.fields.length cf)) D:=⟨(HR1.out.1.below hD).cell 4 (by simp),(AQ.out.below hD).cell 0 (by simp),(AQ.out.below hD).cell 1 (by simp)⟩
     have Dc:=hDe
     go_upto_region 6 with fail
     refine iF (fun X:World=>X.cell? ⟨M,4,none⟩=some (.slice ar nr cr)∧X.cell? ⟨Y.heap.size,0,none⟩=some (.string sg.name)∧X.cell? ⟨Y.heap.size,1,none⟩=some (.slice af sg.fields.length cf)) 6 (by kernel_rfl) ?_
     rw[hDe]
     clear hDe Dc
     refine aR (i:=0) (some 28) (v:=?v0) rfl rfl (by kernel_rfl) (by kernel_rfl) (by kernel_rfl) (by kernel_rfl) (fun _ _ _ h=>h) hSd (Or.inl ⟨by rfl,?hy0⟩) ?adt
     case hy0=>(intro w hSw;(try dsimp only at hSw);go_simp;try with_reducible rfl)
     try simp only[Act.put,List.setIfInBounds_toArray,List.set_cons_zero,List.set_cons_succ]
     refine aR (i:=1) (some 29) (v:=?v1) rfl rfl (by kernel_rfl) (by kernel_rfl) (by kernel_rfl) (by kernel_rfl) (fun _ _ _ h=>h) hSd (Or.inl ⟨by rfl,?hy1⟩) ?adu
     case hy1=>(intro w hSw;(try dsimp only at hSw);go_simp;try with_reducible rfl)
     try simp only[Act.put,List.setIfInBounds_toArray,List.set_cons_zero,List.set_cons_succ]
     refine aR (i:=2) (some 30) (v:=?v2) rfl rfl (by kernel_rfl) (by kernel_rfl) (by kernel_rfl) (by kernel_rfl) (fun _ _ _ h=>h) hSd (Or.inl ⟨by rfl,?hy2⟩) ?adv
     case hy2=>(intro w hSw;(try dsimp only at hSw);go_simp;try with_reducible rfl)
     try simp only[Act.put,List.setIfInBounds_toArray,List.set_cons_zero,List.set_cons_succ]
     refine aQ (j:=3) (by kernel_rfl) rfl (fun K hK=>?_)
     go_simp
     refine(HGR.out D hD).mono ?_
     rintro e Z ⟨rfl,E8⟩
     dsimp only
     have Ap:Below Y1.heap.size Y1 Z:=aj E8 hD
     have Ep:Below w1.heap.size w1 Z:=aj Ap HR1.out.2.1
     have hSz:(fun X:World=>X.cell? ⟨M,4,none⟩=some (.slice ar nr cr)∧X.cell? ⟨Y.heap.size,0,none⟩=some (.string sg.name)∧X.cell? ⟨Y.heap.size,1,none⟩=some (.slice af sg.fields.length cf)) Z:=⟨(HR1.out.1.below Ap).cell 4 (by simp),(AQ.out.below Ap).cell 0 (by simp),(AQ.out.below Ap).cell 1 (by simp)⟩
     refine hK.out _ _ (fun _=>hSz) ?_
     clear hK K
     try simp only[Act.put,List.setIfInBounds_toArray,List.set_cons_zero,List.set_cons_succ]
     have SI:(fun X:World=>X.cell? ⟨M,4,none⟩=some (.slice ar nr cr)∧X.cell? ⟨Y.heap.size,0,none⟩=some (.string sg.name)∧X.cell? ⟨Y.heap.size,1,none⟩=some (.slice af sg.fields.length cf)) (Z.alloc (.cells #[.string rw1] 9)):=⟨((HR1.out.1.below Ap).alloc _).cell 4 (by simp),((AQ.out.below Ap).alloc _).cell 0 (by simp),((AQ.out.below Ap).alloc _).cell 1 (by simp)⟩
     refine aQ (j:=4) (by kernel_rfl) rfl (fun K hK=>?_)
     go_simp
     refine hK.out _ _ (fun _=>SI) ?_
     clear hK K
     try simp only[Act.put,List.setIfInBounds_toArray,List.set_cons_zero,List.set_cons_succ]
     obtain⟨v',Z',hr2,hF',rR,hat⟩:=app1 (C:=sP) (c:=1) (bytes:=16) (z:=.string ByteArray.empty) Tryz.underlying36 lq rfl (by decide) (fun _=>rfl) Dj (Pw.out.below Ap) 36 rw1 (by have:=Ap.size;have:=HX.out;have:=HSY.out;omega) (by rw[←sF.out];omega) (by decide)
     have hML:M<X.heap.size:=wR.out.1.lt
     have hown:=(Pw.out.below Ap).own
     have hyl:Y.heap.size<Y1.heap.size:=by have:=HSY.out;omega
     have yI:M ∉ (Value.slice ar nr cr).ownBlock.toList:=fun hm=>by have:=(hown M hm).1;omega
     have hSn:Y.heap.size ∉ (Value.slice ar nr cr).ownBlock.toList:=fun hm=>by have:=(HF.out.own _ hm).2;omega
     have nJ:aU Z' M 38 #[.string ack,.string control,.int .i64 cd,.string tag,.slice ar nr cr,.string pointer]:=((HR1.out.1.below Ap).only rR yI)
     have aaO:=((AQ.out.below Ap).only rR hSn)
     have WY:w1.heap.size≤X.heap.size:=wR.out.2.1.size
     have FC:Below w1.heap.size w1 Z':=Ep.trans (rR.below Ep.size fun d hd=>by have:=(hown d hd).1;omega)
     have SK:(fun X:World=>X.cell? ⟨M,4,none⟩=some (.slice ar nr cr)∧X.cell? ⟨Y.heap.size,0,none⟩=some (.string sg.name)∧X.cell? ⟨Y.heap.size,1,none⟩=some (.slice af sg.fields.length cf)) Z':=⟨nJ.cell 4 (by simp),aaO.cell 0 (by simp),aaO.cell 1 (by simp)⟩
     have r4:Z'.cell? ⟨M,4,none⟩=some (.slice ar nr cr):=nJ.cell 4 (by simp)
     have rf4:=nJ.frozen 4
     obtain⟨a8,c8,e8,_,_⟩:=hF'.form
     rw[List.length_append,List.length_singleton,←sF.out] at e8
     subst e8
     refine aQ (j:=5) (by kernel_rfl) rfl (fun K hK=>?_)
     refine oL rfl _ _ 36 rfl hr2 (by first|rfl|simp[Act.eval,Act.put]) (by first|rfl|simp[Act.eval,Act.put]) ?_
     show K (Act.put _ (some 33) _) _
     refine hK.out _ _ (fun _=>SK) ?_
     clear hK K
     try simp only[Act.put,List.setIfInBounds_toArray,List.set_cons_zero,List.set_cons_succ]
     refine aQ (j:=6) (by kernel_rfl) rfl (fun K hK=>?_)
     go_simp
     refine hK.out _ _ (fun h=>absurd h (by decide)) ?_
     clear hK K
     refine aQ (j:=7) (by kernel_rfl) rfl (fun K hK=>?_)
     go_simp
     refine hK.out _ _ (fun h=>absurd h (by decide)) ?_
     clear hK K
     refine kV (by kernel_rfl) ?_ _
     have hZs:=rR.size
     have hYs:=Ap.size
     have lZ:Hid (RB w1 (Z'.setCell ⟨M,4,none⟩ (.slice a8 (nr+1) c8)) M #[.string ack,.string control,.int .i64 cd,.string tag,.slice a8 (nr+1) c8,.string pointer]∧FB sP 1 9 X.heap.size (Z'.setCell ⟨M,4,none⟩ (.slice a8 (nr+1) c8)) (.slice a8 (nr+1) c8) (rowsOf (xs.take (k+1)))∧X.heap.size≤(Z'.setCell ⟨M,4,none⟩ (.slice a8 (nr+1) c8)).heap.size):=by
      refine⟨⟨?_,FC.setCell (p:=⟨M,4,none⟩) HR.out.2.2 _,HR.out.2.2⟩,?_,?_⟩
      ·have:=nJ.set 4 (.slice a8 (nr+1) c8)
       simpa using this
      ·rw[DT.out]
       exact hF'.keep fun b hb=>Deep.blk_setCell_other _ ⟨M,4,none⟩ _ b (by have:=(hF'.own b hb).1;dsimp only;omega)
      ·rw[Deep.nblk_setCell];have:=HX.out;have:=HSY.out;omega
     have HLEN:Hid (nr+1=(rowsOf (xs.take (k+1))).length):=by show _=_;rw[DT.out,List.length_append,List.length_singleton,←sF.out]
     clear hSd hSz SI SK r4 rf4 hr2 hF' rR hat hown yI hSn nJ aaO FC Ep Ap E8 hZs hYs hML WY
     go_wp2_with fail
     go_roundg (n - (k+1))
     case measure=>omega
     case rel=>exact⟨k+1,a8,c8,nr+1,by omega,rfl,by go_num,HLEN.out,lZ.out.1,lZ.out.2.1,lZ.out.2.2⟩
   ·have hki:¬(k:Int)<(n:Int):=by omega
    have hkn:xs.take k=xs:=List.take_of_length_le (by have:=HN.out;omega)
    rw[hkn] at HF sF
    clear hkn
    have Cu:=hide (vE.out.below HR.out.2.1)
    refine Ba HR.out.1 ?_
    rintro _ ⟨⟨y0,y1,y2,y3,y4,y5⟩,-⟩
    refine Ba Cu.out ?_
    rintro _ ⟨⟨q0,q1,q2,q3,q4,q5⟩,f0,f1,f2,f3,f4,f5⟩
    have hRl:w.heap.size+1<Y.heap.size:=Cu.out.lt
    go_wp2_with fail
    refine bodyPost_ret (v:=.agg #[.string ack,.string control,.int .i64 cd,.string tag,.slice ar nr cr,.string pointer]) (Py (R:=w.heap.size+1) rfl (Cu.out.yt _ _ _ _ _ _)) rfl ?_
    rw[Ah.out]
    refine⟨ar,cr,by unfold gU;dsimp only;rw[←sF.out],?_,jO (aJ HR.out.2.1 HB1.out) (Nat.le_succ _) _ _ _ _ _ _⟩
    show FB sP 1 9 w.heap.size _ (.slice ar (rowsOf xs).length cr) (rowsOf xs)
    rw[←sF.out]
    have WY:w1.heap.size≤X.heap.size:=wR.out.2.1.size
    have hsw:=wZ.out
    refine FB.mono (FB.keep HF.out fun b hb=>?_) (by omega)
    have:=(HF.out.own b hb).1
    iterate 6 (refine(Deep.blk_setCell_other _ _ _ _ (by dsimp only;omega)).trans ?_)
    rfl
end Go.Proofs.YtfdihjnlgdiioaaGreatDoor.dB
