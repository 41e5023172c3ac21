import Derived.Test.YtfdihjnlgdiioaaGreatDoorG34
namespace Go.Proofs.YtfdihjnlgdiioaaGreatDoor.dB
open Go.ChangeShapes Go.WideShapes Go.ChangeAt Go.RowKit
set_option linter.unusedVariables false
set_option linter.unusedSimpArgs false
theorem Ns {xs:List Seg} {v:Value} {w:World} {lo:Nat} (hv:aX lo w v xs) (hsz:aT xs≤1048576):∀(W:World) (n:ByteArray) (f c:Int),Below w.heap.size w W→n.size≤3→0≤f→f≤20→0≤c→c≤20 →
  Calls Tryz.prog 44 #[.agg #[v],.string n,.int .i64 f,.int .i64 c] W fun e W'=>e=.returned (.string (aB xs n f c))∧Below W.heap.size W W':=fun W n f c hb hn h1 h2 h3 h4 =>
 zB xs n f c v W (by omega) (by unfold aT aH at hsz;omega) (by omega) (by omega) (by omega) (by omega) (At.kept bA hv hb) (fun i h=>by
  have h5:=rP bB xs xs[i] (List.getElem_mem h)
  have h6:xs[i].fields.length≤bB xs[i]:=by unfold bB aH;omega
  unfold aT aH at hsz
  omega)
theorem qx {X:World} {R:Nat} {tmps:Array Value} {t0 t1 t3 t5:ByteArray} {k2:Int} {ad:Option Addr} {ln cp:Nat} {x:Bool} (h2:tmps[2]?=some (.pointer (some ⟨R,0,none⟩))) (h3:tmps[3]?=some (.bool x)) (h:aU X R 38 #[.string t0,.string t1,.int .i64 k2,.string t3,.slice ad ln cp,.string t5]) :
  (results Tryz.f19 tmps).run Tryz.prog X=.ok (.tuple #[.agg #[.string t0,.string t1,.int .i64 k2,.string t3,.slice ad ln cp,.string t5],.bool x]) X:=by
 have c0:=h.cell 0 (by simp)
 have c1:=h.cell 1 (by simp)
 have c2:=h.cell 2 (by simp)
 have c3:=h.cell 3 (by simp)
 have c4:=h.cell 4 (by simp)
 have c5:=h.cell 5 (by simp)
 simp at c0 c1 c2 c3 c4 c5
 have hl:=h.lt
 simp[results,Tryz.results19,go_sem,h2,h3,c0,c1,c2,c3,c4,c5,hl]
set_option maxRecDepth 100000 in
set_option maxHeartbeats 16000000 in
theorem GV (xs:List Seg) (a:Option Addr) (cap:Nat) (w:World) {lo:Nat} (hv:aX lo w (.slice a xs.length cap) xs) (hcap:xs.length≤cap) (agk:cap≤9223372036854775807) (hsz:aT xs≤1048576) :
  Calls Tryz.prog 19 #[.agg #[.slice a xs.length cap]] w (Nh w (z8 xs)):=by
 obtain⟨x1,hx1⟩:∃x1,w.alloc (Obj.cells #[.slice a xs.length cap] 28)=x1:=⟨_,rfl⟩
 obtain⟨w1,hw1⟩:∃w1,x1.alloc (Obj.cells #[.string ⟨#[]⟩,.string ⟨#[]⟩,.int .i64 0,.string ⟨#[]⟩,.slice none 0 0,.string ⟨#[]⟩] 38)=w1:=⟨_,rfl⟩
 have bN:x1.heap.size=w.heap.size+1:=by rw[←hx1];simp
 have dG:w1.heap.size=w.heap.size+1+1:=by rw[←hw1];simp[bN]
 have bx1:Below w.heap.size w x1:=by rw[←hx1];exact aO _ _
 have dV:Below x1.heap.size x1 w1:=by rw[←hw1];exact aO _ _
 have k0:w1.cell? ⟨w.heap.size,0,none⟩=some (.slice a xs.length cap):=(dV.cell (p:=⟨w.heap.size,0,none⟩) (by rw[bN];simp)).trans (by rw[←hx1];simp)
 have vE:Hid (aU w1 (w.heap.size+1) 38 #[.string ⟨#[]⟩,.string ⟨#[]⟩,.int .i64 0,.string ⟨#[]⟩,.slice none 0 0,.string ⟨#[]⟩]):=by rw[←hw1,←bN];exact aU.new _ _ _
 have HB1:=hide (aJ dV bx1)
 have F4:=hide (At.kept bA hv HB1.out)
 have HG:=hide (Ns F4.out hsz)
 have IU:=hide (fun W (h:Below w1.heap.size w1 W)=>HG.out W ⟨#[77,83,65]⟩ 1 1 h (by decide) (by decide) (by decide) (by decide) (by decide))
 have HG2:=hide (fun W (h:Below w1.heap.size w1 W)=>HG.out W ⟨#[77,83,65]⟩ 2 1 h (by decide) (by decide) (by decide) (by decide) (by decide))
 have WX:=hide (fun W (h:Below w1.heap.size w1 W)=>HG.out W ⟨#[81,65,75]⟩ 1 1 h (by decide) (by decide) (by decide) (by decide) (by decide))
 have HG4:=hide (fun W (h:Below w1.heap.size w1 W)=>HG.out W ⟨#[68,83,67]⟩ 1 1 h (by decide) (by decide) (by decide) (by decide) (by decide))
 have Vt:=hide (fun W (h:Below w1.heap.size w1 W)=>HG.out W ⟨#[69,82,82]⟩ 3 1 h (by decide) (by decide) (by decide) (by decide) (by decide))
 have KM:Hid (∀X,Below w1.heap.size w1 X→X.cell? ⟨w.heap.size,0,none⟩=some (.slice a xs.length cap)):=fun X h=>(h.cell (p:=⟨w.heap.size,0,none⟩) (by rw[dG];dsimp only;omega)).trans k0
 have hnl:xs.length≤1048576:=by unfold aT aH at hsz;omega
 have nC:=hide hsz
 have Ka:Hid ((bX xs).ack.size≤1048576∧(bX xs).control.size≤1048576∧(bX xs).tag.size≤1048576∧(bX xs).pointer.size≤1048576∧(aB xs ⟨#[69,82,82]⟩ 3 1).size≤1048576) :=
  ⟨Nat.le_trans (bK xs _ _ _) hsz,Nat.le_trans (bK xs _ _ _) hsz,Nat.le_trans (bK xs _ _ _) hsz,Nat.le_trans (bK xs _ _ _) hsz,Nat.le_trans (bK xs _ _ _) hsz⟩
 have wZ:=hide dG
 have HW1:Hid ((w.alloc (Obj.cells #[.slice a xs.length cap] 28)).alloc (Obj.cells #[.string ⟨#[]⟩,.string ⟨#[]⟩,.int .i64 0,.string ⟨#[]⟩,.slice none 0 0,.string ⟨#[]⟩] 38)=w1):=by rw[hx1];exact hw1
 obtain⟨n,hn⟩:∃n,xs.length=n:=⟨_,rfl⟩
 have HN:=hide hn
 rw[hn] at k0 KM F4 HW1 hcap hnl ⊢
 rw[hn] at IU HG2 WX HG4 Vt
 have Ah:Hid (bX xs=⟨aB xs ⟨#[77,83,65]⟩ 1 1,aB xs ⟨#[77,83,65]⟩ 2 1,if sK (aB xs ⟨#[77,83,65]⟩ 1 1) then 0 else iG (aB xs ⟨#[69,82,82]⟩ 3 1).data.toList,aB xs ⟨#[81,65,75]⟩ 1 1,rowsOf xs,aB xs ⟨#[68,83,67]⟩ 1 1⟩):=rfl
 obtain⟨ack,hack⟩:∃t,aB xs ⟨#[77,83,65]⟩ 1 1=t:=⟨_,rfl⟩
 obtain⟨control,yZ⟩:∃t,aB xs ⟨#[77,83,65]⟩ 2 1=t:=⟨_,rfl⟩
 obtain⟨tag,htag⟩:∃t,aB xs ⟨#[81,65,75]⟩ 1 1=t:=⟨_,rfl⟩
 obtain⟨pointer,GD⟩:∃t,aB xs ⟨#[68,83,67]⟩ 1 1=t:=⟨_,rfl⟩
 obtain⟨et,het⟩:∃t,aB xs ⟨#[69,82,82]⟩ 3 1=t:=⟨_,rfl⟩
 rw[hack] at IU Ah
 rw[yZ] at HG2 Ah
 rw[htag] at WX Ah
 rw[GD] at HG4 Ah
 rw[het] at Vt Ah Ka
 clear hack yZ htag GD het hx1 hw1 bN dG bx1 dV hv hsz hn HG
 go_enter Tryz.func19,Tryz.ntmps19
 go_upto_region 1 with fail
 rw[HW1.out]
 go_cut [4] (fun v4 wx=>∃M,v4=.pointer (some ⟨M,0,none⟩)∧RB w1 wx M #[.string ack,.string control,.int .i64 0,.string tag,.slice none 0 0,.string pointer])
 case first =>
  obtain⟨D,hDe⟩:∃D,w1.drew=D:=⟨_,rfl⟩
  have hD0:Below w1.heap.size w1 w1.drew:=(Below.refl _ _).drew
  have hD:Below w1.heap.size w1 D:=by rw[←hDe];exact hD0
  have hDs:=hD.size
  go_region_held3 (fun X:World=>X.cell? ⟨w.heap.size,0,none⟩=some (.slice a n cap))
   (exact KM.out _ (by repeat (first|with_reducible exact hD0|with_reducible exact hD|with_reducible exact hB4|with_reducible exact hB3|with_reducible exact hB2|with_reducible exact hB1|with_reducible refine Below.mo ?_ (aS _)|with_reducible refine Below.st2 ?_ (by first|assumption|omega|(simp only[Deep.nblk_alloc,Deep.nblk_setCell];omega)))))
   (first
    | (go_at_call 44;with_reducible refine(HG4.out _ ?hq4).mono ?_;(case hq4=>(repeat (first|with_reducible exact hB3|with_reducible refine Below.mo ?_ (aS _))));rintro e v4 ⟨rfl,hb4⟩;have hB4:Below w1.heap.size w1 v4:=aj hb4 (by repeat (first|with_reducible exact hB3|with_reducible refine Below.mo ?_ (aS _)));have MZ:=hB4.size;have hz1:=hB1.size;have hz2:=hB2.size;have hz3:=hB3.size;first
     | (with_reducible refine Ba (((((aU.new _ _ _).below hb1).below hb2).below hb3).below hb4) ?_;rintro hbx ⟨⟨z0,z1,z2,z3,z4,z5⟩,f0,f1,f2,f3,f4,f5⟩)
     | (with_reducible refine Ba ((((aU.new _ _ _).below hb2).below hb3).below hb4) ?_;rintro hbx ⟨⟨z0,z1,z2,z3,z4,z5⟩,f0,f1,f2,f3,f4,f5⟩)
     | (with_reducible refine Ba (((aU.new _ _ _).below hb3).below hb4) ?_;rintro hbx ⟨⟨z0,z1,z2,z3,z4,z5⟩,f0,f1,f2,f3,f4,f5⟩)
     | (with_reducible refine Ba ((aU.new _ _ _).below hb4) ?_;rintro hbx ⟨⟨z0,z1,z2,z3,z4,z5⟩,f0,f1,f2,f3,f4,f5⟩)
     | skip)
    | (go_at_call 44;with_reducible refine(WX.out _ ?hq3).mono ?_;(case hq3=>(repeat (first|with_reducible exact hB2|with_reducible refine Below.mo ?_ (aS _))));rintro e v3 ⟨rfl,hb3⟩;have hB3:Below w1.heap.size w1 v3:=aj hb3 (by repeat (first|with_reducible exact hB2|with_reducible refine Below.mo ?_ (aS _))))
    | (go_at_call 44;with_reducible refine(HG2.out _ ?hq2).mono ?_;(case hq2=>(repeat (first|with_reducible exact hB1|with_reducible refine Below.mo ?_ (aS _))));rintro e v2 ⟨rfl,hb2⟩;have hB2:Below w1.heap.size w1 v2:=aj hb2 (by repeat (first|with_reducible exact hB1|with_reducible refine Below.mo ?_ (aS _))))
    | (go_at_call 44;with_reducible refine(IU.out _ ?hq1).mono ?_;(case hq1=>(repeat (first|with_reducible exact hD|with_reducible refine Below.mo ?_ (aS _))));rintro e v1 ⟨rfl,hb1⟩;have hB1:Below w1.heap.size w1 v1:=aj hb1 (by repeat (first|with_reducible exact hD|with_reducible refine Below.mo ?_ (aS _)))))
  all_goals
   go_wp2_with fail
   go_meet
   case rel=>first
    | with_reducible exact⟨_,rfl,RB.late hB4⟩
    | (refine⟨_,rfl,?_⟩;with_reducible exact RB.early hbx hB4 (by first|assumption|omega|(simp only[Deep.nblk_alloc];omega)) _ _ _ _ _ _)
 case rest =>
  obtain⟨M,rfl,M0⟩:=hcut
  obtain⟨X0,rfl⟩:∃x,x=wc:=⟨_,rfl⟩
  obtain⟨cd,hcd⟩:∃cd:Int,(if sK ack then 0 else iG et.data.toList)=cd:=⟨_,rfl⟩
  have HCD:=hide hcd
  rw[hcd] at Ah
  clear hcd
  have uU:=hide M0
  clear M0
  refine Ba uU.out.1 ?_
  rintro hbx ⟨⟨z0,z1,z2,z3,z4,z5⟩,f0,f1,f2,f3,f4,f5⟩
  have km:=KM.out X0 uU.out.2.1
  go_upto_if 18 with fail
  go_cut [18] (fun v18 wx=>RB w1 wx M #[.string ack,.string control,.int .i64 cd,.string tag,.slice none 0 0,.string pointer])
  case first =>
   cases Nf:sK ack
   ·have e1:(ack.toList == [65,65])=false:=Nf
    have Sz:(!(ack.toList == [65,65]))=true:=by rw[e1];rfl
    have hcd:iG et.data.toList=cd:=by have:=HCD.out;rw[Nf] at this;exact this
    have HNM:=hide (fun W=>rM et W (by have:=Ka.out.2.2.2.2;omega))
    rw[hcd] at HNM
    rw[Sz]
    clear Sz Nf hcd
    go_wp2_with fail
    refine(Vt.out _ uU.out.2.1).mono ?_
    rintro e X1 ⟨rfl,hb1⟩
    go_wp2_with fail
    refine(HNM.out _).mono ?_
    rintro e X2 ⟨rfl,hb2⟩
    have KY:=(hbx.below hb1).below hb2
    have HB2:=hide (aj hb2 (aj hb1 uU.out.2.1))
    clear z0 z1 z2 z3 z4 z5 f0 f1 f2 f3 f4 f5 hb1 hb2 km
    have oq:=hide KY
    refine Ba KY ?_
    rintro _ ⟨⟨z0,z1,z2,z3,z4,z5⟩,f0,f1,f2,f3,f4,f5⟩
    clear KY hbx
    go_wp2_with fail
    go_meet
    case rel=>exact⟨by have:=oq.out.set 2 (.int .i64 cd);simpa using this,HB2.out.setCell (p:=⟨M,2,none⟩) uU.out.2.2 _,uU.out.2.2⟩
   ·have e1:(ack.toList == [65,65])=true:=Nf
    have Sz:(!(ack.toList == [65,65]))=false:=by rw[e1];rfl
    have hcd:cd=0:=by have:=HCD.out;rw[Nf] at this;exact this.symm
    subst hcd
    rw[Sz]
    clear Sz Nf
    go_wp2_with fail
    go_meet
    case rel=>exact uU.out
  case rest =>
   obtain⟨X,rfl⟩:∃x,x=wc:=⟨_,rfl⟩
   have wR:=hide hcut
   clear hcut uU hbx z0 z1 z2 z3 z4 z5 f0 f1 f2 f3 f4 f5 km IU HG2 WX HG4 Vt
   go_wp2_with fail
   go_loopg [5] n (fun q i wr=>∃(k:Nat) (ar:Option Addr) (cr nr:Nat),k≤n∧q=n - k∧i=.int .i64 (k:Int)∧nr=(rowsOf (xs.take k)).length∧RB w1 wr M #[.string ack,.string control,.int .i64 cd,.string tag,.slice ar nr cr,.string pointer]∧FB sP 1 9 X.heap.size wr (.slice ar nr cr) (rowsOf (xs.take k))∧X.heap.size≤wr.heap.size)
   case atStart=>exact⟨0,none,0,0,eH _,rfl,rfl,rfl,wR.out,FB.nil _ _ _ _ _,aS _⟩
   case round =>
    obtain⟨k,ar,cr,nr,hk,rfl,rfl,hnr,hR,hF,hX⟩:=hrel
    obtain⟨Y,rfl⟩:∃x,x=wr:=⟨_,rfl⟩
    have HR:=hide hR
    have HF:=hide hF
    have sF:=hide hnr
    have HX:=hide hX
    have km:=KM.out Y HR.out.2.1
    have afx:nr≤262144:=by rw[hnr];exact Dk nC.out k
    clear hR hF hnr hX
    by_cases hlt:k<n
    ·have hki:(k:Int)<(n:Int):=by omega
     have k1:k<xs.length:=by have:=HN.out;omega
     obtain⟨a',cap',e',hc⟩:=(At.kept bA F4.out HR.out.2.1).form
     injection e' with ea eb ec
     subst ea ec
     clear eb
     obtain⟨b,off,rfl,hlo,hbl,hcell,hcs,hrest⟩:=hc k k1
     have xV:Hid (aX lo Y (.slice (some ⟨b,off+k * 2,none⟩) 1 (cap - k)) [xs[k]]):=⟨by simp,.inr ⟨b,off+k * 2,cap - k,rfl,⟨hlo,hbl⟩,fun i hi=>by
      have hi0:i=0:=by simpa using hi
      subst hi0
      show Qd lo Y b (off+k * 2+0 * 2) xs[k]
      rw[Nat.zero_mul,Nat.add_zero]
      exact⟨hcell,hcs,hrest⟩⟩⟩
     have rZ:=hide (fun h=>Dh k1 h)
     have Ux:=hide (fun h=>Fg k1 h)
     have HZ1:Hid (aT [xs[k]]≤1048576):=by
      have h2:=rP bB xs xs[k] (List.getElem_mem k1)
      have h3:aT [xs[k]]=1+bB xs[k]:=by simp[aT,aH,sumOf]
      have h:=nC.out
      unfold aT aH at h
      show _≤_
      omega
     obtain⟨sg,hsg⟩:∃s,xs[k]=s:=⟨_,rfl⟩
     rw[hsg] at hcell xV rZ Ux HZ1
     clear hc hrest hcs hsg
     cases hrb:wT sg
     ·have e1:(sg.name.toList == [82,68,84])=false:=hrb
      have TS:=hide (Ux.out hrb)
      clear hrb
      go_wp2_with fail
      go_roundg (n - (k+1))
      case measure=>omega
      case rel=>exact⟨k+1,ar,cr,nr,by omega,rfl,by go_num,by rw[TS.out];exact sF.out,HR.out,by rw[TS.out];exact HF.out,HX.out⟩
     ·have e1:(sg.name.toList == [82,68,84])=true:=hrb
      have DT:=hide (rZ.out hrb)
      obtain⟨rw1,hrw1⟩:∃t,aB [sg] ⟨#[82,68,84]⟩ 1 1=t:=⟨_,rfl⟩
      have HGR:=hide (fun W (h:Below Y.heap.size Y W)=>Ns xV.out HZ1.out W ⟨#[82,68,84]⟩ 1 1 h (by decide) (by decide) (by decide) (by decide) (by decide))
      rw[hrw1] at HGR DT
      clear hrb hrw1 rZ Ux
      obtain⟨D,hDe⟩:∃D,Y.drew=D:=⟨_,rfl⟩
      have hD:Below Y.heap.size Y D:=by rw[←hDe];exact(Below.refl _ _).drew
      have z4:D.cell? ⟨M,4,none⟩=some (.slice ar nr cr):=(HR.out.1.below hD).cell 4 (by simp)
      have kmD:D.cell? ⟨w.heap.size,0,none⟩=some (.slice (some ⟨b,off,none⟩) n cap):=KM.out D (aj hD HR.out.2.1)
      have hwr:IntKind.i64.wrap ((k:Int)+1)=(k:Int)+1:=by rw[IntKind.wrap_i64];omega
      have hsl0:(0:Int)≤(k:Int)+1:=by omega
      have hsl1:(k:Int)+1≤(cap:Int):=by omega
      have hsl2:(k:Int)≤(k:Int)+1:=by omega
      have ahF:((k:Int)+1).toNat=k+1:=by omega
      have ahG:¬cap=k:=by omega
      have ahH:k+1 - k=1:=by omega
      have hSd:(fun X:World=>X.cell? ⟨M,4,none⟩=some (.slice ar nr cr)∧X.cell? ⟨w.heap.size,0,none⟩=some (.slice (some ⟨b,off,none⟩) n cap)) D:=⟨z4,kmD⟩
      have Dc:=hDe
      go_upto_region 8 with fail
      refine iF (fun X:World=>X.cell? ⟨M,4,none⟩=some (.slice ar nr cr)∧X.cell? ⟨w.heap.size,0,none⟩=some (.slice (some ⟨b,off,none⟩) n cap)) 12 (by kernel_rfl) ?_
      rw[hDe]
      clear hDe Dc
      refine aR (i:=0) (some 37) (v:=?v0) rfl rfl (by kernel_rfl) (by kernel_rfl) (by kernel_rfl) (by kernel_rfl) (fun _ _ _ h=>h) hSd (Or.inl ⟨by rfl,?hy0⟩) ?adt
      case hy0=>(intro w hSw;(try dsimp only at hSw);go_simp;try with_reducible rfl)
      try simp only[Act.put,List.setIfInBounds_toArray,List.set_cons_zero,List.set_cons_succ]
      refine aR (i:=1) (some 38) (v:=?v1) rfl rfl (by kernel_rfl) (by kernel_rfl) (by kernel_rfl) (by kernel_rfl) (fun _ _ _ h=>h) hSd (Or.inl ⟨by rfl,?hy1⟩) ?adu
      case hy1=>(intro w hSw;(try dsimp only at hSw);go_simp;try with_reducible rfl)
      try simp only[Act.put,List.setIfInBounds_toArray,List.set_cons_zero,List.set_cons_succ]
      refine aR (i:=2) (some 39) (v:=?v2) rfl rfl (by kernel_rfl) (by kernel_rfl) (by kernel_rfl) (by kernel_rfl) (fun _ _ _ h=>h) hSd (Or.inl ⟨by rfl,?hy2⟩) ?adv
      case hy2=>(intro w hSw;(try dsimp only at hSw);go_simp;try with_reducible rfl)
      try simp only[Act.put,List.setIfInBounds_toArray,List.set_cons_zero,List.set_cons_succ]
      refine aR (i:=3) (some 40) (v:=?v3) rfl rfl (by kernel_rfl) (by kernel_rfl) (by kernel_rfl) (by kernel_rfl) (fun _ _ _ h=>h) hSd (Or.inl ⟨by rfl,?hy3⟩) ?agl
      case hy3=>(intro w hSw;(try dsimp only at hSw);go_simp;try with_reducible rfl)
      try simp only[Act.put,List.setIfInBounds_toArray,List.set_cons_zero,List.set_cons_succ]
      refine aR (i:=4) (some 41) (v:=?v4) rfl rfl (by kernel_rfl) (by kernel_rfl) (by kernel_rfl) (by kernel_rfl) (fun _ _ _ h=>h) hSd (Or.inl ⟨by rfl,?hy4⟩) ?agm
      case hy4=>(intro w hSw;(try dsimp only at hSw);go_simp;try with_reducible rfl)
      try simp only[Act.put,List.setIfInBounds_toArray,List.set_cons_zero,List.set_cons_succ]
      refine aR (i:=5) (some 42) (v:=?v5) rfl rfl (by kernel_rfl) (by kernel_rfl) (by kernel_rfl) (by kernel_rfl) (fun _ _ _ h=>h) hSd (Or.inl ⟨by rfl,?Uq⟩) ?agn
      case Uq=>(intro w hSw;(try dsimp only at hSw);go_simp;try with_reducible rfl)
      try simp only[Act.put,List.setIfInBounds_toArray,List.set_cons_zero,List.set_cons_succ]
      refine aR (i:=6) (some 43) (v:=?v6) rfl rfl (by kernel_rfl) (by kernel_rfl) (by kernel_rfl) (by kernel_rfl) (fun _ _ _ h=>h) hSd (Or.inl ⟨by rfl,?Zc⟩) ?agp
      case Zc=>(intro w hSw;(try dsimp only at hSw);go_simp;try with_reducible rfl)
      try simp only[Act.put,List.setIfInBounds_toArray,List.set_cons_zero,List.set_cons_succ]
      refine aR (i:=7) (some 44) (v:=?v7) rfl rfl (by kernel_rfl) (by kernel_rfl) (by kernel_rfl) (by kernel_rfl) (fun _ _ _ h=>h) hSd (Or.inl ⟨by rfl,?Zd⟩) ?agq
      case Zd=>(intro w hSw;(try dsimp only at hSw);go_simp;try with_reducible rfl)
      try simp only[Act.put,List.setIfInBounds_toArray,List.set_cons_zero,List.set_cons_succ]
      refine aR (i:=8) (some 45) (v:=?v8) rfl rfl (by kernel_rfl) (by kernel_rfl) (by kernel_rfl) (by kernel_rfl) (fun _ _ _ h=>h) hSd (Or.inl ⟨by rfl,?hy8⟩) ?agr
      case hy8=>(intro w hSw;(try dsimp only at hSw);go_simp;try with_reducible rfl)
      try simp only[Act.put,List.setIfInBounds_toArray,List.set_cons_zero,List.set_cons_succ]
      refine aQ (j:=9) (by kernel_rfl) rfl (fun K hK=>?_)
      go_simp
      refine(HGR.out D hD).mono ?_
      rintro e Z ⟨rfl,E8⟩
      dsimp only
      have Ap:Below Y.heap.size Y Z:=aj E8 hD
      have Ep:Below w1.heap.size w1 Z:=aj Ap HR.out.2.1
      have hSz:(fun X:World=>X.cell? ⟨M,4,none⟩=some (.slice ar nr cr)∧X.cell? ⟨w.heap.size,0,none⟩=some (.slice (some ⟨b,off,none⟩) n cap)) Z:=⟨(HR.out.1.below Ap).cell 4 (by simp),KM.out Z Ep⟩
      refine hK.out _ _ (fun _=>hSz) ?_
      clear hK K
      try simp only[Act.put,List.setIfInBounds_toArray,List.set_cons_zero,List.set_cons_succ]
      have SI:(fun X:World=>X.cell? ⟨M,4,none⟩=some (.slice ar nr cr)∧X.cell? ⟨w.heap.size,0,none⟩=some (.slice (some ⟨b,off,none⟩) n cap)) (Z.alloc (.cells #[.string rw1] 9)):=⟨((HR.out.1.below Ap).alloc _).cell 4 (by simp),KM.out _ (Ep.alloc Ep.size _)⟩
      refine aQ (j:=10) (by kernel_rfl) rfl (fun K hK=>?_)
      go_simp
      refine hK.out _ _ (fun _=>SI) ?_
      clear hK K
      try simp only[Act.put,List.setIfInBounds_toArray,List.set_cons_zero,List.set_cons_succ]
      obtain⟨v',Z',hr2,hF',rR,hat⟩:=app1 (C:=sP) (c:=1) (bytes:=16) (z:=.string ByteArray.empty) Tryz.underlying36 lq rfl (by decide) (fun _=>rfl) Dj (HF.out.below Ap) 36 rw1 (by have:=Ap.size;have:=HX.out;omega) (by rw[←sF.out];omega) (by decide)
      have hML:M<X.heap.size:=wR.out.1.lt
      have hown:=(HF.out.below Ap).own
      have yI:M ∉ (Value.slice ar nr cr).ownBlock.toList:=fun hm=>by have:=(hown M hm).1;omega
      have nJ:aU Z' M 38 #[.string ack,.string control,.int .i64 cd,.string tag,.slice ar nr cr,.string pointer]:=((HR.out.1.below Ap).only rR yI)
      have WY:w1.heap.size≤X.heap.size:=wR.out.2.1.size
      have FC:Below w1.heap.size w1 Z':=Ep.trans (rR.below Ep.size fun d hd=>by have:=(hown d hd).1;omega)
      have SK:(fun X:World=>X.cell? ⟨M,4,none⟩=some (.slice ar nr cr)∧X.cell? ⟨w.heap.size,0,none⟩=some (.slice (some ⟨b,off,none⟩) n cap)) Z':=⟨nJ.cell 4 (by simp),KM.out Z' FC⟩
      have r4:Z'.cell? ⟨M,4,none⟩=some (.slice ar nr cr):=nJ.cell 4 (by simp)
      have rf4:=nJ.frozen 4
      obtain⟨a8,c8,e8,_,_⟩:=hF'.form
      rw[List.length_append,List.length_singleton,←sF.out] at e8
      subst e8
      refine aQ (j:=11) (by kernel_rfl) rfl (fun K hK=>?_)
      refine oL rfl _ _ 36 rfl hr2 (by first|rfl|simp[Act.eval,Act.put]) (by first|rfl|simp[Act.eval,Act.put]) ?_
      show K (Act.put _ (some 48) _) _
      refine hK.out _ _ (fun _=>SK) ?_
      clear hK K
      try simp only[Act.put,List.setIfInBounds_toArray,List.set_cons_zero,List.set_cons_succ]
      refine aQ (j:=12) (by kernel_rfl) rfl (fun K hK=>?_)
      go_simp
      refine hK.out _ _ (fun h=>absurd h (by decide)) ?_
      clear hK K
      refine aQ (j:=13) (by kernel_rfl) rfl (fun K hK=>?_)
      go_simp
      refine hK.out _ _ (fun h=>absurd h (by decide)) ?_
      clear hK K
      refine kV (by kernel_rfl) ?_ _
      have hZs:=rR.size
      have hYs:=Ap.size
      have lZ:Hid (RB w1 (Z'.setCell ⟨M,4,none⟩ (.slice a8 (nr+1) c8)) M #[.string ack,.string control,.int .i64 cd,.string tag,.slice a8 (nr+1) c8,.string pointer]∧FB sP 1 9 X.heap.size (Z'.setCell ⟨M,4,none⟩ (.slice a8 (nr+1) c8)) (.slice a8 (nr+1) c8) (rowsOf (xs.take (k+1)))∧X.heap.size≤(Z'.setCell ⟨M,4,none⟩ (.slice a8 (nr+1) c8)).heap.size):=by
       refine⟨⟨?_,FC.setCell (p:=⟨M,4,none⟩) HR.out.2.2 _,HR.out.2.2⟩,?_,?_⟩
       ·have:=nJ.set 4 (.slice a8 (nr+1) c8)
        simpa using this
       ·rw[DT.out]
        exact hF'.keep fun b hb=>Deep.blk_setCell_other _ ⟨M,4,none⟩ _ b (by have:=(hF'.own b hb).1;dsimp only;omega)
       ·rw[Deep.nblk_setCell];have:=HX.out;omega
      have HLEN:Hid (nr+1=(rowsOf (xs.take (k+1))).length):=by show _=_;rw[DT.out,List.length_append,List.length_singleton,←sF.out]
      clear hSd hSz SI SK r4 rf4 hr2 hF' rR hat hown yI nJ FC Ep Ap E8 hZs hYs hML WY
      go_wp2_with fail
      go_roundg (n - (k+1))
      case measure=>omega
      case rel=>exact⟨k+1,a8,c8,nr+1,by omega,rfl,by go_num,HLEN.out,lZ.out.1,lZ.out.2.1,lZ.out.2.2⟩
    ·have hki:¬(k:Int)<(n:Int):=by omega
     have hkn:xs.take k=xs:=List.take_of_length_le (by have:=HN.out;omega)
     rw[hkn] at HF sF
     have Xd:=sF.out
     obtain⟨r,hr⟩:∃r:jM,bX xs=r:=⟨_,rfl⟩
     have HRR:Hid (r=⟨ack,control,cd,tag,rowsOf xs,pointer⟩):=hr.symm.trans Ah.out
     have Ph:=hide (A9 HF.out (by rw[←Xd];omega) (fun s hs=>Nat.le_trans (zm nC.out s hs) (by decide)))
     rw[hr] at Ka
     have DK:=hide (fun W (h:Below Y.heap.size Y W)=>wh r ar cr W (lo:=X.heap.size) Ka.out.1 Ka.out.2.1 Ka.out.2.2.1 Ka.out.2.2.2.1 (by rw[HRR.out];show bq _ W (.slice ar (rowsOf xs).length cr) (rowsOf xs);rw[←Xd];exact At.kept bE Ph.out h))
     have aaV:=hide (zn (xs:=xs))
     have Xe:=hide (JG (xs:=xs))
     rw[hr] at aaV Xe
     obtain⟨m',hm'⟩:∃m',fE r=m':=⟨_,rfl⟩
     rw[hm'] at DK aaV Xe
     have HRV:Hid (gU r (.slice ar r.rows.length cr)=.agg #[.string ack,.string control,.int .i64 cd,.string tag,.slice ar nr cr,.string pointer]):=by rw[HRR.out];unfold gU;dsimp only;rw[Xd];exact rfl
     rw[HRV.out] at DK
     clear hr hm' hkn Xd
     refine Ba HR.out.1 ?_
     rintro _ ⟨⟨z0,z1,z2,z3,z4,z5⟩,-⟩
     have HVY:=hide (At.kept bA F4.out HR.out.2.1)
     go_wp2_with fail
     refine(DK.out Y (Below.refl _ _)).mono ?_
     rintro e Z ⟨u,rfl,hU,E8⟩
     obtain⟨au,cu,eu,_⟩:=hU.form
     subst eu
     obtain⟨V,hV⟩:∃V,Z.alloc (Obj.cells #[.slice au m'.length cu] 28)=V:=⟨_,rfl⟩
     have PZ:Below Z.heap.size Z V:=by rw[←hV];exact aO _ _
     have sV:V.heap.size=Z.heap.size+1:=by rw[←hV];simp
     have v0:V.cell? ⟨Z.heap.size,0,none⟩=some (.slice au m'.length cu):=by rw[←hV];simp
     have Zr:Below Y.heap.size Y V:=aj PZ E8
     have Xf:Below w1.heap.size w1 V:=aj Zr HR.out.2.1
     have hml:=hU.1
     have HUV:=hide (At.kept bA hU PZ)
     have HXV:=hide (At.kept bA HVY.out Zr)
     have adK:=hide (fun W (h:Below V.heap.size V W)=>Ot m' xs (.slice au m'.length cu) (.slice a n cap) W (At.kept bA HUV.out h) (by have:=At.kept bA HXV.out h;exact this))
     have TW:=hide (vE.out.below Xf)
     have HBV:=hide Xf
     have hRM:w.heap.size+1<M:=by have:=wR.out.2.2;have:=wZ.out;omega
     have HMV:=hide (HR.out.1.below Zr)
     have HSV:=hide (At.kept bE Ph.out Zr)
     have kmV:=KM.out V Xf
     refine Ba HMV.out ?_
     rintro _ ⟨⟨y0,y1,y2,y3,y4,y5⟩,-⟩
     refine Ba TW.out ?_
     rintro _ ⟨⟨q0,q1,q2,q3,q4,q5⟩,f0,f1,f2,f3,f4,f5⟩
     clear z0 z1 z2 z3 z4 z5 km hU E8 PZ Zr Xf
     have jG:Hid (∀(W:World) (p:jM) (ok:Bool) (uu:Value),Below w1.heap.size w1 W→aU W (w.heap.size+1) 38 #[.string ⟨#[]⟩,.string ⟨#[]⟩,.int .i64 0,.string ⟨#[]⟩,.slice none 0 0,.string ⟨#[]⟩]→bq 0 W uu p.rows→True):=fun _ _ _ _ _ _ _=>trivial
     by_cases hm0:m'.length=0
     ·have aaG:((m'.length:Int) == 0)=true:=by simpa using hm0
      have HX0:Hid (z8 xs=(yj,false)):=Xe.out (fun h=>h.1 (List.length_eq_zero_iff.1 hm0))
      clear hm0
      go_wp2_with fail
      refine bodyPost_ret (qx rfl rfl (TW.out.yt _ _ _ _ _ _)) rfl ?_
      rw[HX0.out]
      exact⟨.slice none 0 0,rfl,⟨by simp[yj],.inl ⟨_,_,rfl,rfl⟩⟩,jO (aJ HBV.out HB1.out) (Nat.le_succ _) _ _ _ _ _ _⟩
     ·have aaW:¬(m'.length:Int)=0:=by omega
      have aaG:((m'.length:Int) == 0)=false:=by simpa using aaW
      go_wp2_with fail
      refine(adK.out V (Below.refl _ _)).mono ?_
      rintro e V2 ⟨bb,rfl,hbb,hb2⟩
      have HB2:=hide (aj hb2 HBV.out)
      have Nt:=hide (TW.out.below hb2)
      have HM2:=hide (HMV.out.below hb2)
      have HS2:=hide (At.kept bE HSV.out hb2)
      clear y0 y1 y2 y3 y4 y5 q0 q1 q2 q3 q4 q5 f0 f1 f2 f3 f4 f5 v0 kmV hb2
      refine Ba HM2.out ?_
      rintro _ ⟨⟨y0,y1,y2,y3,y4,y5⟩,-⟩
      refine Ba Nt.out ?_
      rintro _ ⟨⟨q0,q1,q2,q3,q4,q5⟩,f0,f1,f2,f3,f4,f5⟩
      have hRl:w.heap.size+1<V2.heap.size:=Nt.out.lt
      have hcc:bb=true∨bb=false:=by cases bb;exact .inr rfl;exact .inl rfl
      rcases hcc with hcc|hcc
      ·subst hcc
       have Ur:Hid (z8 xs=(r,true)):=aaV.out (fun h=>hm0 (by rw[h];rfl)) (hbb.1 rfl)
       clear hm0 aaW hbb
       go_wp2_with fail
       refine bodyPost_ret (v:=.tuple #[.agg #[.string ack,.string control,.int .i64 cd,.string tag,.slice ar nr cr,.string pointer],.bool true]) (qx (R:=w.heap.size+1) rfl rfl (Nt.out.yt _ _ _ _ _ _)) rfl ?_
       rw[Ur.out]
       refine⟨.slice ar r.rows.length cr,by rw[HRV.out],?_,jO (aJ HB2.out HB1.out) (Nat.le_succ _) _ _ _ _ _ _⟩
       rw[HRR.out]
       show bq 0 _ (.slice ar (rowsOf xs).length cr) (rowsOf xs)
       rw[←sF.out]
       refine At.mono xq (At.same bE HS2.out ⟨by simp only[Deep.nblk_setCell];exact aS _,fun b hb _=>?_⟩) (eH _)
       have hlt1:=wR.out.1.lt
       iterate 6 (refine(Deep.blk_setCell_other _ _ _ _ (by dsimp only;omega)).trans ?_)
       rfl
      ·subst hcc
       have Ur:Hid (z8 xs=(yj,false)):=Xe.out (fun h=>by have:=hbb.2 h.2;cases this)
       clear hm0 aaW hbb
       go_wp2_with fail
       refine bodyPost_ret (v:=.tuple #[.agg #[.string ⟨#[]⟩,.string ⟨#[]⟩,.int .i64 0,.string ⟨#[]⟩,.slice none 0 0,.string ⟨#[]⟩],.bool false]) (qx (R:=w.heap.size+1) rfl rfl (Nt.out.yt _ _ _ _ _ _)) rfl ?_
       rw[Ur.out]
       exact⟨.slice none 0 0,rfl,⟨by simp[yj],.inl ⟨_,_,rfl,rfl⟩⟩,jO (aJ HB2.out HB1.out) (Nat.le_succ _) _ _ _ _ _ _⟩
end Go.Proofs.YtfdihjnlgdiioaaGreatDoor.dB
