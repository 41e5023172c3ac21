import Derived.Test.YtfdihjnlgdiioaaGreatDoorG19
import Derived.Deep.LoopGhost
namespace Go.Proofs.YtfdihjnlgdiioaaGreatDoor.dB
open Go.ChangeShapes Go.WideShapes Go.ChangeAt Go.RowKit
set_option linter.unusedVariables false
set_option linter.unusedSimpArgs false
set_option maxHeartbeats 1000000 in
theorem OM (L:Nat) (a:Option Addr) (cap per lo hi:Nat) (w:World) (hl:L≤1048576) (hp:1≤per) (hlo:lo≤1000) (hhi:hi≤1000) (agN:per≤1000) :
  Calls Tryz.prog 105 #[.slice a L cap,.int .i64 (per:Int),.int .i64 (lo:Int),.int .i64 (hi:Int)] w fun e w'=>e=.returned (.int .i64 ((l9 L per lo hi:Nat):Int))∧w'=w:=by
 obtain⟨q,hq⟩:∃q,L / per=q:=⟨_,rfl⟩
 have hql:q≤L:=by rw[←hq];exact Nat.div_le_self _ _
 have m1:(L:Int).tdiv (per:Int)=(q:Int):=by rw[Int.tdiv_eq_ediv_of_nonneg (by omega),←hq];exact(Int.natCast_ediv _ _).symm
 have m2:(L:Int) / (per:Int)=(q:Int):=by rw[←hq];exact(Int.natCast_ediv _ _).symm
 have h0:¬(per:Int)=0:=by omega
 have h0b:((per:Int) == 0)=false:=by simpa using h0
 by_cases hh:(hi:Int)<(lo:Int)+(q:Int)
 ·have HX:Hid (l9 L per lo hi=hi):=by unfold l9;rw[hq,if_pos (by omega)];exact rfl
  clear hq
  go_enter Tryz.func105,Tryz.ntmps105
  go_wp2_with fail
  go_ret
  exact⟨by rw[HX.out];rfl,rfl⟩
 ·have HX:Hid (((l9 L per lo hi:Nat):Int)=(lo:Int)+(q:Int)):=by unfold l9;rw[hq,if_neg (by omega)];show ((lo+q:Nat):Int)=_;omega
  clear hq
  go_enter Tryz.func105,Tryz.ntmps105
  go_wp2_with fail
  go_ret
  exact⟨by rw[HX.out];rfl,rfl⟩
theorem Lf (cs:List UInt8) (p n:Nat):∀s∈(List.range n).map (fun x=>mQ cs (p+2 * x)),s.size≤9223372036854775807:=fun s hs=>by
 rw[List.mem_map] at hs
 obtain⟨x,_,rfl⟩:=hs
 exact Nat.le_trans (EO cs _) (by decide)
theorem aU.Lh {W:World} {b:Nat} {t:TypeId} {y:Value} (h:aU W b t #[y]) (x:Value):aU (W.setCell ⟨b,0,none⟩ x) b t #[x]:=by
 have:=h.set 0 x
 simpa using this
theorem Only.set1 {M o:Nat} {w w':World} (h:Only [M] w w') {x:Value}:Only [M] w (w'.setCell ⟨M,o,none⟩ x) :=
 ⟨h.os,h.tape,h.output,by rw[Deep.nblk_setCell];exact h.size,fun b h1 h2=>by rw[Deep.blk_setCell_other _ ⟨M,o,none⟩ _ b (fun e=>h2 (by rw[e];simp))];exact h.block b h1 h2⟩
theorem iB.weaken {base base':Nat} {bad bad':Nat→Prop} {w:World} {v:Value} {ps:List Jd} (h:iB base bad w v ps) (hb:base'≤base) (hbad:∀b,bad' b→bad b):iB base' bad' w v ps :=
 ⟨qE h.row hb,fun b e hb'=>h.own b e (hbad b hb'),h.nm,fun p hp=>by
  obtain⟨bs,hO,hbs⟩:=h.el p hp
  exact⟨bs,hO,fun b hb'=>⟨(hbs b hb').1,fun h1=>(hbs b hb').2.1 (hbad b h1),(hbs b hb').2.2⟩⟩⟩
theorem zU (cs:List UInt8) (p:Nat):∀n,∀f∈(dM cs p n).1,f.length≤1048576
 | 0,f,h=>by cases h
 | n+1,f,h=>by
  have h':f∈(dM cs p n).1++[(jA cs (dM cs p n).2).1]:=h
  rcases List.mem_append.1 h' with h'|h'
  ·exact zU cs p n f h'
  ·rw[List.mem_singleton.1 h']
   unfold jA
   rw[rT]
   exact Nat.le_trans (su cs _ 3 2 (by decide)) (by decide)
set_option maxRecDepth 100000 in
set_option maxHeartbeats 16000000 in
theorem Jl (cs:List UInt8) (v:Value) (p:Nat) (w:World) {lo:Nat} (hv:iU lo w v cs) (hl:cs.length≤1048576) (hp:p≤2000000) :
  Calls Tryz.prog 74 #[v,.int .i64 (p:Int)] w fun e w'=>∃a c ps,e=.returned (.tuple #[.agg #[.slice a (nY cs p).1.length c],.int .i64 (((nY cs p).2:Nat):Int)])∧iB w.heap.size (fun b=>b<w.heap.size) w' (.slice a (nY cs p).1.length c) ps∧ps.map Prod.fst=(nY cs p).1∧Below w.heap.size w w':=by
 have HV:=hide hv
 obtain⟨va,vc,rfl,_⟩:=fO hv
 have Li:=hide (fun(W:World) (q n:Nat) (h:Below w.heap.size w W) (hq:q≤4000000) (hn:n≤100)=>fJ cs (.slice va cs.length vc) q n W (At.kept bJ HV.out h) hl (by omega) (by omega))
 have HDC:=hide (fun(W:World) (q:Nat) (h:Below w.heap.size w W) (hq:q≤3000000)=>FZ cs (.slice va cs.length vc) q W (At.kept bJ HV.out h) hl (by omega))
 have HCT:=hide (fun W=>OM cs.length va vc 12 1 8 W hl (by decide) (by decide) (by decide) (by decide))
 unfold nY
 obtain⟨N,hN⟩:∃N,l9 cs.length 12 1 8=N:=⟨_,rfl⟩
 have hN8:N≤8:=by rw[←hN];unfold l9;split <;> omega
 rw[hN] at HCT ⊢
 clear hN hv
 obtain⟨x1,hx1⟩:∃x,w.alloc (Obj.cells #[.slice none 0 0] 28)=x:=⟨_,rfl⟩
 obtain⟨x2,hx2⟩:∃x,x1.alloc (Obj.cells #[.slice none 0 0] 28)=x:=⟨_,rfl⟩
 obtain⟨W0,hW0⟩:∃x,x2.alloc (Obj.cells #[.string ⟨#[77,83,65]⟩,.string ⟨#[81,80,68]⟩,.string ⟨#[90,90,49]⟩,.string ⟨#[81,65,75]⟩,.string ⟨#[82,68,84]⟩,.string ⟨#[65,48,48]⟩] 9)=x:=⟨_,rfl⟩
 have bN:x1.heap.size=w.heap.size+1:=by rw[←hx1];simp
 have BX:x2.heap.size=w.heap.size+1+1:=by rw[←hx2];simp[bN]
 have sW0:W0.heap.size=w.heap.size+3:=by rw[←hW0];simp[BX]
 have bx1:Below w.heap.size w x1:=by rw[←hx1];exact aO _ _
 have Lj:Below x1.heap.size x1 x2:=by rw[←hx2];exact aO _ _
 have bW0:Below x2.heap.size x2 W0:=by rw[←hW0];exact aO _ _
 have vE:Hid (aU W0 w.heap.size 28 #[.slice none 0 0]):=by
  have:aU x1 w.heap.size 28 #[.slice none 0 0]:=by rw[←hx1];exact aU.new _ _ _
  exact(this.below Lj).below bW0
 have HM0:Hid (aU W0 (w.heap.size+1) 28 #[.slice none 0 0]):=by
  have:aU x2 (w.heap.size+1) 28 #[.slice none 0 0]:=by rw[←hx2,←bN];exact aU.new _ _ _
  exact this.below bW0
 have HNM:Hid (aU W0 (w.heap.size+1+1) 9 #[.string ⟨#[77,83,65]⟩,.string ⟨#[81,80,68]⟩,.string ⟨#[90,90,49]⟩,.string ⟨#[81,65,75]⟩,.string ⟨#[82,68,84]⟩,.string ⟨#[65,48,48]⟩]):=by rw[←hW0,←BX];exact aU.new _ _ _
 have HB0:=hide (aj bW0 (aj Lj bx1))
 have Ur:=hide hx1
 have HW0:Hid ((x1.alloc (Obj.cells #[.slice none 0 0] 28)).alloc (Obj.cells #[.string ⟨#[77,83,65]⟩,.string ⟨#[81,80,68]⟩,.string ⟨#[90,90,49]⟩,.string ⟨#[81,65,75]⟩,.string ⟨#[82,68,84]⟩,.string ⟨#[65,48,48]⟩] 9)=W0):=by rw[hx2];exact hW0
 have HSX:=hide bN
 have wZ:=hide sW0
 clear hx2 hW0 BX bx1 Lj bW0 sW0
 obtain⟨Us,OO⟩:∃x,jk cs p N=x:=⟨_,rfl⟩
 have RV:=hide OO
 rw[OO]
 clear OO
 go_enter Tryz.func74,Tryz.ntmps74
 go_wp2_with fail
 refine(HCT.out _).mono ?_
 rintro e y ⟨rfl,hy⟩
 (try rw[hy])
 clear hy y
 have bN:=HSX.out
 go_wp2_with fail
 rw[HW0.out]
 clear bN
 go_loopg [1,13] N (fun q v1 i wr=>∃(k:Nat) (ps:List Jd) (am:Option Addr) (cm:Nat),k≤N∧q=N - k∧i=.int .i64 (k:Int)∧v1=.int .i64 (((jk cs p k).2:Nat):Int)∧aU wr (w.heap.size+1) 28 #[.slice am k cm]∧iB W0.heap.size (fun b=>b<W0.heap.size) wr (.slice am k cm) ps∧ps.map Prod.fst=(jk cs p k).1∧Only [w.heap.size+1] W0 wr)
 case atStart=>exact⟨0,[],none,0,eH _,rfl,rfl,rfl,HM0.out,iB.nil _ _ _,rfl,Only.refl _ _⟩
 case round =>
  obtain⟨k,ps,am,cm,hk,rfl,rfl,rfl,VI,F9,hps,vS⟩:=hrel
  obtain⟨Y,rfl⟩:∃x,x=wr:=⟨_,rfl⟩
  have HBM:=hide VI
  have HRW:=hide F9
  have AJ:=hide hps
  have PY:=hide vS
  have jo:Hid (Below w.heap.size w Y):=HB0.out.trans (vS.below (by have:=wZ.out;omega) fun b hb=>by rw[List.mem_singleton.1 hb];omega)
  have hYs:W0.heap.size≤Y.heap.size:=vS.size
  obtain⟨pk,hpk⟩:∃q,(jk cs p k).2=q:=⟨_,rfl⟩
  have Uk:=hide hpk
  have agO:pk≤2000500:=by rw[←hpk];have:=Cj cs p k;omega
  rw[hpk]
  clear VI F9 hps vS hpk
  by_cases hlt:k<N
  ·have hki:(k:Int)<(N:Int):=by omega
   have HST:Hid (jk cs p (k+1)=((jk cs p k).1++[(uo cs k pk).1],(uo cs k pk).2)):=by rw[←Uk.out];exact rfl
   obtain⟨sg,hsg⟩:∃x,uo cs k pk=x:=⟨_,rfl⟩
   rw[hsg] at HST
   have Ll:=hide hsg
   unfold uo at Ll
   clear hsg
   have ha6:=jK cs pk 6 (by decide)
   have hb5:=jK cs (pk+1) 5 (by decide)
   have HT1:=hide (Li.out Y pk 6 jo.out (by omega) (by decide))
   obtain⟨a,hae⟩:∃a,tk cs pk 6=a:=⟨_,rfl⟩
   rw[hae] at HT1 Ll ha6
   obtain⟨nf,hnf⟩:∃a,tk cs (pk+1) 5=a:=⟨_,rfl⟩
   have PW:=hide hnf
   rw[hnf] at Ll hb5
   obtain⟨nm,hnm⟩:∃x,uW.getD a ⟨#[]⟩=x:=⟨_,rfl⟩
   have OP:=hide (HNM.out.only PY.out (by simp))
   have hna:Y.cell? ⟨w.heap.size+1+1,a,none⟩=some (.string nm):=by
    have h6:a<6:=ha6
    rw[←hnm]
    match a,h6 with
    | 0,_=>exact OP.out.cell 0 (by simp)
    | 1,_=>exact OP.out.cell 1 (by simp)
    | 2,_=>exact OP.out.cell 2 (by simp)
    | 3,_=>exact OP.out.cell 3 (by simp)
    | 4,_=>exact OP.out.cell 4 (by simp)
    | 5,_=>exact OP.out.cell 5 (by simp)
   rw[hnm] at Ll
   have aey:nm.size≤3:=by
    have h6:a<6:=ha6
    rw[←hnm]
    match a,h6 with
    | 0,_=>decide
    | 1,_=>decide
    | 2,_=>decide
    | 3,_=>decide
    | 4,_=>decide
    | 5,_=>decide
   have hai:(a:Int)<6:=by omega
   clear hae hnf hnm
   obtain⟨pk1,abD⟩:∃q,pk+1=q:=⟨_,rfl⟩
   rw[abD] at HT1 Ll PW
   have afW:pk1≤2000501:=by omega
   clear abD
   go_wp2_with fail
   refine HT1.out.mono ?_
   rintro e y ⟨rfl,hy⟩
   (try rw[hy])
   clear hy y
   obtain⟨Z0,VJ⟩:∃x,Y.alloc (Obj.cells #[.string nm,.slice none 0 0] 54)=x:=⟨_,rfl⟩
   have RX:Below Y.heap.size Y Z0:=by rw[←VJ];exact aO _ _
   have OQ:Hid (aU Z0 Y.heap.size 54 #[.string nm,.slice none 0 0]):=by rw[←VJ];exact aU.new _ _ _
   have abE:=hide RX
   have HZ0:=hide VJ
   clear RX VJ
   obtain⟨MW,Lm⟩:∃x:ByteArray,(if k=0 then (⟨#[77,83,72]⟩:ByteArray) else nm)=x:=⟨_,rfl⟩
   rw[Lm] at Ll
   have agP:MW.size≤3:=by rw[←Lm];split;decide;exact aey
   go_upto_if 44 with fail
   rw[HZ0.out]
   have z0:Z0.cell? ⟨Y.heap.size,0,none⟩=some (.string nm):=OQ.out.cell 0 (by simp)
   have z1:Z0.frozen? ⟨Y.heap.size,0,none⟩=false:=OQ.out.frozen 0
   go_cut [44] (fun v44 wx=>aU wx Y.heap.size 54 #[.string MW,.slice none 0 0]∧Below Y.heap.size Y wx)
   case first =>
    by_cases hk0:(k:Int)=0
    ·have aez:((k:Int) == 0)=true:=by simpa using hk0
     have HE:Hid (MW=⟨#[77,83,72]⟩):=by rw[←Lm,if_pos (by omega)];exact rfl
     have agQ:k=0:=by omega
     clear Lm
     go_wp2_with fail
     go_meet
     case rel=>exact⟨by rw[HE.out];have:=OQ.out.set 0 (.string ⟨#[77,83,72]⟩);simpa using this,abE.out.setCell (p:=⟨Y.heap.size,0,none⟩) (aS _) _⟩
    ·have aez:((k:Int) == 0)=false:=by simpa using hk0
     have HE:Hid (MW=nm):=by rw[←Lm,if_neg (by omega)];exact rfl
     clear Lm
     go_wp2_with fail
     go_meet
     case rel=>exact⟨by rw[HE.out];exact OQ.out,abE.out⟩
   case rest =>
    obtain⟨Xz,E8⟩:=hcut
    obtain⟨Z,rfl⟩:∃x,x=wc:=⟨_,rfl⟩
    have AQ:=hide Xz
    have sU:=hide E8
    have HWZ:=hide (aj E8 jo.out)
    have Ap:Y.heap.size<Z.heap.size:=Xz.lt
    clear Xz E8 z0 z1 Lm hna
    have HT2:=hide (Li.out Z pk1 5 HWZ.out (by omega) (by decide))
    rw[PW.out] at HT2
    obtain⟨pf,hpf⟩:∃q,pk1+1=q:=⟨_,rfl⟩
    rw[hpf] at HT2 Ll
    have agR:pf≤2000502:=by omega
    clear hpf
    go_wp2_with fail
    refine HT2.out.mono ?_
    rintro e y ⟨rfl,hy⟩
    (try rw[hy])
    clear hy y
    go_wp2_with fail
    go_loopg [1,15,16] nf (fun q v1 v15 j wr=>∃(kf:Nat) (p2:List (AE lW)),kf≤nf∧q=nf - kf∧j=.int .i64 (kf:Int)∧v1=.int .i64 (((dM cs pf kf).2:Nat):Int)∧lT tX 57 Z.heap.size (fun b=>b<Z.heap.size) wr v15 p2∧p2.map Prod.fst=(dM cs pf kf).1∧Below Z.heap.size Z wr)
    case atStart=>exact⟨0,[],eH _,rfl,rfl,rfl,lT.lit tX 57 _ Z (by simp),rfl,aO _ _⟩
    case round =>
     obtain⟨kf,p2,hkf,rfl,rfl,rfl,hA2,hp2,hb2⟩:=hrel
     obtain⟨X2,rfl⟩:∃x,x=wr:=⟨_,rfl⟩
     obtain⟨V2,rfl⟩:∃x,x=u15:=⟨_,rfl⟩
     obtain⟨a2,c2,rfl,_,_⟩:=hA2.form
     have hl2:p2.length=kf:=by have:=congrArg List.length hp2;rw[List.length_map,rU] at this;exact this
     have HA2:=hide hA2
     have D7:=hide hp2
     have HB2:=hide hb2
     have HL2:=hide hl2
     rw[hl2] at HA2 ⊢
     have hW2:Z.heap.size≤X2.heap.size:=hb2.size
     have HW2:=hide (aj hb2 HWZ.out)
     obtain⟨pq,hpq⟩:∃q,(dM cs pf kf).2=q:=⟨_,rfl⟩
     have HPQ:=hide hpq
     have agS:pq≤2000600:=by rw[←hpq];have:=wN cs pf kf;omega
     rw[hpq]
     clear hA2 hp2 hb2 hpq hl2
     by_cases hlt2:kf<nf
     ·have RY:(kf:Int)<(nf:Int):=by omega
      have Ga:Hid (dM cs pf (kf+1)=((dM cs pf kf).1++[(jA cs pq).1],(jA cs pq).2)):=by rw[←HPQ.out];exact rfl
      have hn3:=jK cs pq 3 (by decide)
      obtain⟨X2b,VK⟩:∃x,X2.alloc (Obj.cells #[.slice none 0 0] 57)=x:=⟨_,rfl⟩
      have Ze:Below X2.heap.size X2 X2b:=by rw[←VK];exact aO _ _
      have aeA:Hid (aU X2b X2.heap.size 57 #[.slice none 0 0]):=by rw[←VK];exact aU.new _ _ _
      have aeB:=hide Ze
      have HT3:=hide (Li.out X2b pq 3 (aj Ze HW2.out) (by omega) (by decide))
      have HDF:Hid (jA cs pq=iW cs (pq+1) (tk cs pq 3)):=rfl
      obtain⟨nr,hnr⟩:∃a,tk cs pq 3=a:=⟨_,rfl⟩
      rw[hnr] at HT3 hn3 HDF
      obtain⟨pr,hpr⟩:∃q,pq+1=q:=⟨_,rfl⟩
      rw[hpr] at HT3 HDF
      have agT:pr≤2000601:=by omega
      rw[HDF.out] at Ga
      have aeC:=hide VK
      clear hnr hpr Ze HDF VK
      go_wp2_with fail
      rw[aeC.out]
      refine HT3.out.mono ?_
      rintro e y ⟨rfl,hy⟩
      (try rw[hy])
      clear hy y
      go_wp2_with fail
      go_loopg [1,18] nr (fun q v1 j wr=>∃(kr:Nat) (p3:List (AE ByteArray)) (af:Option Addr) (cf:Nat),kr≤nr∧q=nr - kr∧j=.int .i64 (kr:Int)∧v1=.int .i64 (((iW cs pr kr).2:Nat):Int)∧aU wr X2.heap.size 57 #[.slice af kr cf]∧lT EN 60 (X2.heap.size+1) (fun b=>b<X2.heap.size+1) wr (.slice af kr cf) p3∧p3.map Prod.fst=(iW cs pr kr).1∧Below X2.heap.size X2 wr)
      case atStart=>exact⟨0,[],none,0,eH _,rfl,rfl,rfl,aeA.out,lT.nil _ _ _ _ _,rfl,aeB.out⟩
      case round =>
       obtain⟨kr,p3,af,cf,hkr,rfl,rfl,rfl,hBF,hA3,hp3,hb3⟩:=hrel
       obtain⟨X3,rfl⟩:∃x,x=wr:=⟨_,rfl⟩
       have jH:=hide hBF
       have Ut:=hide hA3
       have Kg:=hide hp3
       have HB3:=hide hb3
       have agU:X2.heap.size<X3.heap.size:=hBF.lt
       have hl3:p3.length=kr:=by have:=congrArg List.length hp3;rw[List.length_map,rT] at this;exact this
       have PX:=hide hl3
       have HW3:=hide (aj hb3 HW2.out)
       obtain⟨pz,hpz⟩:∃q,(iW cs pr kr).2=q:=⟨_,rfl⟩
       have HPZ:=hide hpz
       have agV:pz≤2000700:=by rw[←hpz];have:=Ci cs pr kr;omega
       rw[hpz]
       clear hBF hA3 hp3 hb3 hpz hl3
       by_cases hlt3:kr<nr
       ·have Zf:(kr:Int)<(nr:Int):=by omega
        have Zg:Hid (iW cs pr (kr+1)=((iW cs pr kr).1++[Cg cs pz],Ch cs pz)):=by rw[←HPZ.out];exact rfl
        have hn4:=jK cs pz 4 (by decide)
        obtain⟨X3b,VL⟩:∃x,X3.alloc (Obj.cells #[.slice none 0 0] 60)=x:=⟨_,rfl⟩
        have Zh:Below X3.heap.size X3 X3b:=by rw[←VL];exact aO _ _
        have aeD:Hid (aU X3b X3.heap.size 60 #[.slice none 0 0]):=by rw[←VL];exact aU.new _ _ _
        have aeE:=hide Zh
        have HT4:=hide (Li.out X3b pz 4 (aj Zh HW3.out) (by omega) (by decide))
        have HDR:Hid (Cg cs pz=(List.range (tk cs pz 4)).map (fun x=>mQ cs (pz+1+2 * x))∧Ch cs pz=pz+1+2 * tk cs pz 4):=⟨rfl,rfl⟩
        obtain⟨nc,hnc⟩:∃a,tk cs pz 4=a:=⟨_,rfl⟩
        rw[hnc] at HT4 hn4 HDR
        obtain⟨pc,hpc⟩:∃q,pz+1=q:=⟨_,rfl⟩
        rw[hpc] at HT4 HDR
        have agW:pc≤2000701:=by omega
        rw[HDR.out.1,HDR.out.2] at Zg
        have aeF:=hide VL
        clear hnc hpc Zh HDR VL
        go_wp2_with fail
        rw[aeF.out]
        refine HT4.out.mono ?_
        rintro e y ⟨rfl,hy⟩
        (try rw[hy])
        clear hy y
        go_wp2_with fail
        go_loopg [1,20] nc (fun q v1 j wr=>∃(kc:Nat) (ar:Option Addr) (cr:Nat),kc≤nc∧q=nc - kc∧j=.int .i64 (kc:Int)∧v1=.int .i64 ((pc+2 * kc:Nat):Int)∧aU wr X3.heap.size 60 #[.slice ar kc cr]∧FB tC 1 9 (X3.heap.size+1) wr (.slice ar kc cr) ((List.range kc).map fun x=>mQ cs (pc+2 * x))∧Below X3.heap.size X3 wr)
        case atStart=>exact⟨0,none,0,eH _,rfl,rfl,rfl,aeD.out,FB.nil _ _ _ _ _,aeE.out⟩
        case round =>
         obtain⟨kc,ar,cr,hkc,rfl,rfl,rfl,hBR,hF4,hb4⟩:=hrel
         obtain⟨X4,rfl⟩:∃x,x=wr:=⟨_,rfl⟩
         have GZ:=hide hBR
         have Zi:=hide hF4
         have o7:=hide hb4
         have agX:X3.heap.size<X4.heap.size:=hBR.lt
         have HW4:=hide (aj hb4 HW3.out)
         obtain⟨cl,hcl⟩:∃l,(List.range kc).map (fun x=>mQ cs (pc+2 * x))=l:=⟨_,rfl⟩
         have HCL:Hid (cl.length=kc):=by show _=_;rw[←hcl];simp
         have HCE:=hide hcl
         rw[hcl] at Zi
         clear hBR hF4 hb4 hcl
         by_cases agY:kc<nc
         ·have aeG:(kc:Int)<(nc:Int):=by omega
          obtain⟨px,hpx⟩:∃q,pc+2 * kc=q:=⟨_,rfl⟩
          have HPX:=hide hpx
          have agZ:px≤2000800:=by omega
          have HD:=hide (HDC.out X4 px HW4.out (by omega))
          obtain⟨cc,hcc⟩:∃c,mQ cs px=c:=⟨_,rfl⟩
          have Ko:=hide hcc
          rw[hcc] at HD
          have Ct:Hid (((px+2:Nat):Int)=((pc+2 * (kc+1):Nat):Int)):=by show _=_;omega
          rw[Ct.out] at HD
          rw[hpx]
          clear hpx hcc
          go_wp2_with fail
          refine HD.out.mono ?_
          rintro e V4 ⟨rfl,PZ⟩
          have abF:=hide (GZ.out.below PZ)
          have hFV:=Zi.out.below PZ
          obtain⟨v5,V5,hr5,P6,Zj,_⟩:=app1 (C:=tC) (c:=1) (bytes:=16) (z:=.string ByteArray.empty) Tryz.underlying36 lq rfl (by decide) (fun _=>rfl) RI hFV 36 cc (by have:=PZ.size;omega) (by rw[HCL.out];omega) (by decide)
          obtain⟨a5,c5,e5,_,_⟩:=P6.form
          rw[List.length_append,List.length_singleton,HCL.out] at e5
          subst e5
          have RZ:=hFV.own
          have hRn:X3.heap.size ∉ (Value.slice ar kc cr).ownBlock.toList:=fun hm=>by have:=(RZ _ hm).1;omega
          have Jm:=hide (abF.out.only Zj hRn)
          have r0:V4.cell? ⟨X3.heap.size,0,none⟩=some (.slice ar kc cr):=abF.out.cell 0 (by simp)
          have r5:V5.cell? ⟨X3.heap.size,0,none⟩=some (.slice ar kc cr):=Jm.out.cell 0 (by simp)
          have rf5:V5.frozen? ⟨X3.heap.size,0,none⟩=false:=Jm.out.frozen 0
          have aeH:Hid (FB tC 1 9 (X3.heap.size+1) (V5.setCell ⟨X3.heap.size,0,none⟩ (.slice a5 (kc+1) c5)) (.slice a5 (kc+1) c5) ((List.range (kc+1)).map fun x=>mQ cs (pc+2 * x))):=by
           have eN:(List.range (kc+1)).map (fun x=>mQ cs (pc+2 * x))=cl++[cc]:=by rw[List.range_succ,List.map_append,HCE.out,←Ko.out,←HPX.out];rfl
           show FB _ _ _ _ _ _ _
           rw[eN]
           exact P6.keep fun b hb=>Deep.blk_setCell_other _ ⟨X3.heap.size,0,none⟩ _ b (by have:=(P6.own b hb).1;dsimp only;omega)
          have aeI:=hide (Jm.out.Lh (.slice a5 (kc+1) c5))
          have aeJ:Hid (Below X3.heap.size X3 (V5.setCell ⟨X3.heap.size,0,none⟩ (.slice a5 (kc+1) c5))):=by
           have q1:=aj PZ o7.out
           exact(q1.trans (Zj.below q1.size fun d hd=>by have:=(RZ d hd).1;omega)).setCell (p:=⟨X3.heap.size,0,none⟩) (aS _) _
          clear P6 Zj RZ hRn hFV PZ
          go_wp2_with (first|(at_builtin;refine bH rfl _ _ 36 rfl hr5 (by first|rfl|simp[Act.eval,Act.put]) (by first|rfl|simp[Act.eval,Act.put]) ?_))
          go_roundg (nc - (kc+1))
          case measure=>omega
          case rel=>exact⟨kc+1,a5,c5,by omega,rfl,by go_num,rfl,aeI.out,aeH.out,aeJ.out⟩
         ·have aeG:¬(kc:Int)<(nc:Int):=by omega
          obtain rfl:kc=nc:=by omega
          have VN:Hid (((pc+2 * kc:Nat):Int)=(((iW cs pr (kr+1)).2:Nat):Int)):=by rw[Zg.out];exact rfl
          rw[VN.out]
          have Lp:=Ut.out.below um o7.out
          have abG:=hide (jH.out.below o7.out)
          obtain⟨bsr,hOr,hbr⟩:=M4 Zi.out (by rw[HCL.out];omega) (by rw[←HCE.out];exact Lf cs pc kc)
          have XA:=Zi.out.own
          obtain⟨v6,V6,VO,hA6,OT⟩:=Lp.push um Tryz.underlying55 sZ rfl (by decide) (by omega) (by rw[PX.out];omega) (fun b hb=>by show ¬b<_;omega) (cl,ar,cr) (bs:=bsr) (by show EN X4 (.slice ar cl.length cr) cl bsr;rw[HCL.out];exact hOr) (fun b hb=>by
           have h1:=XA b (hbr b hb)
           refine⟨h1.2,by show ¬b<_;omega,fun e=>?_⟩
           have h2:=(Ut.out.row.own b (by rw[e];simp)).2
           omega) 55
          dsimp only at VO
          rw[HCL.out] at VO
          obtain⟨a6,c6,e6,_,_⟩:=hA6.form
          rw[List.length_append,List.length_singleton,PX.out] at e6
          subst e6
          have hown6:=Lp.row.own
          have hFn:X2.heap.size ∉ (Value.slice af kr cf).ownBlock.toList:=fun hm=>by have:=(hown6 _ hm).1;omega
          have Zk:=hide (abG.out.only OT hFn)
          have f0:X4.cell? ⟨X2.heap.size,0,none⟩=some (.slice af kr cf):=abG.out.cell 0 (by simp)
          have q0:X4.cell? ⟨X3.heap.size,0,none⟩=some (.slice ar kc cr):=GZ.out.cell 0 (by simp)
          have f6:V6.cell? ⟨X2.heap.size,0,none⟩=some (.slice af kr cf):=Zk.out.cell 0 (by simp)
          have ff6:V6.frozen? ⟨X2.heap.size,0,none⟩=false:=Zk.out.frozen 0
          have Zl:=hide (hA6.set um (b:=X2.heap.size) (o:=0) (by show _<_;omega) (.slice a6 (kr+1) c6))
          have aeK:=hide (Zk.out.Lh (.slice a6 (kr+1) c6))
          have Zm:Hid (Below X2.heap.size X2 (V6.setCell ⟨X2.heap.size,0,none⟩ (.slice a6 (kr+1) c6))):=by
           have q1:=aj o7.out HB3.out
           exact(q1.trans (OT.below q1.size fun d hd=>by have:=(hown6 d hd).1;omega)).setCell (p:=⟨X2.heap.size,0,none⟩) (aS _) _
          have Zn:Hid ((p3++[(cl,ar,cr)]).map Prod.fst=(iW cs pr (kr+1)).1):=by show _=_;rw[Zg.out,List.map_append,Kg.out,←HCE.out];rfl
          clear hA6 OT hown6 hFn Lp hOr hbr XA
          go_wp2_with (first|(at_builtin;refine bH rfl _ _ 55 rfl VO (by first|rfl|simp[Act.eval,Act.put]) (by first|rfl|simp[Act.eval,Act.put]) ?_))
          go_roundg (nr - (kr+1))
          case measure=>omega
          case rel=>exact⟨kr+1,_,a6,c6,by omega,rfl,by go_num,rfl,aeK.out,Zl.out,Zn.out,Zm.out⟩
       ·have Zf:¬(kr:Int)<(nr:Int):=by omega
        obtain rfl:kr=nr:=by omega
        have VN:Hid ((pz:Int)=(((dM cs pf (kf+1)).2:Nat):Int)):=by rw[Ga.out];show _=((((iW cs pr kr).2):Nat):Int);rw[HPZ.out]
        rw[VN.out]
        have Lp:=HA2.out.below zT HB3.out
        obtain⟨bsf,M6,hbf⟩:=Ut.out.all (R:=Vg) (fun w b off x bs v h1 h2=>⟨v,h1,h2⟩) (by rw[PX.out];omega)
        obtain⟨fl,hfl⟩:∃l,p3.map Prod.fst=l:=⟨_,rfl⟩
        have Zo:fl.length=kr:=by rw[←hfl,List.length_map];exact PX.out
        rw[hfl] at M6
        obtain⟨v6,V6,VO,hA6,OT⟩:=Lp.push zT Tryz.underlying52 kL rfl (by decide) (by omega) (by rw[HL2.out];omega) (fun b hb=>by show ¬b<_;omega) (fl,af,cf) (bs:=bsf) (by show tX X3 (.slice af fl.length cf) fl bsf;rw[Zo];exact M6) (fun b hb=>by
         have h1:=hbf b hb
         have h3:¬b<X2.heap.size+1:=h1.2
         refine⟨h1.1,by show ¬b<_;omega,fun e=>?_⟩
         have h2:=(HA2.out.row.own b (by rw[e];simp)).2
         omega) 52
        dsimp only at VO
        rw[Zo] at VO
        have hown6:=Lp.row.own
        have f0:X3.cell? ⟨X2.heap.size,0,none⟩=some (.slice af kr cf):=jH.out.cell 0 (by simp)
        have Zl:=hide hA6
        have Zm:Hid (Below Z.heap.size Z V6):=by
         have q1:=aj HB3.out HB2.out
         exact q1.trans (OT.below q1.size fun d hd=>(hown6 d hd).1)
        have Zn:Hid ((p2++[(fl,af,cf)]).map Prod.fst=(dM cs pf (kf+1)).1):=by show _=_;rw[Ga.out,List.map_append,D7.out,←hfl,Kg.out];rfl
        clear hA6 OT hown6 Lp M6 hbf hfl
        go_wp2_with (first|(at_builtin;refine bH rfl _ _ 52 rfl VO (by first|rfl|simp[Act.eval,Act.put]) (by first|rfl|simp[Act.eval,Act.put]) ?_))
        go_roundg (nf - (kf+1))
        case measure=>omega
        case rel=>exact⟨kf+1,_,by omega,rfl,by go_num,rfl,Zl.out,Zn.out,Zm.out⟩
     ·have RY:¬(kf:Int)<(nf:Int):=by omega
      obtain rfl:kf=nf:=by omega
      obtain⟨bst,hOt,hbt⟩:=HA2.out.all (R:=KV) (fun w b off x bs v h1 h2=>⟨v,h1,h2⟩) (by rw[HL2.out];omega)
      obtain⟨fl,hfl⟩:∃l,p2.map Prod.fst=l:=⟨_,rfl⟩
      have Zo:fl.length=kf:=by rw[←hfl,List.length_map];exact HL2.out
      have HFE:Hid (fl=(dM cs pf kf).1):=by rw[←hfl];exact D7.out
      rw[hfl] at hOt
      have abH:∀f∈fl,f.length≤1048576:=fun f hf=>by rw[HFE.out] at hf;exact zU cs pf kf f hf
      have HTR:=hide (I8 (fun d=>Z.heap.size≤d) fl (.slice a2 kf c2) bst X2 (fun d hd=>by have h1:¬d<Z.heap.size:=(hbt d hd).2;omega) (fun d hd=>by omega) (by omega) abH hOt)
      have htl:(trimF fl).length≤100:=by unfold trimF ay;rw[List.length_take,List.length_map];omega
      have xV:Hid (sg=(⟨MW,trimF fl⟩,pq)):=by rw[←Ll.out,HFE.out,←HPQ.out];exact rfl
      obtain⟨tf,htf⟩:∃l,trimF fl=l:=⟨_,rfl⟩
      rw[htf] at HTR htl xV
      have VN:Hid ((pq:Int)=(((jk cs p (k+1)).2:Nat):Int)):=by rw[HST.out,xV.out];exact rfl
      rw[VN.out]
      clear hOt hbt hfl abH htf
      go_wp2_with fail
      refine HTR.out.mono ?_
      rintro e V ⟨u,rfl,M0,PZ⟩
      obtain⟨at2,Zp,yH,rfl,hOF,D9⟩:=VH M0 (by omega)
      have HBV:=hide (aj PZ HB2.out)
      have HWV:=hide (aj HBV.out sU.out)
      have VP:=hide (AQ.out.below HBV.out)
      have s0:V.cell? ⟨Y.heap.size,0,none⟩=some (.string MW):=VP.out.cell 0 (by simp)
      have s1:V.cell? ⟨Y.heap.size,1,none⟩=some (.slice none 0 0):=VP.out.cell 1 (by simp)
      have sf1:V.frozen? ⟨Y.heap.size,1,none⟩=false:=VP.out.frozen 1
      obtain⟨V1,hV1⟩:∃x,V.setCell ⟨Y.heap.size,1,none⟩ (.slice at2 tf.length Zp)=x:=⟨_,rfl⟩
      have abI:Hid (aU V1 Y.heap.size 54 #[.string MW,.slice at2 tf.length Zp]):=by
       rw[←hV1]
       have:=VP.out.set 1 (.slice at2 tf.length Zp)
       show aU _ _ _ _
       simpa using this
      have Zq:Hid (Below Y.heap.size Y V1):=by rw[←hV1];exact HWV.out.setCell (p:=⟨Y.heap.size,1,none⟩) (aS _) _
      have I9:∀b∈yH,Z.heap.size≤b:=fun b hb=>by
       rcases(D9 b hb).2 with h|h
       ·exact h
       ·omega
      have aeL:Hid (aN V1 (.slice at2 tf.length Zp) tf yH):=by
       rw[←hV1]
       exact bS.kept bQ hOF (by rw[Deep.nblk_setCell];exact aS _) fun d hd=>Deep.blk_setCell_other _ ⟨Y.heap.size,1,none⟩ _ d (by have:=I9 d hd;dsimp only;omega)
      have aeM:V1.heap.size=V.heap.size:=by rw[←hV1,Deep.nblk_setCell]
      have Zr:Y.heap.size≤V.heap.size:=HWV.out.size
      have zH:=HRW.out.below Zq.out
      have hpl:ps.length=k:=by have:=congrArg List.length AJ.out;rw[List.length_map,rV] at this;exact this
      obtain⟨v7,V7,VQ,R3,o8⟩:=zH.push (by omega) (by omega) (fun b hb=>by show ¬b<_;omega) (⟨MW,tf⟩,at2,Zp) (by show MW.size≤_;omega) (bs:=yH) aeL.out (fun b hb=>by
       refine⟨by rw[aeM];exact(D9 b hb).1,by have:=I9 b hb;show ¬b<_;omega,fun e=>?_⟩
       have h2:=(HRW.out.row.own b (by rw[e];simp)).2
       have:=I9 b hb
       omega) 26
      dsimp only at VQ
      obtain⟨a7,c7,e7,_,_⟩:=R3.form
      rw[List.length_append,List.length_singleton,hpl] at e7
      subst e7
      have uq:=zH.row.own
      have hsw:=wZ.out
      have yI:w.heap.size+1 ∉ (Value.slice am k cm).ownBlock.toList:=fun hm=>by have:=(uq _ hm).1;omega
      have R4:=hide (HBM.out.below Zq.out)
      have Lr:=hide (R4.out.only o8 yI)
      have m1:V1.cell? ⟨w.heap.size+1,0,none⟩=some (.slice am k cm):=R4.out.cell 0 (by simp)
      have t0:V1.cell? ⟨Y.heap.size,0,none⟩=some (.string MW):=abI.out.cell 0 (by simp)
      have t1:V1.cell? ⟨Y.heap.size,1,none⟩=some (.slice at2 tf.length Zp):=abI.out.cell 1 (by simp)
      have m7:V7.cell? ⟨w.heap.size+1,0,none⟩=some (.slice am k cm):=Lr.out.cell 0 (by simp)
      have mf7:V7.frozen? ⟨w.heap.size+1,0,none⟩=false:=Lr.out.frozen 0
      have R5:=hide (Lr.out.Lh (.slice a7 (k+1) c7))
      have R6:=hide (R3.set (b:=w.heap.size+1) (o:=0) (by show _<_;omega) (.slice a7 (k+1) c7))
      have R7:Hid ((ps++[((⟨MW,tf⟩:Seg),at2,Zp)]).map Prod.fst=(jk cs p (k+1)).1):=by show _=_;rw[HST.out,xV.out,List.map_append,AJ.out];rfl
      have R8:Hid (Only [w.heap.size+1] W0 (V7.setCell ⟨w.heap.size+1,0,none⟩ (.slice a7 (k+1) c7))):=by
       have q1:Only [w.heap.size+1] W0 V1:=PY.out.trans (Only.of_below Zq.out)
       have q2:Only [w.heap.size+1] W0 V7:=⟨o8.os.trans q1.os,o8.tape.trans q1.tape,o8.output.trans q1.output,Nat.le_trans q1.size o8.size,fun b h1 h2=>(o8.block b (Nat.lt_of_lt_of_le h1 q1.size) (fun hm=>by have:=(uq b hm).1;omega)).trans (q1.block b h1 h2)⟩
       exact q2.set1
      clear R3 o8 uq yI zH hOF D9 I9 PZ M0
      go_wp2_with (first|(at_builtin;refine bH rfl _ _ 26 rfl VQ (by first|rfl|simp[Act.eval,Act.put]) (by first|rfl|simp[Act.eval,Act.put]) ?_))
      go_roundg (N - (k+1))
      case measure=>omega
      case rel=>exact⟨k+1,_,a7,c7,by omega,rfl,by go_num,rfl,R5.out,R6.out,R7.out,R8.out⟩
  ·have hki:¬(k:Int)<(N:Int):=by omega
   obtain rfl:k=N:=by omega
   have hXE:=RV.out
   have hl9:Us.1.length=k:=by rw[←hXE];exact rV cs p k
   have hp9:Us.2=pk:=by rw[←hXE];exact Uk.out
   rw[hXE] at AJ
   have hsw:=wZ.out
   have Cu:=hide (vE.out.only PY.out (by simp))
   have r0:Y.cell? ⟨w.heap.size,0,none⟩=some (.slice none 0 0):=Cu.out.cell 0 (by simp)
   have rf:Y.frozen? ⟨w.heap.size,0,none⟩=false:=Cu.out.frozen 0
   have rl:w.heap.size<Y.heap.size:=Cu.out.lt
   have m1:Y.cell? ⟨w.heap.size+1,0,none⟩=some (.slice am k cm):=HBM.out.cell 0 (by simp)
   have sF:Hid (∀x,iB w.heap.size (fun b=>b<w.heap.size) (Y.setCell ⟨w.heap.size,0,none⟩ x) (.slice am k cm) ps):=fun x=>(HRW.out.set (b:=w.heap.size) (o:=0) (by show _<_;omega) x).weaken (by omega) (fun b h=>by show _<_;omega)
   have jH:Hid (∀x,Below w.heap.size w (Y.setCell ⟨w.heap.size,0,none⟩ x)):=fun x=>jo.out.setCell (p:=⟨w.heap.size,0,none⟩) (aS _) x
   have HE9:Hid (Us.1.length=k∧Us.2=pk):=⟨hl9,hp9⟩
   clear hl9 hp9 hXE
   go_wp2_with fail
   refine bodyPost_ret (v:=.tuple #[.agg #[.slice am k cm],.int .i64 (pk:Int)]) (by simp[results,Tryz.results74,go_sem,r0,rl]) rfl ?_
   rw[HE9.out.1,HE9.out.2]
   exact⟨am,cm,rfl,ps,sF.out _,AJ.out,jH.out _⟩
end Go.Proofs.YtfdihjnlgdiioaaGreatDoor.dB
