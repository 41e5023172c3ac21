import Derived.Test.YtglcdcekkglmiaaGreatDoorG41
import Derived.Deep.LoopGhost
import Derived.Deep.RegionHeld3
import Derived.Deep.DeepCutAuto
namespace Go.Proofs.YtglcdcekkglmiaaGreatDoor.Msg
open Go.ChangeShapes Go.WideShapes Go.ChangeAt Go.RowKit
set_option linter.unusedVariables false
set_option linter.unusedSimpArgs false
set_option maxRecDepth 100000 in
set_option maxHeartbeats 16000000 in
theorem drawCh_any (cs:List UInt8) (v:Value) (p:Nat) (xs:List Sess) (tv:Value) (w:World) {lo lt:Nat} (hv:CodeAt lo w v cs) (hl:cs.length≤1048576) (hp:p≤3000000) (ht:SesssAt lt w tv xs) (hz:∀s∈xs,s.rows.length≤1000000) :
  Calls Tryz.prog 19 #[v,.int .i64 (p:Int),.agg #[tv]] w fun e w'=>∃u,e=.returned (.tuple #[chgV (drCh cs p xs) u,.int .i64 ((drChQ cs p xs:Nat):Int)])∧StrsAt w.heap.size w' u (drCh cs p xs).rows∧Below w.heap.size w w':=by
 obtain⟨at1,ct1,rfl,_⟩:=At.form ht
 obtain⟨X0,hX0⟩:∃x,(w.alloc (.cells #[.slice at1 xs.length ct1] 25)).alloc (.cells cgZ 28)=x:=⟨_,rfl⟩
 have b0:Below w.heap.size w X0:=by
  rw[←hX0]
  have h1:=(Below.refl w.heap.size w).alloc (leR _) (Obj.cells #[.slice at1 xs.length ct1] 25)
  exact h1.alloc h1.size _
 have HTB:Hid (Box X0 w.heap.size 25 #[.slice at1 xs.length ct1]):=by rw[←hX0];exact(Box.new _ _ _).alloc _
 have HRS:Hid (Box X0 (w.heap.size+1) 28 cgZ):=by
  rw[←hX0]
  have:=Box.new (w.alloc (Obj.cells #[.slice at1 xs.length ct1] 25)) 28 cgZ
  rw[Deep.nblk_alloc] at this
  exact this
 have HZ:=hide hz
 clear hz
 have HSX:Hid (X0.heap.size=w.heap.size+2):=by show _=_;rw[←hX0];simp
 have HT1:=hide (take_any cs v p 16 X0 (At.kept kept_code hv b0) hl (by omega) (by decide))
 have HT2:=hide (take_any cs v (p+1) 60 X0 (At.kept kept_code hv b0) hl (by omega) (by decide))
 have HTG:=hide (drawTag_any cs v (p+2) X0 (At.kept kept_code hv b0) hl (by omega))
 have HTX:=hide (fun W (hb:Below X0.heap.size X0 W)=>drawTxt_any cs v (p+3) W (At.kept kept_code hv (bjoin hb b0)) hl (by omega))
 have HT5:=hide (fun W (hb:Below w.heap.size w W)=>take_any cs v (p+5) 5 W (At.kept kept_code hv hb) hl (by omega) (by decide))
 have HTR:=hide (fun W (hb:Below w.heap.size w W) (k:Nat) (hk:k≤5)=>drawTxt_any cs v (p+6+2 * k) W (At.kept kept_code hv hb) hl (by omega))
 have HSS:Hid (∀X,Below w.heap.size w X→SesssAt lt X (.slice at1 xs.length ct1) xs):=fun X hX=>At.kept kept_sess ht hX
 have ha:=tk_lt cs p 16 (by decide)
 have hb:=tk_lt cs (p+1) 60 (by decide)
 have HB0:=hide b0
 obtain⟨aa,cap,rfl,_⟩:=code_form hv
 have hq:=drTxt_sz cs (p+3)
 have htg:=drTag_sz cs (p+2)
 obtain⟨rr,hrr⟩:∃r,drCh cs p xs=r:=⟨_,rfl⟩
 obtain⟨qq,hqq⟩:∃r,drChQ cs p xs=r:=⟨_,rfl⟩
 rw[hrr,hqq]
 unfold drCh drOp drOn at hrr
 unfold drChQ at hqq
 obtain⟨a,hae⟩:∃a,tk cs p 16=a:=⟨_,rfl⟩
 obtain⟨b,hbe⟩:∃a,tk cs (p+1) 60=a:=⟨_,rfl⟩
 obtain⟨tag,htge⟩:∃a,drTag cs (p+2)=a:=⟨_,rfl⟩
 obtain⟨query,hqe⟩:∃a,drTxt cs (p+3)=a:=⟨_,rfl⟩
 obtain⟨nr,hnre⟩:∃a,tk cs (p+5) 5=a:=⟨_,rfl⟩
 have hnr:nr<5:=by rw[←hnre];exact tk_lt _ _ _ (by decide)
 rw[hae] at HT1 ha hrr hqq
 rw[hbe] at HT2 hb hrr hqq
 rw[htge] at HTG htg hrr
 rw[hqe] at HTX hq hrr
 rw[hnre] at HT5 hrr hqq
 have e2:p+1+1=p+2:=by omega
 have e3:p+2+1=p+3:=by omega
 have e5:p+3+2=p+5:=by omega
 have e6:p+5+1=p+6:=by omega
 rw[e2] at HT2
 rw[e3] at HTG
 rw[e5] at HTX
 rw[e6] at HT5
 have HTE:=hide (fun k=>rfl (a:=drTxt cs (p+6+2 * k)))
 obtain⟨p1,hp1⟩:∃q,p+1=q:=⟨_,rfl⟩
 obtain⟨p2,hp2⟩:∃q,p+2=q:=⟨_,rfl⟩
 obtain⟨p3,hp3⟩:∃q,p+3=q:=⟨_,rfl⟩
 obtain⟨p5,hp5⟩:∃q,p+5=q:=⟨_,rfl⟩
 obtain⟨p6,hp6⟩:∃q,p+6=q:=⟨_,rfl⟩
 rw[hp1] at HT1 HT2
 rw[hp2] at HT2 HTG
 rw[hp3] at HTG HTX
 rw[hp5] at HTX HT5 hqq
 rw[hp6] at HT5 HTR hrr hqq
 have hp6b:p6≤3000006:=by omega
 have HRR:=hide hrr
 have HQQ:=hide hqq
 have HSH:=hide (fun W=>show_any b W (by omega))
 have hds:=decT_small b (by omega)
 obtain⟨dt,hdt⟩:∃t,decT b=t:=⟨_,rfl⟩
 rw[hdt] at HSH hds
 have HDT:=hide hdt
 obtain⟨n,hn⟩:∃q,xs.length=q:=⟨_,rfl⟩
 rw[hn] at HTB HSS HRR HQQ hX0 ⊢
 have HN:=hide hn
 have HX0:Hid ((w.alloc (.cells #[.slice at1 n ct1] 25)).alloc (.cells #[.int .i64 0,.int .i64 0,.string ⟨#[]⟩,.string ⟨#[]⟩,.int .i64 0,.slice none 0 0,.int .i64 0] 28)=X0):=hX0
 obtain⟨b4,hb4⟩:∃q,b % 4=q:=⟨_,rfl⟩
 obtain⟨b9,hb9⟩:∃q,b % 9=q:=⟨_,rfl⟩
 obtain⟨b2,hb2⟩:∃q,b % 2=q:=⟨_,rfl⟩
 obtain⟨a5,ha5⟩:∃q,a % 5=q:=⟨_,rfl⟩
 have m4:(b:Int).tmod 4=(b4:Int):=by rw[Int.tmod_eq_emod_of_nonneg (by omega),←hb4];omega
 have m9:(b:Int).tmod 9=(b9:Int):=by rw[Int.tmod_eq_emod_of_nonneg (by omega),←hb9];omega
 have m2:(b:Int).tmod 2=(b2:Int):=by rw[Int.tmod_eq_emod_of_nonneg (by omega),←hb2];omega
 have m5:(a:Int).tmod 5=(a5:Int):=by rw[Int.tmod_eq_emod_of_nonneg (by omega),←ha5];omega
 have k4:b4<4:=by omega
 have k9:b9<9:=by omega
 have k2:b2<2:=by omega
 have k5:a5<5:=by omega
 have hc1:(⟨#[110]⟩:ByteArray).size=1:=rfl
 obtain⟨nt,hnt⟩:∃c,(⟨#[110]⟩:ByteArray)++dt=c:=⟨_,rfl⟩
 obtain⟨tg,htgE⟩:∃c,(if 40<b then nt else tag)=c:=⟨_,rfl⟩
 have HTGE:=hide htgE
 have HOPEN:Hid (a<6∨n=0→rr=⟨1,(b4:Int),tg,query,(b9:Int)+1,[],0⟩∧qq=p5):=fun h=>by
  refine⟨?_,?_⟩
  ·rw[←HRR.out,if_pos h,←HTGE.out,←hnt,←HDT.out,←hb4,←hb9];rfl
  ·rw[←HQQ.out,if_pos h]
 have HON:Hid (¬(a<6∨n=0)→∀s,xs.getD (b % n) sess0=s→rr=⟨kd a b s.state,s.client,s.tag,⟨#[]⟩,0,if kd a b s.state=2 then rowsAt cs p6 nr else [],if kd a b s.state=4 then ((b % (s.rows.length+2):Nat):Int) else 0⟩∧qq=if kd a b s.state=2 then p6+2 * nr else p5):=fun h s hs=>by
  refine⟨?_,?_⟩
  ·rw[←HRR.out,if_neg h,hs]
  ·rw[←HQQ.out,if_neg h,hs]
 have HKD:Hid (∀st,kd a b st=if a<10∧st=1 then (2:Int)+(b2:Int) else if a<12∧st=2 then 4 else (a5:Int)+2):=fun st=>by unfold kd;rw[hb2,ha5]
 have HNT:=hide hnt
 clear hv ht hae hbe htge hqe hrr hqq hnre b0 hX0 e2 e3 e5 e6 hp1 hp2 hp3 hp5 hp6 hdt hn hb4 hb9 hb2 ha5 hnt htgE HRR HQQ
 go_enter Tryz.func19,Tryz.ntmps19
 go_wp2_with fail
 rw[HX0.out]
 refine HT1.out.mono ?_
 rintro e w2 ⟨rfl,hw2⟩
 rw[hw2]
 clear hw2 w2
 go_wp2_with fail
 refine HT2.out.mono ?_
 rintro e w2 ⟨rfl,hw2⟩
 rw[hw2]
 clear hw2 w2
 go_wp2_with fail
 refine HTG.out.mono ?_
 rintro e W1 ⟨rfl,hb1⟩
 have HB1:=hide hb1
 clear hb1
 go_wp2_with fail
 refine(HTX.out W1 HB1.out).mono ?_
 rintro e W2 ⟨rfl,hb2⟩
 obtain⟨X5,hX5⟩:∃x,W2.alloc (Obj.cells #[.int .i64 1,.int .i64 (b4:Int),.string tag,.string query,.int .i64 ((b9:Int)+1),.slice none 0 0,.int .i64 0] 28)=x:=⟨_,rfl⟩
 have hbx5:Below X0.heap.size X0 X5:=by
  have h1:=bjoin hb2 HB1.out
  rw[←hX5]
  exact h1.alloc h1.size _
 have hR:X0.heap.size≤W2.heap.size:=(bjoin hb2 HB1.out).size
 have HDC:Hid (DC w (.slice at1 n ct1) W2.heap.size ⟨1,(b4:Int),tag,query,(b9:Int)+1,[],0⟩ (.slice none 0 0) X5) :=
  ⟨HTB.out.below hbx5,HRS.out.below hbx5,by rw[←hX5];exact Box.new _ _ _,FB.nil _ _ _ _ _,bjoin hbx5 HB0.out,by have:=HSX.out;omega⟩
 have HX5:=hide hX5
 obtain⟨R,hRe⟩:∃q,W2.heap.size=q:=⟨_,rfl⟩
 rw[hRe] at HDC
 have HRE:=hide hRe
 clear hb2 hX5 hbx5 hR hRe
 go_upto_if 53 with(rw[HX5.out])
 (try rw[HX5.out])
 (try rw[HRE.out])
 go_cut [15] (fun s wx=>s=.pointer (some ⟨R,0,none⟩)∧DC w (.slice at1 n ct1) R ⟨1,(b4:Int),tg,query,(b9:Int)+1,[],0⟩ (.slice none 0 0) wx)
 case first =>
  by_cases h40:40<b
  ·have h40i:(40:Int)<(b:Int):=by omega
   have HTQ:Hid (tg=nt):=by rw[←HTGE.out,if_pos h40];trivial
   clear h40
   go_wp2_with fail
   refine(HSH.out _).mono ?_
   rintro e Y6 ⟨rfl,hb6⟩
   have HD6:=hide (HDC.out.below hb6)
   clear hb6
   obtain⟨⟨_,_,c2,_,_,_,_⟩,⟨_,_,f2,_,_,_,_⟩,cl⟩:=HD6.out.cells
   dsimp only at c2
   have HF:Hid (DC w (.slice at1 n ct1) R ⟨1,(b4:Int),tg,query,(b9:Int)+1,[],0⟩ (.slice none 0 0) (Y6.setCell ⟨R,2,none⟩ (.string nt))):=by rw[HTQ.out];exact HD6.out.set 2 (.string nt) _ rfl rfl
   have hnt:=HNT.out
   go_wp2_with fail
   go_meet
   case rel=>exact⟨rfl,HF.out⟩
  ·have h40i:¬(40:Int)<(b:Int):=by omega
   have HTQ:Hid (tg=tag):=by rw[←HTGE.out,if_neg h40];trivial
   clear h40
   go_wp2_with fail
   go_meet
   case rel=>exact⟨rfl,by rw[HTQ.out];exact HDC.out⟩
 case rest =>
  clear HDC HX5 HRE
  obtain⟨Y,rfl⟩:∃x,x=wc:=⟨_,rfl⟩
  obtain⟨rfl,hdc⟩:=hcut
  have HDC:=hide hdc
  clear hdc
  obtain⟨⟨c0,c1,c2,c3,c4,c5,c6⟩,⟨f0,f1,f2,f3,f4,f5,f6⟩,cl⟩:=HDC.out.cells
  obtain⟨⟨z0,z1,z2,z3,z4,z5,z6⟩,⟨y0,y1,y2,y3,y4,y5,y6⟩,zl⟩:=HDC.out.rcells
  have t0:Y.cell? ⟨w.heap.size,0,none⟩=some (.slice at1 n ct1):=HDC.out.tbl.cell 0 (by simp)
  dsimp only at c0 c1 c2 c3 c4 c5 c6
  have HDN:=hide (HDC.out.done (by simp) (fun s hs=>by cases hs) (.int .i64 1) (.int .i64 (b4:Int)) (.string tg) (.string query) (.int .i64 ((b9:Int)+1)) (.slice none 0 0) (.int .i64 0))
  by_cases ha6:a<6
  ·have ha6i:(a:Int)<6:=by omega
   obtain⟨e1,e2⟩:=HOPEN.out (.inl ha6)
   subst e1 e2
   clear ha6
   go_wp2_with fail
   exact bodyPost_ret (v:=.tuple #[chgV ⟨1,(b4:Int),tg,query,(b9:Int)+1,[],0⟩ (.slice none 0 0),.int .i64 (qq:Int)]) (by simp[results,Tryz.results19,go_sem,chgV,z0,z1,z2,z3,z4,z5,z6,zl]) rfl ⟨_,rfl,HDN.out.1,HDN.out.2⟩
  have ha6i:¬(a:Int)<6:=by omega
  by_cases hn0:n=0
  ·have hn0b:((n:Int) == 0)=true:=by simp;omega
   obtain⟨e1,e2⟩:=HOPEN.out (.inr hn0)
   subst e1 e2
   clear ha6 hn0
   go_wp2_with fail
   exact bodyPost_ret (v:=.tuple #[chgV ⟨1,(b4:Int),tg,query,(b9:Int)+1,[],0⟩ (.slice none 0 0),.int .i64 (qq:Int)]) (by simp[results,Tryz.results19,go_sem,chgV,z0,z1,z2,z3,z4,z5,z6,zl]) rfl ⟨_,rfl,HDN.out.1,HDN.out.2⟩
  have hn0b:((n:Int) == 0)=false:=by simp;omega
  have hn0i:¬(n:Int)=0:=by omega
  have hON:=HON.out (by omega)
  obtain⟨j,hj⟩:∃j,b % n=j:=⟨_,rfl⟩
  have hjn:j<n:=by rw[←hj];exact Nat.mod_lt _ (by omega)
  have mj:(b:Int).tmod (n:Int)=(j:Int):=by rw[Int.tmod_eq_emod_of_nonneg (by omega),←hj];exact(Int.natCast_emod _ _).symm
  have mj2:(b:Int) % (n:Int)=(j:Int):=by rw[←hj];exact(Int.natCast_emod _ _).symm
  obtain⟨a',cap',ea,hel⟩:=At.form (HSS.out Y HDC.out.bel)
  rw[HN.out] at ea
  injection ea with e1 _ e3
  subst e1 e3
  have hjx:j<xs.length:=by rw[HN.out];exact hjn
  obtain⟨g,off,rfl,_,hgl,ge⟩:=hel j hjx
  obtain⟨s,hs⟩:∃s,xs[j]=s:=⟨_,rfl⟩
  rw[hs] at ge
  have hON:=hON s (by rw[hj,List.getD_eq_getElem?_getD,List.getElem?_eq_getElem hjx,←hs];rfl)
  obtain⟨pe,hpe⟩:∃p,off+j * 7=p:=⟨_,rfl⟩
  rw[hpe] at ge
  obtain⟨g0,g1,g2,g3,g4,g6,z1',z2',ve,g5,hrows⟩:=ge
  obtain⟨ar,cr,rfl,_⟩:=At.form hrows
  have hmem:s∈xs:=by rw[←hs];exact List.getElem_mem hjx
  obtain⟨sc,stag,sq,sp,sst,srows,scur⟩:=s
  dsimp only at g0 g1 g2 g3 g4 g5 g6 hON hrows z1'
  obtain⟨sn,hsn⟩:∃q,srows.length=q:=⟨_,rfl⟩
  have hsl:sn≤1000000:=by rw[←hsn];exact HZ.out _ hmem
  rw[hsn] at g5 hON
  have HONN:=hide hON
  obtain⟨D,hwd⟩:∃D,Y.drew=D:=⟨_,rfl⟩
  have hD0:Below Y.heap.size Y Y.drew:=(Below.refl _ _).drew
  have hD:Below Y.heap.size Y D:=by rw[←hwd];exact hD0
  have KF:Hid (∀X,Below Y.heap.size Y X→(X.cell? ⟨w.heap.size,0,none⟩=some (.slice (some ⟨g,off,none⟩) n ct1))∧X.cell? ⟨g,pe,none⟩=some (.int .i64 sc)∧X.cell? ⟨g,pe+1,none⟩=some (.string stag)∧X.cell? ⟨g,pe+2,none⟩=some (.string sq)∧X.cell? ⟨g,pe+3,none⟩=some (.int .i64 sp)∧X.cell? ⟨g,pe+4,none⟩=some (.int .i64 sst)∧X.cell? ⟨g,pe+5,none⟩=some (.slice ar sn cr)∧X.cell? ⟨g,pe+6,none⟩=some (.int .i64 scur)):=fun X hX=>by
   have hgl':g<Y.heap.size:=hgl
   refine⟨(HDC.out.tbl.below hX).cell 0 (by simp),(hX.cell (p:=⟨g,pe,none⟩) hgl').trans g0,(hX.cell (p:=⟨g,pe+1,none⟩) hgl').trans g1,(hX.cell (p:=⟨g,pe+2,none⟩) hgl').trans g2,(hX.cell (p:=⟨g,pe+3,none⟩) hgl').trans g3,(hX.cell (p:=⟨g,pe+4,none⟩) hgl').trans g4,(hX.cell (p:=⟨g,pe+5,none⟩) hgl').trans g5,(hX.cell (p:=⟨g,pe+6,none⟩) hgl').trans g6⟩
  have HJ:=hide (And.intro hjx hs)
  clear ha6 hel hs hON hrows z0 z1 z2 z3 z4 z5 z6 y0 y1 y2 y3 y4 y5 y6 HDN c0 c1 c2 c3 c4 c5 c6 f0 f1 f2 f3 f4 f5 f6 hsn hj
  clear g0 g1 g2 g3 g4 g5 g6
  go_upto_region 11 with fail
  clear t0
  have hji:(j:Int)<(n:Int):=by omega
  go_region_held3 (fun X:World=>(X.cell? ⟨w.heap.size,0,none⟩=some (.slice (some ⟨g,off,none⟩) n ct1))∧X.cell? ⟨g,pe,none⟩=some (.int .i64 sc)∧X.cell? ⟨g,pe+1,none⟩=some (.string stag)∧X.cell? ⟨g,pe+2,none⟩=some (.string sq)∧X.cell? ⟨g,pe+3,none⟩=some (.int .i64 sp)∧X.cell? ⟨g,pe+4,none⟩=some (.int .i64 sst)∧X.cell? ⟨g,pe+5,none⟩=some (.slice ar sn cr)∧X.cell? ⟨g,pe+6,none⟩=some (.int .i64 scur))
   (first|with_reducible exact KF.out _ hD0|with_reducible exact KF.out _ hD|with_reducible exact KF.out _ (hD.alloc hD.size _))
   (first|fail)
  obtain⟨Z,hZ⟩:∃x,D.alloc (Obj.cells #[.int .i64 sc,.string stag,.string sq,.int .i64 sp,.int .i64 sst,.slice ar sn cr,.int .i64 scur] 41)=x:=⟨_,rfl⟩
  have hbZ:Below Y.heap.size Y Z:=by rw[←hZ];exact hD.alloc hD.size _
  have HDZ:=hide (HDC.out.below hbZ)
  have HSB:Hid (Box Z D.heap.size 41 #[.int .i64 sc,.string stag,.string sq,.int .i64 sp,.int .i64 sst,.slice ar sn cr,.int .i64 scur]):=by rw[←hZ];exact Box.new _ _ _
  have HSR:Hid (R<D.heap.size):=Nat.lt_of_lt_of_le HDC.out.box.lt hD.size
  obtain⟨S,hS⟩:∃q,D.heap.size=q:=⟨_,rfl⟩
  rw[hS] at HSB HSR
  rw[hZ,hS]
  clear hZ hS hbZ hD hD0 hwd HDC KF mj mj2 hjn hji HJ hmem hpe hgl cl zl
  clear HSS
  obtain⟨⟨c0,c1,c2,c3,c4,c5,c6⟩,⟨f0,f1,f2,f3,f4,f5,f6⟩,cl⟩:=HDZ.out.cells
  dsimp only at c0 c1 c2 c3 c4 c5 c6
  have k0:Z.cell? ⟨S,0,none⟩=some (.int .i64 sc):=HSB.out.cell 0 (by simp)
  have k1:Z.cell? ⟨S,1,none⟩=some (.string stag):=HSB.out.cell 1 (by simp)
  have sl:=HSB.out.lt
  have hF:=HDZ.out.fill (.int .i64 ((a5:Int)+2)) (.int .i64 sc) (.string stag) (.string ⟨#[]⟩) (.int .i64 0) (.int .i64 0) ⟨(a5:Int)+2,sc,stag,⟨#[]⟩,0,[],0⟩ rfl rfl
  have hSB:=HSB.out.keep (blk_fill7 Z R (.int .i64 ((a5:Int)+2)) (.int .i64 sc) (.string stag) (.string ⟨#[]⟩) (.int .i64 0) (.slice none 0 0) (.int .i64 0) S (by have:=HSR.out;omega))
  clear HDZ HSB
  go_upto_region 13 with fail
  clear c0 c1 c2 c3 c4 c5 c6 f0 f1 f2 f3 f4 f5 f6 cl k0 k1 sl
  revert hF hSB
  generalize (((((((Z.setCell ⟨R,0,none⟩ (.int .i64 ((a5:Int)+2))).setCell ⟨R,1,none⟩ (.int .i64 sc)).setCell ⟨R,2,none⟩ (.string stag)).setCell ⟨R,3,none⟩ (.string ⟨#[]⟩)).setCell ⟨R,4,none⟩ (.int .i64 0)).setCell ⟨R,5,none⟩ (.slice none 0 0)).setCell ⟨R,6,none⟩ (.int .i64 0))=Z2
  intro hF hSB
  have HF:=hide hF
  have HSB:=hide hSB
  clear hF hSB
  obtain⟨kk1,hkk1⟩:∃q:Int,(if a<12∧sst=2 then 4 else (a5:Int)+2)=q:=⟨_,rfl⟩
  have HK1:=hide hkk1
  clear hkk1
  obtain⟨t1,ht1⟩:∃t,(decide (a<12) && (sst == 2))=t:=⟨_,rfl⟩
  have HT1B:=hide ht1
  clear ht1
  go_cut [91] (fun s wx=>s=.bool t1∧wx=Z2)
  case first =>
   have s4:Z2.cell? ⟨S,4,none⟩=some (.int .i64 sst):=HSB.out.cell 4 (by simp)
   have sl:=HSB.out.lt
   by_cases h12:a<12
   ·have h12i:(a:Int)<12:=by omega
    by_cases hs2:sst=2
    ·have hs2b:(sst == 2)=true:=by simpa using hs2
     have HQ:Hid (t1=true):=by show _=_;rw[←HT1B.out,hs2b];simpa using h12
     clear h12 hs2
     go_wp2_with fail
     go_meet
     case rel=>exact⟨by rw[HQ.out],rfl⟩
    ·have hs2b:(sst == 2)=false:=by simpa using hs2
     have HQ:Hid (t1=false):=by show _=_;rw[←HT1B.out,hs2b];simp
     clear h12 hs2
     go_wp2_with fail
     go_meet
     case rel=>exact⟨by rw[HQ.out],rfl⟩
   ·have h12i:¬(a:Int)<12:=by omega
    have HQ:Hid (t1=false):=by show _=_;rw[←HT1B.out,decide_eq_false h12];rfl
    clear h12
    go_wp2_with fail
    go_meet
    case rel=>exact⟨by rw[HQ.out],rfl⟩
  case rest =>
   obtain⟨rfl,hwz⟩:=hcut
   rw[hwz]
   clear hwz wc
   go_upto_if 91 with fail
   go_cut [15] (fun s wx=>s=.pointer (some ⟨R,0,none⟩)∧DC w (.slice (some ⟨g,off,none⟩) n ct1) R ⟨kk1,sc,stag,⟨#[]⟩,0,[],0⟩ (.slice none 0 0) wx∧Box wx S 41 #[.int .i64 sc,.string stag,.string sq,.int .i64 sp,.int .i64 sst,.slice ar sn cr,.int .i64 scur])
   case first =>
    obtain⟨⟨c0,_⟩,⟨f0,_⟩,cl⟩:=HF.out.cells
    dsimp only at c0
    cases t1 with
    | true =>
     have h1:=HT1B.out
     simp only[Bool.and_eq_true,decide_eq_true_eq,beq_iff_eq] at h1
     have HQ:Hid (kk1=4):=by show _=_;rw[←HK1.out,if_pos h1]
     have HFF:Hid (DC w (.slice (some ⟨g,off,none⟩) n ct1) R ⟨kk1,sc,stag,⟨#[]⟩,0,[],0⟩ (.slice none 0 0) (Z2.setCell ⟨R,0,none⟩ (.int .i64 (4)))∧Box (Z2.setCell ⟨R,0,none⟩ (.int .i64 (4))) S 41 #[.int .i64 sc,.string stag,.string sq,.int .i64 sp,.int .i64 sst,.slice ar sn cr,.int .i64 scur]):=⟨by rw[HQ.out];exact HF.out.set 0 (.int .i64 (4)) _ rfl rfl,HSB.out.keep (Deep.blk_setCell_other _ ⟨R,0,none⟩ _ S (by dsimp only;have:=HSR.out;omega))⟩
     clear h1
     go_wp2_with fail
     go_meet
     case rel=>exact⟨rfl,HFF.out⟩
    | false =>
     have h1:=HT1B.out
     have HQ:Hid (kk1=(a5:Int)+2):=by
      show _=_
      rw[←HK1.out,if_neg (fun h=>by rw[decide_eq_true h.1,show (sst == 2)=true by simpa using h.2] at h1;cases h1)]
     clear h1
     go_wp2_with fail
     go_meet
     case rel=>exact⟨rfl,by rw[HQ.out];exact HF.out,HSB.out⟩
   case rest =>
    clear HF HSB Z2
    obtain⟨Z2,rfl⟩:∃x,x=wc:=⟨_,rfl⟩
    obtain⟨rfl,hF,hSB⟩:=hcut
    have HF:=hide hF
    have HSB:=hide hSB
    clear hF hSB
    obtain⟨kk,hkk⟩:∃q:Int,kd a b sst=q:=⟨_,rfl⟩
    have HK2:Hid ((if a<10∧sst=1 then (2:Int)+(b2:Int) else kk1)=kk):=by rw[←hkk,HKD.out sst,HK1.out];trivial
    have HKK:=hide hkk
    clear hkk
    go_upto_region 15 with fail
    obtain⟨t2,ht2⟩:∃t,(decide (a<10) && (sst == 1))=t:=⟨_,rfl⟩
    have HT2B:=hide ht2
    clear ht2
    go_cut [99] (fun s wx=>s=.bool t2∧wx=Z2)
    case first =>
     have s4:Z2.cell? ⟨S,4,none⟩=some (.int .i64 sst):=HSB.out.cell 4 (by simp)
     have sl:=HSB.out.lt
     by_cases h12:a<10
     ·have h12i:(a:Int)<10:=by omega
      by_cases hs2:sst=1
      ·have hs2b:(sst == 1)=true:=by simpa using hs2
       have HQ:Hid (t2=true):=by show _=_;rw[←HT2B.out,hs2b];simpa using h12
       clear h12 hs2
       go_wp2_with fail
       go_meet
       case rel=>exact⟨by rw[HQ.out],rfl⟩
      ·have hs2b:(sst == 1)=false:=by simpa using hs2
       have HQ:Hid (t2=false):=by show _=_;rw[←HT2B.out,hs2b];simp
       clear h12 hs2
       go_wp2_with fail
       go_meet
       case rel=>exact⟨by rw[HQ.out],rfl⟩
     ·have h12i:¬(a:Int)<10:=by omega
      have HQ:Hid (t2=false):=by show _=_;rw[←HT2B.out,decide_eq_false h12];rfl
      clear h12
      go_wp2_with fail
      go_meet
      case rel=>exact⟨by rw[HQ.out],rfl⟩
    case rest =>
     obtain⟨rfl,hwz⟩:=hcut
     rw[hwz]
     clear hwz wc
     go_upto_if 99 with fail
     go_cut [15] (fun s wx=>s=.pointer (some ⟨R,0,none⟩)∧DC w (.slice (some ⟨g,off,none⟩) n ct1) R ⟨kk,sc,stag,⟨#[]⟩,0,[],0⟩ (.slice none 0 0) wx∧Box wx S 41 #[.int .i64 sc,.string stag,.string sq,.int .i64 sp,.int .i64 sst,.slice ar sn cr,.int .i64 scur])
     case first =>
      obtain⟨⟨c0,_⟩,⟨f0,_⟩,cl⟩:=HF.out.cells
      dsimp only at c0
      cases t2 with
      | true =>
       have h1:=HT2B.out
       simp only[Bool.and_eq_true,decide_eq_true_eq,beq_iff_eq] at h1
       have HQ:Hid (kk=(2:Int)+(b2:Int)):=by show _=_;rw[←HK2.out,if_pos h1]
       have HFF:Hid (DC w (.slice (some ⟨g,off,none⟩) n ct1) R ⟨kk,sc,stag,⟨#[]⟩,0,[],0⟩ (.slice none 0 0) (Z2.setCell ⟨R,0,none⟩ (.int .i64 ((2:Int)+(b2:Int))))∧Box (Z2.setCell ⟨R,0,none⟩ (.int .i64 ((2:Int)+(b2:Int)))) S 41 #[.int .i64 sc,.string stag,.string sq,.int .i64 sp,.int .i64 sst,.slice ar sn cr,.int .i64 scur]):=⟨by rw[HQ.out];exact HF.out.set 0 (.int .i64 ((2:Int)+(b2:Int))) _ rfl rfl,HSB.out.keep (Deep.blk_setCell_other _ ⟨R,0,none⟩ _ S (by dsimp only;have:=HSR.out;omega))⟩
       clear h1
       go_wp2_with fail
       go_meet
       case rel=>exact⟨rfl,HFF.out⟩
      | false =>
       have h1:=HT2B.out
       have HQ:Hid (kk=kk1):=by
        show _=_
        rw[←HK2.out,if_neg (fun h=>by rw[decide_eq_true h.1,show (sst == 1)=true by simpa using h.2] at h1;cases h1)]
       clear h1
       go_wp2_with fail
       go_meet
       case rel=>exact⟨rfl,by rw[HQ.out];exact HF.out,HSB.out⟩
     case rest =>
      clear HF HSB Z2
      obtain⟨Z2,rfl⟩:∃x,x=wc:=⟨_,rfl⟩
      obtain⟨rfl,hF,hSB⟩:=hcut
      have HF:=hide hF
      have HSB:=hide hSB
      clear hF hSB
      obtain⟨nn,hnn⟩:∃q:Int,(if kk=4 then ((b % (sn+2):Nat):Int) else 0)=q:=⟨_,rfl⟩
      have HNN:=hide hnn
      clear hnn
      have c0:=HF.out.cells.1.1
      have cl:=HF.out.cells.2.2
      dsimp only at c0
      go_upto_if 106 with fail
      clear c0 cl
      go_cut [15] (fun s wx=>s=.pointer (some ⟨R,0,none⟩)∧DC w (.slice (some ⟨g,off,none⟩) n ct1) R ⟨kk,sc,stag,⟨#[]⟩,0,[],nn⟩ (.slice none 0 0) wx)
      case first =>
       have s5:Z2.cell? ⟨S,5,none⟩=some (.slice ar sn cr):=HSB.out.cell 5 (by simp)
       have sl:=HSB.out.lt
       obtain⟨⟨c0,_,_,_,_,_,c6⟩,⟨f0,_,_,_,_,_,f6⟩,cl⟩:=HF.out.cells
       dsimp only at c0 c6
       by_cases hk4:kk=4
       ·have hk4b:(kk == 4)=true:=by simpa using hk4
        obtain⟨nb,hnb⟩:∃q,b % (sn+2)=q:=⟨_,rfl⟩
        have mn:(b:Int).tmod ((sn:Int)+2)=(nb:Int):=by rw[Int.tmod_eq_emod_of_nonneg (by omega),←hnb];exact(Int.natCast_emod _ _).symm
        have mn2:(b:Int) % ((sn:Int)+2)=(nb:Int):=by rw[←hnb];exact(Int.natCast_emod _ _).symm
        have sn0:¬(sn:Int)+2=0:=by omega
        have sn0b:((sn:Int)+2 == 0)=false:=by simp;omega
        have HQ:Hid (nn=(nb:Int)):=by rw[←HNN.out,if_pos hk4,hnb];trivial
        have HFF:Hid (DC w (.slice (some ⟨g,off,none⟩) n ct1) R ⟨kk,sc,stag,⟨#[]⟩,0,[],nn⟩ (.slice none 0 0) (Z2.setCell ⟨R,6,none⟩ (.int .i64 (nb:Int)))):=by rw[HQ.out];exact HF.out.set 6 (.int .i64 (nb:Int)) _ rfl rfl
        clear hk4 hnb
        go_wp2_with fail
        go_meet
        case rel=>exact⟨rfl,HFF.out⟩
       ·have hk4b:(kk == 4)=false:=by simpa using hk4
        have HQ:Hid (nn=0):=by rw[←HNN.out,if_neg hk4];trivial
        clear hk4
        go_wp2_with fail
        go_meet
        case rel=>exact⟨rfl,by rw[HQ.out];exact HF.out⟩
      case rest =>
       clear HF HSB Z2
       obtain⟨Z2,rfl⟩:∃x,x=wc:=⟨_,rfl⟩
       obtain⟨rfl,hF⟩:=hcut
       have HF:=hide hF
       clear hF
       obtain⟨⟨c0,c1,c2,c3,c4,c5,c6⟩,⟨f0,f1,f2,f3,f4,f5,f6⟩,cl⟩:=HF.out.cells
       obtain⟨⟨z0,z1,z2,z3,z4,z5,z6⟩,⟨y0,y1,y2,y3,y4,y5,y6⟩,zl⟩:=HF.out.rcells
       dsimp only at c0 c1 c2 c3 c4 c5 c6
       have hON:=HONN.out
       rw[HKK.out] at hON
       by_cases hk2:kk=2
       ·have hk2b:(kk == 2)=true:=by simpa using hk2
        rw[if_pos hk2,if_pos hk2,HNN.out] at hON
        have HFIN:=hide hON
        have HT5':=hide (HT5.out Z2 HF.out.bel)
        clear z0 z1 z2 z3 z4 z5 z6 y0 y1 y2 y3 y4 y5 y6 zl hON c1 c2 c3 c4 c5 c6 f0 f1 f2 f3 f4 f5 f6
        clear hk2
        go_wp2_with fail
        refine HT5'.out.mono ?_
        rintro e w2 ⟨rfl,hw2⟩
        rw[hw2]
        clear hw2 w2 c0 cl
        have HR0:Hid (rowsAt cs p6 0=[]):=rfl
        go_wp2_with fail
        go_loopg [14,17] nr (fun z qv i wr=>∃(k:Nat) (av:Option Addr) (cv:Nat),k≤nr∧z=nr - k∧qv=.int .i64 ((p6+2 * k:Nat):Int)∧i=.int .i64 (k:Int)∧DC w (.slice (some ⟨g,off,none⟩) n ct1) R ⟨kk,sc,stag,⟨#[]⟩,0,rowsAt cs p6 k,nn⟩ (.slice av k cv) wr)
        case atStart=>exact⟨0,none,0,zrL _,rfl,rfl,rfl,by rw[HR0.out];exact HF.out⟩
        case round =>
         clear HF
         obtain⟨k,av,cv,hk,rfl,rfl,rfl,hdc⟩:=hrel
         have HDK:=hide hdc
         clear hdc
         obtain⟨V,rfl⟩:∃x,x=wr:=⟨_,rfl⟩
         by_cases hlt:k<nr
         ·have hki:(k:Int)<(nr:Int):=by omega
          have HCT:=hide (HTR.out V HDK.out.bel k (by omega))
          obtain⟨tx,htx⟩:∃q,drTxt cs (p6+2 * k)=q:=⟨_,rfl⟩
          rw[htx] at HCT
          have HSTEP:Hid (rowsAt cs p6 (k+1)=rowsAt cs p6 k++[tx]):=by show _=_;rw[rowsAt_step,htx]
          have eq1:p6+2 * k+2=p6+2 * (k+1):=by omega
          rw[eq1] at HCT
          obtain⟨qk,hqk⟩:∃q,p6+2 * k=q:=⟨_,rfl⟩
          obtain⟨qk1,hqk1⟩:∃q,p6+2 * (k+1)=q:=⟨_,rfl⟩
          have hqkb:qk≤4000000:=by omega
          rw[hqk] at HCT ⊢
          rw[hqk1] at HCT
          have HQK:=hide hqk1
          clear hqk htx hqk1 eq1
          go_wp2_with fail
          refine HCT.out.mono ?_
          rintro e Y5 ⟨rfl,hb5⟩
          have HD5:=hide (HDK.out.below hb5)
          clear hb5
          obtain⟨a',c',w',hr,hdc',g4,g5,g6,_⟩:=HD5.out.more tx (rowsAt_len cs p6 k) (by omega)
          have HFF:Hid (DC w (.slice (some ⟨g,off,none⟩) n ct1) R ⟨kk,sc,stag,⟨#[]⟩,0,rowsAt cs p6 (k+1),nn⟩ (.slice a' (k+1) c') (w'.setCell ⟨R,5,none⟩ (.slice a' (k+1) c'))):=by rw[HSTEP.out];exact hdc'
          obtain⟨⟨_,_,_,_,_,c5,_⟩,_,cl⟩:=HD5.out.cells
          clear hdc'
          go_wp2_with (first|(at_builtin;refine wpList_app rfl _ _ 26 rfl hr (by first|rfl|simp[Act.eval,Act.put]) (by first|rfl|simp[Act.eval,Act.put]) ?_))
          go_roundg (nr - (k+1))
          case measure=>omega
          case rel=>exact⟨k+1,a',c',by omega,rfl,by rw[HQK.out],by go_num,HFF.out⟩
         ·obtain rfl:k=nr:=by omega
          have hki:¬(k:Int)<(k:Int):=by omega
          obtain⟨⟨c0,c1,c2,c3,c4,c5,c6⟩,⟨f0,f1,f2,f3,f4,f5,f6⟩,cl⟩:=HDK.out.cells
          obtain⟨⟨z0,z1,z2,z3,z4,z5,z6⟩,⟨y0,y1,y2,y3,y4,y5,y6⟩,zl⟩:=HDK.out.rcells
          dsimp only at c0 c1 c2 c3 c4 c5 c6
          have HDN:=hide (HDK.out.done (by show (rowsAt cs p6 k).length≤_;rw[rowsAt_len];omega) (fun s hs=>Nat.le_trans (rowsAt_sz cs p6 k s hs) (by decide)) (.int .i64 kk) (.int .i64 sc) (.string stag) (.string ⟨#[]⟩) (.int .i64 0) (.slice av k cv) (.int .i64 nn))
          obtain⟨e1,e2⟩:=HFIN.out
          subst e1 e2
          obtain⟨qe,hqe⟩:∃q,p6+2 * k=q:=⟨_,rfl⟩
          rw[hqe]
          have HQEE:=hide hqe
          clear hqe
          go_wp2_with fail
          exact bodyPost_ret (v:=.tuple #[chgV ⟨kk,sc,stag,⟨#[]⟩,0,rowsAt cs p6 k,nn⟩ (.slice av k cv),.int .i64 (qe:Int)]) (by simp[results,Tryz.results19,go_sem,chgV,z0,z1,z2,z3,z4,z5,z6,zl]) rfl ⟨_,by rw[HQEE.out],HDN.out.1,HDN.out.2⟩
       ·have hk2b:(kk == 2)=false:=by simpa using hk2
        rw[if_neg hk2,if_neg hk2,HNN.out] at hON
        obtain⟨e1,e2⟩:=hON
        subst e1 e2
        have HDN:=hide (HF.out.done (by simp) (fun s hs=>by cases hs) (.int .i64 kk) (.int .i64 sc) (.string stag) (.string ⟨#[]⟩) (.int .i64 0) (.slice none 0 0) (.int .i64 nn))
        clear hk2
        go_wp2_with fail
        exact bodyPost_ret (v:=.tuple #[chgV ⟨kk,sc,stag,⟨#[]⟩,0,[],nn⟩ (.slice none 0 0),.int .i64 (qq:Int)]) (by simp[results,Tryz.results19,go_sem,chgV,z0,z1,z2,z3,z4,z5,z6,zl]) rfl ⟨_,rfl,HDN.out.1,HDN.out.2⟩
end Go.Proofs.YtglcdcekkglmiaaGreatDoor.Msg
