import Derived.Test.YtglcdcekkglmiaaGreatDoorG41
import Derived.Test.YtglcdcekkglmiaaGreatDoorG23
import Derived.Deep.LoopGhost
import Derived.Deep.DeepCutAuto
namespace Go.Proofs.YtglcdcekkglmiaaGreatDoor.Msg
open Go.ChangeShapes Go.WideShapes Go.ChangeAt Go.RowKit
set_option linter.unusedVariables false
set_option linter.unusedSimpArgs false
theorem SPW.fin {A:Prop} {w X:World} {base BO BS:Nat} {ps:List (Sess × Value)} {i:Nat} {s:Sess} {u:Value} {g n cap:Nat} (h:SPW A w base BO BS (.slice (some ⟨g,0,none⟩) n cap) ps i s u X) (hi:i<ps.length) (hz:ps.length≤100000) (hs:SmS s) (x:Value) :
  SesssAt w.heap.size ((put7 X g (i * 7) s u).setCell ⟨w.heap.size+1,0,none⟩ x) (.slice (some ⟨g,0,none⟩) n cap) ((ps.map Prod.fst).set i s)∧Below w.heap.size w ((put7 X g (i * 7) s u).setCell ⟨w.heap.size+1,0,none⟩ x) ∧
   Box (put7 X g (i * 7) s u) (w.heap.size+1) 25 #[.slice none 0 0]∧Box (put7 X g (i * 7) s u) BO 25 #[.slice (some ⟨g,0,none⟩) n cap]:=by
 have h1:=h.lo
 have hg:=h.row.own g (by simp[Value.ownBlock])
 have hb7:Below w.heap.size w (put7 X g (i * 7) s u):=h.bel.trans ((put7_only X g (i * 7) s u).below h.bel.size fun d hd=>by rw[List.mem_singleton.1 hd];omega)
 have hng:BO≠g:=by
  obtain⟨c1,e1⟩:=h.row.blk (b:=g) (by simp[Value.ownBlock])
  exact blk_ne h.out e1 (by decide)
 have hs7:=sesss_put h.row hi hz h.oth hs h.rows
 refine⟨?_,hb7.setCell (p:=⟨w.heap.size+1,0,none⟩) (by show w.heap.size≤w.heap.size+1;omega) _,h.res.only (put7_only X g (i * 7) s u) (by simp;omega),h.out.only (put7_only X g (i * 7) s u) (by simpa using hng)⟩
 exact At.mono mono_sess (At.same kept_sess hs7 ⟨by rw[Deep.nblk_setCell];exact leR _,fun d h2 _=>Deep.blk_setCell_other _ ⟨w.heap.size+1,0,none⟩ _ d (by dsimp only;omega)⟩) (by omega)
theorem one_sess (V:World) (s:Sess) (hs:SmS s) (h0:s.rows=[]):SesssAt V.heap.size (V.alloc (.cells #[.int .i64 s.client,.string s.tag,.string s.query,.int .i64 s.page,.int .i64 s.state,.slice none 0 0,.int .i64 s.cursor] 41)) (.slice (some ⟨V.heap.size,0,none⟩) 1 1) [s]:=by
 have hr:FB tsC 7 41 V.heap.size (V.alloc (.cells #[.int .i64 s.client,.string s.tag,.string s.query,.int .i64 s.page,.int .i64 s.state,.slice none 0 0,.int .i64 s.cursor] 41)) (.slice (some ⟨V.heap.size,0,none⟩) 1 1) [(s,.slice none 0 0)] :=
  World.ownsRow_lit (base:=V.heap.size) (e:=41) (size:=7) V #[.int .i64 s.client,.string s.tag,.string s.query,.int .i64 s.page,.int .i64 s.state,.slice none 0 0,.int .i64 s.cursor] 1 (leR _) (by unfold maxLen;omega) rfl
 have hT:TE V.heap.size (V.alloc (.cells #[.int .i64 s.client,.string s.tag,.string s.query,.int .i64 s.page,.int .i64 s.state,.slice none 0 0,.int .i64 s.cursor] 41)) (.slice (some ⟨V.heap.size,0,none⟩) 1 1) [(s,.slice none 0 0)] :=
  ⟨hr,fun p hp=>by rw[List.mem_singleton.1 hp];exact⟨hs,by rw[h0];exact FB.nil _ _ _ _ _⟩,(show ([]:List Nat).Nodup by simp)⟩
 exact hT.reads rfl (by simp)
set_option maxRecDepth 100000 in
set_option maxHeartbeats 32000000 in
theorem spoil_any (cs:List UInt8) (v:Value) (p:Nat) (xs:List Sess) (tv:Value) (w:World) {lo lt:Nat} (hv:CodeAt lo w v cs) (hl:cs.length≤1048576) (hp:p≤3000000) (ht:SesssAt lt w tv xs) (hn16:xs.length≤16) (hsm:∀s∈xs,SmS s∧s.rows.length≤200) :
  Calls Tryz.prog 21 #[v,.int .i64 (p:Int),.agg #[tv]] w fun e w'=>∃t,e=.returned (.agg #[t])∧SesssAt w.heap.size w' t (spoilT (tk cs p 9) (tk cs (p+1) xs.length) xs)∧Below w.heap.size w w':=by
 obtain⟨at1,ct1,rfl,_⟩:=At.form ht
 obtain⟨X0,hX0⟩:∃x,(w.alloc (.cells #[.slice at1 xs.length ct1] 25)).alloc (.cells #[.slice none 0 0] 25)=x:=⟨_,rfl⟩
 have b0:Below w.heap.size w X0:=by
  rw[←hX0]
  have h1:=(Below.refl w.heap.size w).alloc (leR _) (Obj.cells #[.slice at1 xs.length ct1] 25)
  exact h1.alloc h1.size _
 have HTB:Hid (Box X0 w.heap.size 25 #[.slice at1 xs.length ct1]):=by rw[←hX0];exact(Box.new _ _ _).alloc _
 have HRS:Hid (Box X0 (w.heap.size+1) 25 #[.slice none 0 0]):=by
  rw[←hX0]
  have:=Box.new (w.alloc (Obj.cells #[.slice at1 xs.length ct1] 25)) 25 #[.slice none 0 0]
  rw[Deep.nblk_alloc] at this
  exact this
 have HSX:Hid (X0.heap.size=w.heap.size+2):=by show _=_;rw[←hX0];simp
 have HT1:=hide (take_any cs v p 9 X0 (At.kept kept_code hv b0) hl (by omega) (by decide))
 have HT2:=hide (take_any cs v (p+1) xs.length X0 (At.kept kept_code hv b0) hl (by omega) (by omega))
 have HCP:=hide (copyTbl_any xs (.slice at1 xs.length ct1) X0 (At.kept kept_sess ht b0) (by omega) (fun s hs=>(hsm s hs).1))
 have ha:=tk_lt cs p 9 (by decide)
 have hi9:0<xs.length→tk cs (p+1) xs.length<xs.length:=fun h=>tk_lt _ _ _ h
 have HB0:=hide b0
 obtain⟨aa,cap,rfl,_⟩:=code_form hv
 obtain⟨a,hae⟩:∃a,tk cs p 9=a:=⟨_,rfl⟩
 obtain⟨i,hie⟩:∃a,tk cs (p+1) xs.length=a:=⟨_,rfl⟩
 rw[hae,hie]
 rw[hae] at HT1 ha
 rw[hie] at HT2 hi9
 obtain⟨p1,hp1⟩:∃q,p+1=q:=⟨_,rfl⟩
 obtain⟨p2,hp2⟩:∃q,p1+1=q:=⟨_,rfl⟩
 rw[hp1] at HT1 HT2
 rw[hp2] at HT2
 obtain⟨RT9,hRT⟩:∃q,spoilT a i xs=q:=⟨_,rfl⟩
 rw[hRT]
 have HRT:=hide hRT
 obtain⟨n,hn⟩:∃q,xs.length=q:=⟨_,rfl⟩
 rw[hn] at HTB HT2 HCP hX0 hn16 hi9 ⊢
 have HN:=hide hn
 have HSMX:=hide hsm
 have HX0:=hide hX0
 have t0:X0.cell? ⟨w.heap.size,0,none⟩=some (.slice at1 n ct1):=HTB.out.cell 0 (by simp)
 clear hv ht hae hie b0 hX0 hp1 hp2 hn hsm hRT
 go_enter Tryz.func21,Tryz.ntmps21
 go_wp2_with fail
 rw[HX0.out]
 refine HT1.out.mono ?_
 rintro e w2 ⟨rfl,hw2⟩
 rw[hw2]
 clear hw2 w2
 go_wp2_with fail
 refine HT2.out.mono ?_
 rintro e w2 ⟨rfl,hw2⟩
 rw[hw2]
 clear hw2 w2
 go_wp2_with fail
 refine HCP.out.mono ?_
 rintro e V1 ⟨tn,rfl,⟨ps,htb⟩,hb1⟩
 obtain⟨hte,hps⟩:=htb.te
 have hpl:ps.length=n:=by rw[←HN.out,←hps,List.length_map]
 obtain⟨ag,cg,et,_⟩:=hte.form
 rw[hpl] at et
 subst et
 obtain⟨V2,hV2⟩:∃x,V1.alloc (Obj.cells #[.slice ag n cg] 25)=x:=⟨_,rfl⟩
 have hb2:Below V1.heap.size V1 V2:=by rw[←hV2];exact alcB _ _
 have hs2:V2.heap.size=V1.heap.size+1:=by rw[←hV2];simp
 have HO2:Hid (Box V2 V1.heap.size 25 #[.slice ag n cg]):=by rw[←hV2];exact Box.new _ _ _
 have HR2:=hide (HRS.out.below (bjoin hb2 hb1))
 have HTE2:=hide (hte.below hb2)
 have HBW2:=hide (bjoin (bjoin hb2 hb1) HB0.out)
 have HSZ:Hid (X0.heap.size≤V1.heap.size∧V2.heap.size=V1.heap.size+1):=⟨hb1.size,hs2⟩
 have HPS:=hide hps
 have HPL:=hide hpl
 have HV2:=hide hV2
 obtain⟨BO,hBO⟩:∃q,V1.heap.size=q:=⟨_,rfl⟩
 rw[hBO] at HO2 HSZ
 have HBO:=hide hBO
 have o0:V2.cell? ⟨BO,0,none⟩=some (.slice ag n cg):=HO2.out.cell 0 (by simp)
 clear htb hb1 hte hps hpl hV2 hb2 hs2 hBO t0
 go_upto_region 5 with(rw[HV2.out])
 (try rw[HV2.out])
 (try rw[HBO.out])
 by_cases hn0:n=0
 ·have hn0b:((n:Int) == 0)=true:=by simp;omega
  have r0:V2.cell? ⟨w.heap.size+1,0,none⟩=some (.slice none 0 0):=HR2.out.cell 0 (by simp)
  have rf:=HR2.out.frozen 0
  have rl:=HR2.out.lt
  have hS:=one_sess V2 ⟨0,⟨#[116]⟩,⟨#[]⟩,0,0,[],0⟩ ⟨by decide,by decide,by simp,by simp⟩ rfl
  have HRTE:Hid (RT9=[⟨0,⟨#[116]⟩,⟨#[]⟩,0,0,[],0⟩]):=by show _=_;rw[←HRT.out];unfold spoilT;rw[if_pos (by rw[HN.out];exact hn0)]
  obtain⟨X9,hX9⟩:∃x,V2.alloc (Obj.cells #[.int .i64 0,.string ⟨#[116]⟩,.string ⟨#[]⟩,.int .i64 0,.int .i64 0,.slice none 0 0,.int .i64 0] 41)=x:=⟨_,rfl⟩
  have hb9:Below V2.heap.size V2 X9:=by rw[←hX9];exact alcB _ _
  have hS9:SesssAt V2.heap.size X9 (.slice (some ⟨V2.heap.size,0,none⟩) 1 1) [⟨0,⟨#[116]⟩,⟨#[]⟩,0,0,[],0⟩]:=by rw[←hX9];exact hS
  have hsz:w.heap.size+2≤V2.heap.size:=by have:=HSZ.out;have:=HSX.out;omega
  have HFIN:Hid (SesssAt w.heap.size (X9.setCell ⟨w.heap.size+1,0,none⟩ (.slice (some ⟨V2.heap.size,0,none⟩) 1 1)) (.slice (some ⟨V2.heap.size,0,none⟩) 1 1) RT9∧Below w.heap.size w (X9.setCell ⟨w.heap.size+1,0,none⟩ (.slice (some ⟨V2.heap.size,0,none⟩) 1 1))):=by
   rw[HRTE.out]
   exact⟨At.mono mono_sess (At.same kept_sess hS9 ⟨by rw[Deep.nblk_setCell];exact leR _,fun d h2 _=>Deep.blk_setCell_other _ ⟨w.heap.size+1,0,none⟩ _ d (by dsimp only;omega)⟩) (by omega),(bjoin hb9 HBW2.out).setCell (p:=⟨w.heap.size+1,0,none⟩) (by show w.heap.size≤w.heap.size+1;omega) _⟩
  have HR9:=hide (HR2.out.below hb9)
  have HX9:=hide hX9
  clear hn0 hS hS9 hb9 hX9 hsz r0 rf rl
  have r0:X9.cell? ⟨w.heap.size+1,0,none⟩=some (.slice none 0 0):=HR9.out.cell 0 (by simp)
  have rf:=HR9.out.frozen 0
  have rl:=HR9.out.lt
  go_wp2_with (rw[HX9.out])
  exact bodyPost_ret (v:=.agg #[.slice (some ⟨V2.heap.size,0,none⟩) 1 1]) (by simp[results,Tryz.results21,go_sem,r0,rl]) rfl ⟨_,rfl,HFIN.out.1,HFIN.out.2⟩
 have hn0b:((n:Int) == 0)=false:=by simp;omega
 have hin:i<n:=hi9 (by omega)
 have hip:i<ps.length:=by rw[HPL.out];exact hin
 obtain⟨a',cap',ea,hel⟩:=At.form (HTE2.out.sesss (by rw[HPL.out];omega))
 rw[List.length_map,HPL.out] at ea
 injection ea with e1 _ e3
 subst e1 e3
 obtain⟨g,off,rfl,_,hgl,ge⟩:=hel i (by rw[List.length_map];exact hip)
 have hoff:=HTE2.out.row.off0
 subst hoff
 rw[List.getElem_map,Nat.zero_add] at ge
 obtain⟨⟨s,u⟩,hpi⟩:∃q,ps[i]=q:=⟨_,rfl⟩
 rw[hpi] at ge
 have hxi:xs.getD i sess0=s:=by
  have hix:i<xs.length:=by rw[HN.out];exact hin
  rw[List.getD_eq_getElem?_getD,List.getElem?_eq_getElem hix]
  have h1:(ps.map Prod.fst)[i]'(by rw[List.length_map];exact hip)=xs[i]:=by simp only[HPS.out]
  rw[List.getElem_map,hpi] at h1
  exact h1.symm
 have hsX:=HSMX.out s (by rw[←hxi,List.getD_eq_getElem?_getD,List.getElem?_eq_getElem (by rw[HN.out];exact hin)];exact List.getElem_mem _)
 have hcl:=HTE2.out.cells (by rw[HPL.out];omega) i hip
 rw[hpi,Nat.zero_add] at hcl
 obtain⟨hgl2,g0,g1,g2,g3,g4,g5,g6⟩:=hcl
 have hfu:=(HTE2.out.els _ (List.getElem_mem hip)).2
 rw[hpi] at hfu
 obtain⟨ar,cr,eu,_⟩:=hfu.form
 obtain⟨sc,stag,sq,sp,sst,srows,scur⟩:=s
 dsimp only at g0 g1 g2 g3 g4 g5 g6 hfu eu hsX
 obtain⟨sn,hsn⟩:∃q,srows.length=q:=⟨_,rfl⟩
 rw[hsn] at eu
 subst eu
 have hsn2:sn≤200:=by rw[←hsn];exact hsX.2
 obtain⟨V3,hV3⟩:∃x,V2.alloc (Obj.cells #[.int .i64 sc,.string stag,.string sq,.int .i64 sp,.int .i64 sst,.slice ar sn cr,.int .i64 scur] 41)=x:=⟨_,rfl⟩
 have hb3:Below V2.heap.size V2 V3:=by rw[←hV3];exact alcB _ _
 have hS3:Box V3 V2.heap.size 41 #[.int .i64 sc,.string stag,.string sq,.int .i64 sp,.int .i64 sst,.slice ar sn cr,.int .i64 scur]:=by rw[←hV3];exact Box.new _ _ _
 have HSP:Hid (SPW True w (X0.heap.size+3) BO V2.heap.size (.slice (some ⟨g,0,none⟩) n cg) ps i ⟨sc,stag,sq,sp,sst,srows,scur⟩ (.slice ar sn cr) V3):=by
  have hlo:=(HTE2.out.row.own g (by simp[Value.ownBlock]))
  have hsz:=HSZ.out
  have hsx:=HSX.out
  refine⟨HR2.out.below hb3,HO2.out.below hb3,hS3,HTE2.out.row.below hb3,fun j hj _=>⟨(HTE2.out.els _ (List.getElem_mem hj)).1,(HTE2.out.els _ (List.getElem_mem hj)).2.below hb3⟩,hfu.below hb3,fun _ b hb j hj hne=>nd_at HTE2.out.nd hip hj hne (by rw[hpi];exact hb),fun e=>?_,bjoin hb3 HBW2.out,by omega,by omega⟩
  have e9:g=V2.heap.size:=by simpa [Value.ownBlock] using e
  omega
 have HV3:=hide hV3
 obtain⟨BS,hBS⟩:∃q,V2.heap.size=q:=⟨_,rfl⟩
 rw[hBS] at HSP
 have HBS:=hide hBS
 have HSX9:=hide hsX
 have HBOW:Hid (w.heap.size≤BO):=by show _≤_;have:=HSZ.out;have:=HSX.out;omega
 have HBOR:Hid (w.heap.size+1≠BO):=by show _≠_;have:=HSZ.out;have:=HSX.out;omega
 have HXI:=hide hxi
 have HSN:=hide hsn
 have HN0:=hide hn0
 have hii:(i:Int)<(n:Int):=by omega
 have HIP:=hide hip
 clear hel ge hpi hxi hsX hfu hV3 hb3 hS3 hBS hsn hn0 hgl hi9 hip
 go_upto_region 8 with(rw[HV3.out])
 (try rw[HV3.out])
 (try rw[HBS.out])
 clear g0 g1 g2 g3 g4 g5 g6 hgl2 o0
 clear HTE2 HO2 HR2 HBW2 HV3 HBS HV2 HBO
 by_cases hk:a=0
 ·have q0:((a:Int) == 0)=true:=by simp;omega
  have q1:((a:Int) == 1)=false:=by simp;omega
  have q2:((a:Int) == 2)=false:=by simp;omega
  have q3:((a:Int) == 3)=false:=by simp;omega
  have q4:((a:Int) == 4)=false:=by simp;omega
  have q5:((a:Int) == 5)=false:=by simp;omega
  have q6:((a:Int) == 6)=false:=by simp;omega
  have q7:((a:Int) == 7)=false:=by simp;omega
  have q8:((a:Int) == 8)=false:=by simp;omega
  have HRTE:Hid (RT9=(ps.map Prod.fst).set i ⟨4,stag,sq,sp,sst,srows,scur⟩):=by
   show _=_
   rw[←HRT.out,HPS.out]
   unfold spoilT
   rw[if_neg (by rw[HN.out];exact HN0.out),if_neg (by omega),HXI.out]
   unfold spS
   simp[hk,HSN.out]
  have HSM9:Hid (SmS ⟨4,stag,sq,sp,sst,srows,scur⟩):=⟨HSX9.out.1.1,HSX9.out.1.2.1,HSX9.out.1.2.2.1,HSX9.out.1.2.2.2⟩
  have d0:=HSP.out.ses.cell 0 (by simp)
  have f0:=HSP.out.ses.frozen 0
  have bl:=HSP.out.ses.lt
  have d5:V3.cell? ⟨BS,5,none⟩=some (.slice ar sn cr):=HSP.out.ses.cell 5 (by simp)
  simp only[List.getElem_toArray,List.getElem_cons_zero,List.getElem_cons_succ] at d0
  obtain⟨Z,hZ⟩:∃z,V3.setCell ⟨BS,0,none⟩ (.int .i64 4)=z:=⟨_,rfl⟩
  have HF:Hid (SPW True w (X0.heap.size+3) BO BS (.slice (some ⟨g,0,none⟩) n cg) ps i ⟨4,stag,sq,sp,sst,srows,scur⟩ (.slice ar sn cr) Z):=by rw[←hZ];exact HSP.out.set 0 (.int .i64 4) ⟨4,stag,sq,sp,sst,srows,scur⟩ rfl rfl
  have HZ:=hide hZ
  clear hZ hk
  go_upto_region 28 with(rw[HZ.out])
  (try rw[HZ.out])
  clear d0 f0 bl d5
  have e0:Z.cell? ⟨BS,0,none⟩=some (.int .i64 4):=HF.out.ses.cell 0 (by simp)
  have e1:Z.cell? ⟨BS,1,none⟩=some (.string stag):=HF.out.ses.cell 1 (by simp)
  have e2:Z.cell? ⟨BS,2,none⟩=some (.string sq):=HF.out.ses.cell 2 (by simp)
  have e3:Z.cell? ⟨BS,3,none⟩=some (.int .i64 sp):=HF.out.ses.cell 3 (by simp)
  have e4:Z.cell? ⟨BS,4,none⟩=some (.int .i64 sst):=HF.out.ses.cell 4 (by simp)
  have e5:Z.cell? ⟨BS,5,none⟩=some (.slice ar sn cr):=HF.out.ses.cell 5 (by simp)
  have e6:Z.cell? ⟨BS,6,none⟩=some (.int .i64 scur):=HF.out.ses.cell 6 (by simp)
  have eo:Z.cell? ⟨BO,0,none⟩=some (.slice (some ⟨g,0,none⟩) n cg):=HF.out.out.cell 0 (by simp)
  obtain⟨hgl,hgc,hgf⟩:=row7 HF.out.row (by rw[HPL.out];omega) i HIP.out
  obtain⟨w0,hw0⟩:=hgc 0 (by omega)
  obtain⟨w1,hw1⟩:=hgc 1 (by omega)
  obtain⟨w2,hw2⟩:=hgc 2 (by omega)
  obtain⟨w3,hw3⟩:=hgc 3 (by omega)
  obtain⟨w4,hw4⟩:=hgc 4 (by omega)
  obtain⟨w5,hw5⟩:=hgc 5 (by omega)
  obtain⟨w6,hw6⟩:=hgc 6 (by omega)
  rw[Nat.add_zero] at hw0
  have hf0:=hgf (i * 7)
  have hf1:=hgf (i * 7+1)
  have hf2:=hgf (i * 7+2)
  have hf3:=hgf (i * 7+3)
  have hf4:=hgf (i * 7+4)
  have hf5:=hgf (i * 7+5)
  have hf6:=hgf (i * 7+6)
  obtain⟨X9,hX9⟩:∃x,((((((Z.setCell ⟨g,i * 7,none⟩ (.int .i64 4)).setCell ⟨g,i * 7+1,none⟩ (.string stag)).setCell ⟨g,i * 7+2,none⟩ (.string sq)).setCell ⟨g,i * 7+3,none⟩ (.int .i64 sp)).setCell ⟨g,i * 7+4,none⟩ (.int .i64 sst)).setCell ⟨g,i * 7+5,none⟩ (.slice ar sn cr)).setCell ⟨g,i * 7+6,none⟩ (.int .i64 scur)=x:=⟨_,rfl⟩
  have hfin:=fun x=>HF.out.fin HIP.out (by rw[HPL.out];omega) HSM9.out x
  have hfin9:∀x,SesssAt w.heap.size (X9.setCell ⟨w.heap.size+1,0,none⟩ x) (.slice (some ⟨g,0,none⟩) n cg) ((ps.map Prod.fst).set i ⟨4,stag,sq,sp,sst,srows,scur⟩)∧Below w.heap.size w (X9.setCell ⟨w.heap.size+1,0,none⟩ x)∧Box X9 (w.heap.size+1) 25 #[.slice none 0 0]∧Box X9 BO 25 #[.slice (some ⟨g,0,none⟩) n cg]:=by rw[←hX9];exact hfin
  have HF9:=hide hfin9
  have HX9:=hide hX9
  clear hgc hgf hX9 hfin hfin9
  go_upto_region 29 with fail
  (try rw[HX9.out])
  clear e0 e1 e2 e3 e4 e5 e6 eo hw0 hw1 hw2 hw3 hw4 hw5 hw6 hf0 hf1 hf2 hf3 hf4 hf5 hf6 hgl
  have r0:X9.cell? ⟨w.heap.size+1,0,none⟩=some (.slice none 0 0):=(HF9.out (.int .i64 0)).2.2.1.cell 0 (by simp)
  have rf:=(HF9.out (.int .i64 0)).2.2.1.frozen 0
  have rl:=(HF9.out (.int .i64 0)).2.2.1.lt
  have o0:X9.cell? ⟨BO,0,none⟩=some (.slice (some ⟨g,0,none⟩) n cg):=(HF9.out (.int .i64 0)).2.2.2.cell 0 (by simp)
  go_wp2_with fail
  exact bodyPost_ret (v:=.agg #[.slice (some ⟨g,0,none⟩) n cg]) (by simp[results,Tryz.results21,go_sem,r0,rl]) rfl ⟨_,rfl,by rw[HRTE.out];exact(HF9.out _).1,(HF9.out _).2.1⟩
 by_cases hk:a=1
 ·have q0:((a:Int) == 0)=false:=by simp;omega
  have q1:((a:Int) == 1)=true:=by simp;omega
  have q2:((a:Int) == 2)=false:=by simp;omega
  have q3:((a:Int) == 3)=false:=by simp;omega
  have q4:((a:Int) == 4)=false:=by simp;omega
  have q5:((a:Int) == 5)=false:=by simp;omega
  have q6:((a:Int) == 6)=false:=by simp;omega
  have q7:((a:Int) == 7)=false:=by simp;omega
  have q8:((a:Int) == 8)=false:=by simp;omega
  have HRTE:Hid (RT9=(ps.map Prod.fst).set i ⟨sc,⟨#[]⟩,sq,sp,sst,srows,scur⟩):=by
   show _=_
   rw[←HRT.out,HPS.out]
   unfold spoilT
   rw[if_neg (by rw[HN.out];exact HN0.out),if_neg (by omega),HXI.out]
   unfold spS
   simp[hk,HSN.out]
  have HSM9:Hid (SmS ⟨sc,⟨#[]⟩,sq,sp,sst,srows,scur⟩):=⟨by show (⟨#[]⟩:ByteArray).size≤_;decide,HSX9.out.1.2.1,HSX9.out.1.2.2.1,HSX9.out.1.2.2.2⟩
  have d0:=HSP.out.ses.cell 1 (by simp)
  have f0:=HSP.out.ses.frozen 1
  have bl:=HSP.out.ses.lt
  have d5:V3.cell? ⟨BS,5,none⟩=some (.slice ar sn cr):=HSP.out.ses.cell 5 (by simp)
  simp only[List.getElem_toArray,List.getElem_cons_zero,List.getElem_cons_succ] at d0
  obtain⟨Z,hZ⟩:∃z,V3.setCell ⟨BS,1,none⟩ (.string ⟨#[]⟩)=z:=⟨_,rfl⟩
  have HF:Hid (SPW True w (X0.heap.size+3) BO BS (.slice (some ⟨g,0,none⟩) n cg) ps i ⟨sc,⟨#[]⟩,sq,sp,sst,srows,scur⟩ (.slice ar sn cr) Z):=by rw[←hZ];exact HSP.out.set 1 (.string ⟨#[]⟩) ⟨sc,⟨#[]⟩,sq,sp,sst,srows,scur⟩ rfl rfl
  have HZ:=hide hZ
  clear hZ hk
  go_upto_region 28 with(rw[HZ.out])
  (try rw[HZ.out])
  clear d0 f0 bl d5
  have e0:Z.cell? ⟨BS,0,none⟩=some (.int .i64 sc):=HF.out.ses.cell 0 (by simp)
  have e1:Z.cell? ⟨BS,1,none⟩=some (.string ⟨#[]⟩):=HF.out.ses.cell 1 (by simp)
  have e2:Z.cell? ⟨BS,2,none⟩=some (.string sq):=HF.out.ses.cell 2 (by simp)
  have e3:Z.cell? ⟨BS,3,none⟩=some (.int .i64 sp):=HF.out.ses.cell 3 (by simp)
  have e4:Z.cell? ⟨BS,4,none⟩=some (.int .i64 sst):=HF.out.ses.cell 4 (by simp)
  have e5:Z.cell? ⟨BS,5,none⟩=some (.slice ar sn cr):=HF.out.ses.cell 5 (by simp)
  have e6:Z.cell? ⟨BS,6,none⟩=some (.int .i64 scur):=HF.out.ses.cell 6 (by simp)
  have eo:Z.cell? ⟨BO,0,none⟩=some (.slice (some ⟨g,0,none⟩) n cg):=HF.out.out.cell 0 (by simp)
  obtain⟨hgl,hgc,hgf⟩:=row7 HF.out.row (by rw[HPL.out];omega) i HIP.out
  obtain⟨w0,hw0⟩:=hgc 0 (by omega)
  obtain⟨w1,hw1⟩:=hgc 1 (by omega)
  obtain⟨w2,hw2⟩:=hgc 2 (by omega)
  obtain⟨w3,hw3⟩:=hgc 3 (by omega)
  obtain⟨w4,hw4⟩:=hgc 4 (by omega)
  obtain⟨w5,hw5⟩:=hgc 5 (by omega)
  obtain⟨w6,hw6⟩:=hgc 6 (by omega)
  rw[Nat.add_zero] at hw0
  have hf0:=hgf (i * 7)
  have hf1:=hgf (i * 7+1)
  have hf2:=hgf (i * 7+2)
  have hf3:=hgf (i * 7+3)
  have hf4:=hgf (i * 7+4)
  have hf5:=hgf (i * 7+5)
  have hf6:=hgf (i * 7+6)
  obtain⟨X9,hX9⟩:∃x,((((((Z.setCell ⟨g,i * 7,none⟩ (.int .i64 sc)).setCell ⟨g,i * 7+1,none⟩ (.string ⟨#[]⟩)).setCell ⟨g,i * 7+2,none⟩ (.string sq)).setCell ⟨g,i * 7+3,none⟩ (.int .i64 sp)).setCell ⟨g,i * 7+4,none⟩ (.int .i64 sst)).setCell ⟨g,i * 7+5,none⟩ (.slice ar sn cr)).setCell ⟨g,i * 7+6,none⟩ (.int .i64 scur)=x:=⟨_,rfl⟩
  have hfin:=fun x=>HF.out.fin HIP.out (by rw[HPL.out];omega) HSM9.out x
  have hfin9:∀x,SesssAt w.heap.size (X9.setCell ⟨w.heap.size+1,0,none⟩ x) (.slice (some ⟨g,0,none⟩) n cg) ((ps.map Prod.fst).set i ⟨sc,⟨#[]⟩,sq,sp,sst,srows,scur⟩)∧Below w.heap.size w (X9.setCell ⟨w.heap.size+1,0,none⟩ x)∧Box X9 (w.heap.size+1) 25 #[.slice none 0 0]∧Box X9 BO 25 #[.slice (some ⟨g,0,none⟩) n cg]:=by rw[←hX9];exact hfin
  have HF9:=hide hfin9
  have HX9:=hide hX9
  clear hgc hgf hX9 hfin hfin9
  go_upto_region 29 with fail
  (try rw[HX9.out])
  clear e0 e1 e2 e3 e4 e5 e6 eo hw0 hw1 hw2 hw3 hw4 hw5 hw6 hf0 hf1 hf2 hf3 hf4 hf5 hf6 hgl
  have r0:X9.cell? ⟨w.heap.size+1,0,none⟩=some (.slice none 0 0):=(HF9.out (.int .i64 0)).2.2.1.cell 0 (by simp)
  have rf:=(HF9.out (.int .i64 0)).2.2.1.frozen 0
  have rl:=(HF9.out (.int .i64 0)).2.2.1.lt
  have o0:X9.cell? ⟨BO,0,none⟩=some (.slice (some ⟨g,0,none⟩) n cg):=(HF9.out (.int .i64 0)).2.2.2.cell 0 (by simp)
  go_wp2_with fail
  exact bodyPost_ret (v:=.agg #[.slice (some ⟨g,0,none⟩) n cg]) (by simp[results,Tryz.results21,go_sem,r0,rl]) rfl ⟨_,rfl,by rw[HRTE.out];exact(HF9.out _).1,(HF9.out _).2.1⟩
 by_cases hk:a=2
 ·have q0:((a:Int) == 0)=false:=by simp;omega
  have q1:((a:Int) == 1)=false:=by simp;omega
  have q2:((a:Int) == 2)=true:=by simp;omega
  have q3:((a:Int) == 3)=false:=by simp;omega
  have q4:((a:Int) == 4)=false:=by simp;omega
  have q5:((a:Int) == 5)=false:=by simp;omega
  have q6:((a:Int) == 6)=false:=by simp;omega
  have q7:((a:Int) == 7)=false:=by simp;omega
  have q8:((a:Int) == 8)=false:=by simp;omega
  have HRTE:Hid (RT9=(ps.map Prod.fst).set i ⟨sc,stag,sq,sp,5,srows,scur⟩):=by
   show _=_
   rw[←HRT.out,HPS.out]
   unfold spoilT
   rw[if_neg (by rw[HN.out];exact HN0.out),if_neg (by omega),HXI.out]
   unfold spS
   simp[hk,HSN.out]
  have HSM9:Hid (SmS ⟨sc,stag,sq,sp,5,srows,scur⟩):=⟨HSX9.out.1.1,HSX9.out.1.2.1,HSX9.out.1.2.2.1,HSX9.out.1.2.2.2⟩
  have d0:=HSP.out.ses.cell 4 (by simp)
  have f0:=HSP.out.ses.frozen 4
  have bl:=HSP.out.ses.lt
  have d5:V3.cell? ⟨BS,5,none⟩=some (.slice ar sn cr):=HSP.out.ses.cell 5 (by simp)
  simp only[List.getElem_toArray,List.getElem_cons_zero,List.getElem_cons_succ] at d0
  obtain⟨Z,hZ⟩:∃z,V3.setCell ⟨BS,4,none⟩ (.int .i64 5)=z:=⟨_,rfl⟩
  have HF:Hid (SPW True w (X0.heap.size+3) BO BS (.slice (some ⟨g,0,none⟩) n cg) ps i ⟨sc,stag,sq,sp,5,srows,scur⟩ (.slice ar sn cr) Z):=by rw[←hZ];exact HSP.out.set 4 (.int .i64 5) ⟨sc,stag,sq,sp,5,srows,scur⟩ rfl rfl
  have HZ:=hide hZ
  clear hZ hk
  go_upto_region 28 with(rw[HZ.out])
  (try rw[HZ.out])
  clear d0 f0 bl d5
  have e0:Z.cell? ⟨BS,0,none⟩=some (.int .i64 sc):=HF.out.ses.cell 0 (by simp)
  have e1:Z.cell? ⟨BS,1,none⟩=some (.string stag):=HF.out.ses.cell 1 (by simp)
  have e2:Z.cell? ⟨BS,2,none⟩=some (.string sq):=HF.out.ses.cell 2 (by simp)
  have e3:Z.cell? ⟨BS,3,none⟩=some (.int .i64 sp):=HF.out.ses.cell 3 (by simp)
  have e4:Z.cell? ⟨BS,4,none⟩=some (.int .i64 5):=HF.out.ses.cell 4 (by simp)
  have e5:Z.cell? ⟨BS,5,none⟩=some (.slice ar sn cr):=HF.out.ses.cell 5 (by simp)
  have e6:Z.cell? ⟨BS,6,none⟩=some (.int .i64 scur):=HF.out.ses.cell 6 (by simp)
  have eo:Z.cell? ⟨BO,0,none⟩=some (.slice (some ⟨g,0,none⟩) n cg):=HF.out.out.cell 0 (by simp)
  obtain⟨hgl,hgc,hgf⟩:=row7 HF.out.row (by rw[HPL.out];omega) i HIP.out
  obtain⟨w0,hw0⟩:=hgc 0 (by omega)
  obtain⟨w1,hw1⟩:=hgc 1 (by omega)
  obtain⟨w2,hw2⟩:=hgc 2 (by omega)
  obtain⟨w3,hw3⟩:=hgc 3 (by omega)
  obtain⟨w4,hw4⟩:=hgc 4 (by omega)
  obtain⟨w5,hw5⟩:=hgc 5 (by omega)
  obtain⟨w6,hw6⟩:=hgc 6 (by omega)
  rw[Nat.add_zero] at hw0
  have hf0:=hgf (i * 7)
  have hf1:=hgf (i * 7+1)
  have hf2:=hgf (i * 7+2)
  have hf3:=hgf (i * 7+3)
  have hf4:=hgf (i * 7+4)
  have hf5:=hgf (i * 7+5)
  have hf6:=hgf (i * 7+6)
  obtain⟨X9,hX9⟩:∃x,((((((Z.setCell ⟨g,i * 7,none⟩ (.int .i64 sc)).setCell ⟨g,i * 7+1,none⟩ (.string stag)).setCell ⟨g,i * 7+2,none⟩ (.string sq)).setCell ⟨g,i * 7+3,none⟩ (.int .i64 sp)).setCell ⟨g,i * 7+4,none⟩ (.int .i64 5)).setCell ⟨g,i * 7+5,none⟩ (.slice ar sn cr)).setCell ⟨g,i * 7+6,none⟩ (.int .i64 scur)=x:=⟨_,rfl⟩
  have hfin:=fun x=>HF.out.fin HIP.out (by rw[HPL.out];omega) HSM9.out x
  have hfin9:∀x,SesssAt w.heap.size (X9.setCell ⟨w.heap.size+1,0,none⟩ x) (.slice (some ⟨g,0,none⟩) n cg) ((ps.map Prod.fst).set i ⟨sc,stag,sq,sp,5,srows,scur⟩)∧Below w.heap.size w (X9.setCell ⟨w.heap.size+1,0,none⟩ x)∧Box X9 (w.heap.size+1) 25 #[.slice none 0 0]∧Box X9 BO 25 #[.slice (some ⟨g,0,none⟩) n cg]:=by rw[←hX9];exact hfin
  have HF9:=hide hfin9
  have HX9:=hide hX9
  clear hgc hgf hX9 hfin hfin9
  go_upto_region 29 with fail
  (try rw[HX9.out])
  clear e0 e1 e2 e3 e4 e5 e6 eo hw0 hw1 hw2 hw3 hw4 hw5 hw6 hf0 hf1 hf2 hf3 hf4 hf5 hf6 hgl
  have r0:X9.cell? ⟨w.heap.size+1,0,none⟩=some (.slice none 0 0):=(HF9.out (.int .i64 0)).2.2.1.cell 0 (by simp)
  have rf:=(HF9.out (.int .i64 0)).2.2.1.frozen 0
  have rl:=(HF9.out (.int .i64 0)).2.2.1.lt
  have o0:X9.cell? ⟨BO,0,none⟩=some (.slice (some ⟨g,0,none⟩) n cg):=(HF9.out (.int .i64 0)).2.2.2.cell 0 (by simp)
  go_wp2_with fail
  exact bodyPost_ret (v:=.agg #[.slice (some ⟨g,0,none⟩) n cg]) (by simp[results,Tryz.results21,go_sem,r0,rl]) rfl ⟨_,rfl,by rw[HRTE.out];exact(HF9.out _).1,(HF9.out _).2.1⟩
 by_cases hk:a=3
 ·have q0:((a:Int) == 0)=false:=by simp;omega
  have q1:((a:Int) == 1)=false:=by simp;omega
  have q2:((a:Int) == 2)=false:=by simp;omega
  have q3:((a:Int) == 3)=true:=by simp;omega
  have q4:((a:Int) == 4)=false:=by simp;omega
  have q5:((a:Int) == 5)=false:=by simp;omega
  have q6:((a:Int) == 6)=false:=by simp;omega
  have q7:((a:Int) == 7)=false:=by simp;omega
  have q8:((a:Int) == 8)=false:=by simp;omega
  have HRTE:Hid (RT9=(ps.map Prod.fst).set i ⟨sc,stag,sq,sp,sst,srows,((sn:Int)+1)⟩):=by
   show _=_
   rw[←HRT.out,HPS.out]
   unfold spoilT
   rw[if_neg (by rw[HN.out];exact HN0.out),if_neg (by omega),HXI.out]
   unfold spS
   simp[hk,HSN.out]
  have HSM9:Hid (SmS ⟨sc,stag,sq,sp,sst,srows,((sn:Int)+1)⟩):=⟨HSX9.out.1.1,HSX9.out.1.2.1,HSX9.out.1.2.2.1,HSX9.out.1.2.2.2⟩
  have d0:=HSP.out.ses.cell 6 (by simp)
  have f0:=HSP.out.ses.frozen 6
  have bl:=HSP.out.ses.lt
  have d5:V3.cell? ⟨BS,5,none⟩=some (.slice ar sn cr):=HSP.out.ses.cell 5 (by simp)
  simp only[List.getElem_toArray,List.getElem_cons_zero,List.getElem_cons_succ] at d0
  obtain⟨Z,hZ⟩:∃z,V3.setCell ⟨BS,6,none⟩ (.int .i64 ((sn:Int)+1))=z:=⟨_,rfl⟩
  have HF:Hid (SPW True w (X0.heap.size+3) BO BS (.slice (some ⟨g,0,none⟩) n cg) ps i ⟨sc,stag,sq,sp,sst,srows,((sn:Int)+1)⟩ (.slice ar sn cr) Z):=by rw[←hZ];exact HSP.out.set 6 (.int .i64 ((sn:Int)+1)) ⟨sc,stag,sq,sp,sst,srows,((sn:Int)+1)⟩ rfl rfl
  have HZ:=hide hZ
  clear hZ hk
  go_upto_region 28 with(rw[HZ.out])
  (try rw[HZ.out])
  clear d0 f0 bl d5
  have e0:Z.cell? ⟨BS,0,none⟩=some (.int .i64 sc):=HF.out.ses.cell 0 (by simp)
  have e1:Z.cell? ⟨BS,1,none⟩=some (.string stag):=HF.out.ses.cell 1 (by simp)
  have e2:Z.cell? ⟨BS,2,none⟩=some (.string sq):=HF.out.ses.cell 2 (by simp)
  have e3:Z.cell? ⟨BS,3,none⟩=some (.int .i64 sp):=HF.out.ses.cell 3 (by simp)
  have e4:Z.cell? ⟨BS,4,none⟩=some (.int .i64 sst):=HF.out.ses.cell 4 (by simp)
  have e5:Z.cell? ⟨BS,5,none⟩=some (.slice ar sn cr):=HF.out.ses.cell 5 (by simp)
  have e6:Z.cell? ⟨BS,6,none⟩=some (.int .i64 ((sn:Int)+1)):=HF.out.ses.cell 6 (by simp)
  have eo:Z.cell? ⟨BO,0,none⟩=some (.slice (some ⟨g,0,none⟩) n cg):=HF.out.out.cell 0 (by simp)
  obtain⟨hgl,hgc,hgf⟩:=row7 HF.out.row (by rw[HPL.out];omega) i HIP.out
  obtain⟨w0,hw0⟩:=hgc 0 (by omega)
  obtain⟨w1,hw1⟩:=hgc 1 (by omega)
  obtain⟨w2,hw2⟩:=hgc 2 (by omega)
  obtain⟨w3,hw3⟩:=hgc 3 (by omega)
  obtain⟨w4,hw4⟩:=hgc 4 (by omega)
  obtain⟨w5,hw5⟩:=hgc 5 (by omega)
  obtain⟨w6,hw6⟩:=hgc 6 (by omega)
  rw[Nat.add_zero] at hw0
  have hf0:=hgf (i * 7)
  have hf1:=hgf (i * 7+1)
  have hf2:=hgf (i * 7+2)
  have hf3:=hgf (i * 7+3)
  have hf4:=hgf (i * 7+4)
  have hf5:=hgf (i * 7+5)
  have hf6:=hgf (i * 7+6)
  obtain⟨X9,hX9⟩:∃x,((((((Z.setCell ⟨g,i * 7,none⟩ (.int .i64 sc)).setCell ⟨g,i * 7+1,none⟩ (.string stag)).setCell ⟨g,i * 7+2,none⟩ (.string sq)).setCell ⟨g,i * 7+3,none⟩ (.int .i64 sp)).setCell ⟨g,i * 7+4,none⟩ (.int .i64 sst)).setCell ⟨g,i * 7+5,none⟩ (.slice ar sn cr)).setCell ⟨g,i * 7+6,none⟩ (.int .i64 ((sn:Int)+1))=x:=⟨_,rfl⟩
  have hfin:=fun x=>HF.out.fin HIP.out (by rw[HPL.out];omega) HSM9.out x
  have hfin9:∀x,SesssAt w.heap.size (X9.setCell ⟨w.heap.size+1,0,none⟩ x) (.slice (some ⟨g,0,none⟩) n cg) ((ps.map Prod.fst).set i ⟨sc,stag,sq,sp,sst,srows,((sn:Int)+1)⟩)∧Below w.heap.size w (X9.setCell ⟨w.heap.size+1,0,none⟩ x)∧Box X9 (w.heap.size+1) 25 #[.slice none 0 0]∧Box X9 BO 25 #[.slice (some ⟨g,0,none⟩) n cg]:=by rw[←hX9];exact hfin
  have HF9:=hide hfin9
  have HX9:=hide hX9
  clear hgc hgf hX9 hfin hfin9
  go_upto_region 29 with fail
  (try rw[HX9.out])
  clear e0 e1 e2 e3 e4 e5 e6 eo hw0 hw1 hw2 hw3 hw4 hw5 hw6 hf0 hf1 hf2 hf3 hf4 hf5 hf6 hgl
  have r0:X9.cell? ⟨w.heap.size+1,0,none⟩=some (.slice none 0 0):=(HF9.out (.int .i64 0)).2.2.1.cell 0 (by simp)
  have rf:=(HF9.out (.int .i64 0)).2.2.1.frozen 0
  have rl:=(HF9.out (.int .i64 0)).2.2.1.lt
  have o0:X9.cell? ⟨BO,0,none⟩=some (.slice (some ⟨g,0,none⟩) n cg):=(HF9.out (.int .i64 0)).2.2.2.cell 0 (by simp)
  go_wp2_with fail
  exact bodyPost_ret (v:=.agg #[.slice (some ⟨g,0,none⟩) n cg]) (by simp[results,Tryz.results21,go_sem,r0,rl]) rfl ⟨_,rfl,by rw[HRTE.out];exact(HF9.out _).1,(HF9.out _).2.1⟩
 by_cases hk:a=4
 ·have q0:((a:Int) == 0)=false:=by simp;omega
  have q1:((a:Int) == 1)=false:=by simp;omega
  have q2:((a:Int) == 2)=false:=by simp;omega
  have q3:((a:Int) == 3)=false:=by simp;omega
  have q4:((a:Int) == 4)=true:=by simp;omega
  have q5:((a:Int) == 5)=false:=by simp;omega
  have q6:((a:Int) == 6)=false:=by simp;omega
  have q7:((a:Int) == 7)=false:=by simp;omega
  have q8:((a:Int) == 8)=false:=by simp;omega
  have HRTE:Hid (RT9=(ps.map Prod.fst).set i ⟨sc,stag,sq,51,sst,srows,scur⟩):=by
   show _=_
   rw[←HRT.out,HPS.out]
   unfold spoilT
   rw[if_neg (by rw[HN.out];exact HN0.out),if_neg (by omega),HXI.out]
   unfold spS
   simp[hk,HSN.out]
  have HSM9:Hid (SmS ⟨sc,stag,sq,51,sst,srows,scur⟩):=⟨HSX9.out.1.1,HSX9.out.1.2.1,HSX9.out.1.2.2.1,HSX9.out.1.2.2.2⟩
  have d0:=HSP.out.ses.cell 3 (by simp)
  have f0:=HSP.out.ses.frozen 3
  have bl:=HSP.out.ses.lt
  have d5:V3.cell? ⟨BS,5,none⟩=some (.slice ar sn cr):=HSP.out.ses.cell 5 (by simp)
  simp only[List.getElem_toArray,List.getElem_cons_zero,List.getElem_cons_succ] at d0
  obtain⟨Z,hZ⟩:∃z,V3.setCell ⟨BS,3,none⟩ (.int .i64 51)=z:=⟨_,rfl⟩
  have HF:Hid (SPW True w (X0.heap.size+3) BO BS (.slice (some ⟨g,0,none⟩) n cg) ps i ⟨sc,stag,sq,51,sst,srows,scur⟩ (.slice ar sn cr) Z):=by rw[←hZ];exact HSP.out.set 3 (.int .i64 51) ⟨sc,stag,sq,51,sst,srows,scur⟩ rfl rfl
  have HZ:=hide hZ
  clear hZ hk
  go_upto_region 28 with(rw[HZ.out])
  (try rw[HZ.out])
  clear d0 f0 bl d5
  have e0:Z.cell? ⟨BS,0,none⟩=some (.int .i64 sc):=HF.out.ses.cell 0 (by simp)
  have e1:Z.cell? ⟨BS,1,none⟩=some (.string stag):=HF.out.ses.cell 1 (by simp)
  have e2:Z.cell? ⟨BS,2,none⟩=some (.string sq):=HF.out.ses.cell 2 (by simp)
  have e3:Z.cell? ⟨BS,3,none⟩=some (.int .i64 51):=HF.out.ses.cell 3 (by simp)
  have e4:Z.cell? ⟨BS,4,none⟩=some (.int .i64 sst):=HF.out.ses.cell 4 (by simp)
  have e5:Z.cell? ⟨BS,5,none⟩=some (.slice ar sn cr):=HF.out.ses.cell 5 (by simp)
  have e6:Z.cell? ⟨BS,6,none⟩=some (.int .i64 scur):=HF.out.ses.cell 6 (by simp)
  have eo:Z.cell? ⟨BO,0,none⟩=some (.slice (some ⟨g,0,none⟩) n cg):=HF.out.out.cell 0 (by simp)
  obtain⟨hgl,hgc,hgf⟩:=row7 HF.out.row (by rw[HPL.out];omega) i HIP.out
  obtain⟨w0,hw0⟩:=hgc 0 (by omega)
  obtain⟨w1,hw1⟩:=hgc 1 (by omega)
  obtain⟨w2,hw2⟩:=hgc 2 (by omega)
  obtain⟨w3,hw3⟩:=hgc 3 (by omega)
  obtain⟨w4,hw4⟩:=hgc 4 (by omega)
  obtain⟨w5,hw5⟩:=hgc 5 (by omega)
  obtain⟨w6,hw6⟩:=hgc 6 (by omega)
  rw[Nat.add_zero] at hw0
  have hf0:=hgf (i * 7)
  have hf1:=hgf (i * 7+1)
  have hf2:=hgf (i * 7+2)
  have hf3:=hgf (i * 7+3)
  have hf4:=hgf (i * 7+4)
  have hf5:=hgf (i * 7+5)
  have hf6:=hgf (i * 7+6)
  obtain⟨X9,hX9⟩:∃x,((((((Z.setCell ⟨g,i * 7,none⟩ (.int .i64 sc)).setCell ⟨g,i * 7+1,none⟩ (.string stag)).setCell ⟨g,i * 7+2,none⟩ (.string sq)).setCell ⟨g,i * 7+3,none⟩ (.int .i64 51)).setCell ⟨g,i * 7+4,none⟩ (.int .i64 sst)).setCell ⟨g,i * 7+5,none⟩ (.slice ar sn cr)).setCell ⟨g,i * 7+6,none⟩ (.int .i64 scur)=x:=⟨_,rfl⟩
  have hfin:=fun x=>HF.out.fin HIP.out (by rw[HPL.out];omega) HSM9.out x
  have hfin9:∀x,SesssAt w.heap.size (X9.setCell ⟨w.heap.size+1,0,none⟩ x) (.slice (some ⟨g,0,none⟩) n cg) ((ps.map Prod.fst).set i ⟨sc,stag,sq,51,sst,srows,scur⟩)∧Below w.heap.size w (X9.setCell ⟨w.heap.size+1,0,none⟩ x)∧Box X9 (w.heap.size+1) 25 #[.slice none 0 0]∧Box X9 BO 25 #[.slice (some ⟨g,0,none⟩) n cg]:=by rw[←hX9];exact hfin
  have HF9:=hide hfin9
  have HX9:=hide hX9
  clear hgc hgf hX9 hfin hfin9
  go_upto_region 29 with fail
  (try rw[HX9.out])
  clear e0 e1 e2 e3 e4 e5 e6 eo hw0 hw1 hw2 hw3 hw4 hw5 hw6 hf0 hf1 hf2 hf3 hf4 hf5 hf6 hgl
  have r0:X9.cell? ⟨w.heap.size+1,0,none⟩=some (.slice none 0 0):=(HF9.out (.int .i64 0)).2.2.1.cell 0 (by simp)
  have rf:=(HF9.out (.int .i64 0)).2.2.1.frozen 0
  have rl:=(HF9.out (.int .i64 0)).2.2.1.lt
  have o0:X9.cell? ⟨BO,0,none⟩=some (.slice (some ⟨g,0,none⟩) n cg):=(HF9.out (.int .i64 0)).2.2.2.cell 0 (by simp)
  go_wp2_with fail
  exact bodyPost_ret (v:=.agg #[.slice (some ⟨g,0,none⟩) n cg]) (by simp[results,Tryz.results21,go_sem,r0,rl]) rfl ⟨_,rfl,by rw[HRTE.out];exact(HF9.out _).1,(HF9.out _).2.1⟩
 by_cases hk:a=5
 ·have q0:((a:Int) == 0)=false:=by simp;omega
  have q1:((a:Int) == 1)=false:=by simp;omega
  have q2:((a:Int) == 2)=false:=by simp;omega
  have q3:((a:Int) == 3)=false:=by simp;omega
  have q4:((a:Int) == 4)=false:=by simp;omega
  have q5:((a:Int) == 5)=true:=by simp;omega
  have q6:((a:Int) == 6)=false:=by simp;omega
  have q7:((a:Int) == 7)=false:=by simp;omega
  have q8:((a:Int) == 8)=false:=by simp;omega
  have HRTE:Hid (RT9=(ps.map Prod.fst).set i ⟨sc,stag,sq,sp,3,(srows++[⟨#[114]⟩]),scur⟩):=by
   show _=_
   rw[←HRT.out,HPS.out]
   unfold spoilT
   rw[if_neg (by rw[HN.out];exact HN0.out),if_neg (by omega),HXI.out]
   unfold spS
   simp[hk,rB]
  have HSM9:Hid (SmS ⟨sc,stag,sq,sp,3,(srows++[⟨#[114]⟩]),scur⟩):=⟨HSX9.out.1.1,HSX9.out.1.2.1,by show (srows++[(⟨#[114]⟩:ByteArray)]).length≤_;rw[List.length_append,HSN.out];simp;omega,fun r hr=>by
   rcases List.mem_append.1 (show r∈srows++[(⟨#[114]⟩:ByteArray)] from hr) with hr|hr
   ·exact HSX9.out.1.2.2.2 r hr
   ·rw[List.mem_singleton.1 hr];decide⟩
  have d4:V3.cell? ⟨BS,4,none⟩=some (.int .i64 sst):=HSP.out.ses.cell 4 (by simp)
  have f4:=HSP.out.ses.frozen 4
  have bl:=HSP.out.ses.lt
  obtain⟨Z1,hZ1⟩:∃z,V3.setCell ⟨BS,4,none⟩ (.int .i64 3)=z:=⟨_,rfl⟩
  have HS1:Hid (SPW True w (X0.heap.size+3) BO BS (.slice (some ⟨g,0,none⟩) n cg) ps i ⟨sc,stag,sq,sp,3,srows,scur⟩ (.slice ar sn cr) Z1):=by rw[←hZ1];exact HSP.out.set 4 (.int .i64 3) ⟨sc,stag,sq,sp,3,srows,scur⟩ rfl rfl
  have HZ1:=hide hZ1
  clear hZ1
  go_upto_region 20 with(rw[HZ1.out])
  (try rw[HZ1.out])
  clear d4 f4 bl
  obtain⟨a9,c9,w9,hr,hsp9,g4,g5,g6⟩:=HS1.out.more trivial ⟨#[114]⟩ HSN.out (by omega)
  have d5:Z1.cell? ⟨BS,5,none⟩=some (.slice ar sn cr):=HS1.out.ses.cell 5 (by simp)
  have bl1:=HS1.out.ses.lt
  obtain⟨Z,hZ⟩:∃z,w9.setCell ⟨BS,5,none⟩ (.slice a9 (sn+1) c9)=z:=⟨_,rfl⟩
  have HF:Hid (SPW True w (X0.heap.size+3) BO BS (.slice (some ⟨g,0,none⟩) n cg) ps i ⟨sc,stag,sq,sp,3,(srows++[⟨#[114]⟩]),scur⟩ (.slice a9 (sn+1) c9) Z):=by rw[←hZ];exact hsp9
  have HZ:=hide hZ
  clear hZ hk hsp9
  go_upto_region 28 with(first|rw[HZ.out]|(at_builtin;refine wpList_app rfl _ _ 26 rfl hr (by first|rfl|simp[Act.eval,Act.put]) (by first|rfl|simp[Act.eval,Act.put]) ?_))
  (try rw[HZ.out])
  clear d5 bl1 hr g4 g5 g6
  have e0:Z.cell? ⟨BS,0,none⟩=some (.int .i64 sc):=HF.out.ses.cell 0 (by simp)
  have e1:Z.cell? ⟨BS,1,none⟩=some (.string stag):=HF.out.ses.cell 1 (by simp)
  have e2:Z.cell? ⟨BS,2,none⟩=some (.string sq):=HF.out.ses.cell 2 (by simp)
  have e3:Z.cell? ⟨BS,3,none⟩=some (.int .i64 sp):=HF.out.ses.cell 3 (by simp)
  have e4:Z.cell? ⟨BS,4,none⟩=some (.int .i64 3):=HF.out.ses.cell 4 (by simp)
  have e5:Z.cell? ⟨BS,5,none⟩=some (.slice a9 (sn+1) c9):=HF.out.ses.cell 5 (by simp)
  have e6:Z.cell? ⟨BS,6,none⟩=some (.int .i64 scur):=HF.out.ses.cell 6 (by simp)
  have eo:Z.cell? ⟨BO,0,none⟩=some (.slice (some ⟨g,0,none⟩) n cg):=HF.out.out.cell 0 (by simp)
  obtain⟨hgl,hgc,hgf⟩:=row7 HF.out.row (by rw[HPL.out];omega) i HIP.out
  obtain⟨w0,hw0⟩:=hgc 0 (by omega)
  obtain⟨w1,hw1⟩:=hgc 1 (by omega)
  obtain⟨w2,hw2⟩:=hgc 2 (by omega)
  obtain⟨w3,hw3⟩:=hgc 3 (by omega)
  obtain⟨w4,hw4⟩:=hgc 4 (by omega)
  obtain⟨w5,hw5⟩:=hgc 5 (by omega)
  obtain⟨w6,hw6⟩:=hgc 6 (by omega)
  rw[Nat.add_zero] at hw0
  have hf0:=hgf (i * 7)
  have hf1:=hgf (i * 7+1)
  have hf2:=hgf (i * 7+2)
  have hf3:=hgf (i * 7+3)
  have hf4:=hgf (i * 7+4)
  have hf5:=hgf (i * 7+5)
  have hf6:=hgf (i * 7+6)
  obtain⟨X9,hX9⟩:∃x,((((((Z.setCell ⟨g,i * 7,none⟩ (.int .i64 sc)).setCell ⟨g,i * 7+1,none⟩ (.string stag)).setCell ⟨g,i * 7+2,none⟩ (.string sq)).setCell ⟨g,i * 7+3,none⟩ (.int .i64 sp)).setCell ⟨g,i * 7+4,none⟩ (.int .i64 3)).setCell ⟨g,i * 7+5,none⟩ (.slice a9 (sn+1) c9)).setCell ⟨g,i * 7+6,none⟩ (.int .i64 scur)=x:=⟨_,rfl⟩
  have hfin:=fun x=>HF.out.fin HIP.out (by rw[HPL.out];omega) HSM9.out x
  have hfin9:∀x,SesssAt w.heap.size (X9.setCell ⟨w.heap.size+1,0,none⟩ x) (.slice (some ⟨g,0,none⟩) n cg) ((ps.map Prod.fst).set i ⟨sc,stag,sq,sp,3,(srows++[⟨#[114]⟩]),scur⟩)∧Below w.heap.size w (X9.setCell ⟨w.heap.size+1,0,none⟩ x)∧Box X9 (w.heap.size+1) 25 #[.slice none 0 0]∧Box X9 BO 25 #[.slice (some ⟨g,0,none⟩) n cg]:=by rw[←hX9];exact hfin
  have HF9:=hide hfin9
  have HX9:=hide hX9
  clear hgc hgf hX9 hfin hfin9
  go_upto_region 29 with fail
  (try rw[HX9.out])
  clear e0 e1 e2 e3 e4 e5 e6 eo hw0 hw1 hw2 hw3 hw4 hw5 hw6 hf0 hf1 hf2 hf3 hf4 hf5 hf6 hgl
  have r0:X9.cell? ⟨w.heap.size+1,0,none⟩=some (.slice none 0 0):=(HF9.out (.int .i64 0)).2.2.1.cell 0 (by simp)
  have rf:=(HF9.out (.int .i64 0)).2.2.1.frozen 0
  have rl:=(HF9.out (.int .i64 0)).2.2.1.lt
  have o0:X9.cell? ⟨BO,0,none⟩=some (.slice (some ⟨g,0,none⟩) n cg):=(HF9.out (.int .i64 0)).2.2.2.cell 0 (by simp)
  go_wp2_with fail
  exact bodyPost_ret (v:=.agg #[.slice (some ⟨g,0,none⟩) n cg]) (by simp[results,Tryz.results21,go_sem,r0,rl]) rfl ⟨_,rfl,by rw[HRTE.out];exact(HF9.out _).1,(HF9.out _).2.1⟩
 by_cases hk:a=7
 ·have q0:((a:Int) == 0)=false:=by simp;omega
  have q1:((a:Int) == 1)=false:=by simp;omega
  have q2:((a:Int) == 2)=false:=by simp;omega
  have q3:((a:Int) == 3)=false:=by simp;omega
  have q4:((a:Int) == 4)=false:=by simp;omega
  have q5:((a:Int) == 5)=false:=by simp;omega
  have q6:((a:Int) == 6)=false:=by simp;omega
  have q7:((a:Int) == 7)=true:=by simp;omega
  have q8:((a:Int) == 8)=false:=by simp;omega
  have HRTE:Hid (RT9=(ps.map Prod.fst).set i ⟨sc,stag,sq,sp,sst,(srows++[⟨#[97,10,98]⟩]),scur⟩):=by
   show _=_
   rw[←HRT.out,HPS.out]
   unfold spoilT
   rw[if_neg (by rw[HN.out];exact HN0.out),if_neg (by omega),HXI.out]
   unfold spS
   simp[hk,rB]
  have HSM9:Hid (SmS ⟨sc,stag,sq,sp,sst,(srows++[⟨#[97,10,98]⟩]),scur⟩):=⟨HSX9.out.1.1,HSX9.out.1.2.1,by show (srows++[(⟨#[97,10,98]⟩:ByteArray)]).length≤_;rw[List.length_append,HSN.out];simp;omega,fun r hr=>by
   rcases List.mem_append.1 (show r∈srows++[(⟨#[97,10,98]⟩:ByteArray)] from hr) with hr|hr
   ·exact HSX9.out.1.2.2.2 r hr
   ·rw[List.mem_singleton.1 hr];decide⟩
  obtain⟨Z1,hZ1⟩:∃z,V3=z:=⟨_,rfl⟩
  have HS1:=HSP
  rw[hZ1] at HS1
  rw[hZ1]
  clear hZ1
  obtain⟨a9,c9,w9,hr,hsp9,g4,g5,g6⟩:=HS1.out.more trivial ⟨#[97,10,98]⟩ HSN.out (by omega)
  have d5:Z1.cell? ⟨BS,5,none⟩=some (.slice ar sn cr):=HS1.out.ses.cell 5 (by simp)
  have bl1:=HS1.out.ses.lt
  obtain⟨Z,hZ⟩:∃z,w9.setCell ⟨BS,5,none⟩ (.slice a9 (sn+1) c9)=z:=⟨_,rfl⟩
  have HF:Hid (SPW True w (X0.heap.size+3) BO BS (.slice (some ⟨g,0,none⟩) n cg) ps i ⟨sc,stag,sq,sp,sst,(srows++[⟨#[97,10,98]⟩]),scur⟩ (.slice a9 (sn+1) c9) Z):=by rw[←hZ];exact hsp9
  have HZ:=hide hZ
  clear hZ hk hsp9
  go_upto_region 28 with(first|rw[HZ.out]|(at_builtin;refine wpList_app rfl _ _ 26 rfl hr (by first|rfl|simp[Act.eval,Act.put]) (by first|rfl|simp[Act.eval,Act.put]) ?_))
  (try rw[HZ.out])
  clear d5 bl1 hr g4 g5 g6
  have e0:Z.cell? ⟨BS,0,none⟩=some (.int .i64 sc):=HF.out.ses.cell 0 (by simp)
  have e1:Z.cell? ⟨BS,1,none⟩=some (.string stag):=HF.out.ses.cell 1 (by simp)
  have e2:Z.cell? ⟨BS,2,none⟩=some (.string sq):=HF.out.ses.cell 2 (by simp)
  have e3:Z.cell? ⟨BS,3,none⟩=some (.int .i64 sp):=HF.out.ses.cell 3 (by simp)
  have e4:Z.cell? ⟨BS,4,none⟩=some (.int .i64 sst):=HF.out.ses.cell 4 (by simp)
  have e5:Z.cell? ⟨BS,5,none⟩=some (.slice a9 (sn+1) c9):=HF.out.ses.cell 5 (by simp)
  have e6:Z.cell? ⟨BS,6,none⟩=some (.int .i64 scur):=HF.out.ses.cell 6 (by simp)
  have eo:Z.cell? ⟨BO,0,none⟩=some (.slice (some ⟨g,0,none⟩) n cg):=HF.out.out.cell 0 (by simp)
  obtain⟨hgl,hgc,hgf⟩:=row7 HF.out.row (by rw[HPL.out];omega) i HIP.out
  obtain⟨w0,hw0⟩:=hgc 0 (by omega)
  obtain⟨w1,hw1⟩:=hgc 1 (by omega)
  obtain⟨w2,hw2⟩:=hgc 2 (by omega)
  obtain⟨w3,hw3⟩:=hgc 3 (by omega)
  obtain⟨w4,hw4⟩:=hgc 4 (by omega)
  obtain⟨w5,hw5⟩:=hgc 5 (by omega)
  obtain⟨w6,hw6⟩:=hgc 6 (by omega)
  rw[Nat.add_zero] at hw0
  have hf0:=hgf (i * 7)
  have hf1:=hgf (i * 7+1)
  have hf2:=hgf (i * 7+2)
  have hf3:=hgf (i * 7+3)
  have hf4:=hgf (i * 7+4)
  have hf5:=hgf (i * 7+5)
  have hf6:=hgf (i * 7+6)
  obtain⟨X9,hX9⟩:∃x,((((((Z.setCell ⟨g,i * 7,none⟩ (.int .i64 sc)).setCell ⟨g,i * 7+1,none⟩ (.string stag)).setCell ⟨g,i * 7+2,none⟩ (.string sq)).setCell ⟨g,i * 7+3,none⟩ (.int .i64 sp)).setCell ⟨g,i * 7+4,none⟩ (.int .i64 sst)).setCell ⟨g,i * 7+5,none⟩ (.slice a9 (sn+1) c9)).setCell ⟨g,i * 7+6,none⟩ (.int .i64 scur)=x:=⟨_,rfl⟩
  have hfin:=fun x=>HF.out.fin HIP.out (by rw[HPL.out];omega) HSM9.out x
  have hfin9:∀x,SesssAt w.heap.size (X9.setCell ⟨w.heap.size+1,0,none⟩ x) (.slice (some ⟨g,0,none⟩) n cg) ((ps.map Prod.fst).set i ⟨sc,stag,sq,sp,sst,(srows++[⟨#[97,10,98]⟩]),scur⟩)∧Below w.heap.size w (X9.setCell ⟨w.heap.size+1,0,none⟩ x)∧Box X9 (w.heap.size+1) 25 #[.slice none 0 0]∧Box X9 BO 25 #[.slice (some ⟨g,0,none⟩) n cg]:=by rw[←hX9];exact hfin
  have HF9:=hide hfin9
  have HX9:=hide hX9
  clear hgc hgf hX9 hfin hfin9
  go_upto_region 29 with fail
  (try rw[HX9.out])
  clear e0 e1 e2 e3 e4 e5 e6 eo hw0 hw1 hw2 hw3 hw4 hw5 hw6 hf0 hf1 hf2 hf3 hf4 hf5 hf6 hgl
  have r0:X9.cell? ⟨w.heap.size+1,0,none⟩=some (.slice none 0 0):=(HF9.out (.int .i64 0)).2.2.1.cell 0 (by simp)
  have rf:=(HF9.out (.int .i64 0)).2.2.1.frozen 0
  have rl:=(HF9.out (.int .i64 0)).2.2.1.lt
  have o0:X9.cell? ⟨BO,0,none⟩=some (.slice (some ⟨g,0,none⟩) n cg):=(HF9.out (.int .i64 0)).2.2.2.cell 0 (by simp)
  go_wp2_with fail
  exact bodyPost_ret (v:=.agg #[.slice (some ⟨g,0,none⟩) n cg]) (by simp[results,Tryz.results21,go_sem,r0,rl]) rfl ⟨_,rfl,by rw[HRTE.out];exact(HF9.out _).1,(HF9.out _).2.1⟩
 by_cases hk:a=6
 ·have q0:((a:Int) == 0)=false:=by simp;omega
  have q1:((a:Int) == 1)=false:=by simp;omega
  have q2:((a:Int) == 2)=false:=by simp;omega
  have q3:((a:Int) == 3)=false:=by simp;omega
  have q4:((a:Int) == 4)=false:=by simp;omega
  have q5:((a:Int) == 5)=false:=by simp;omega
  have q6:((a:Int) == 6)=true:=by simp;omega
  have q7:((a:Int) == 7)=false:=by simp;omega
  have q8:((a:Int) == 8)=false:=by simp;omega
  have HIPL:Hid ((ps++[((⟨sc,stag,sq,sp,sst,srows,scur⟩:Sess),Value.slice ar sn cr)]).length=n+1):=by show _=_;rw[List.length_append,HPL.out];rfl
  have HIP6:Hid (i<(ps++[((⟨sc,stag,sq,sp,sst,srows,scur⟩:Sess),Value.slice ar sn cr)]).length):=by show _<_;rw[HIPL.out];omega
  have HRTE:Hid (RT9=((ps++[((⟨sc,stag,sq,sp,sst,srows,scur⟩:Sess),Value.slice ar sn cr)]).map Prod.fst).set i ⟨sc,stag,sq,sp,sst,srows,scur⟩):=by
   show _=_
   rw[←HRT.out,List.map_append,HPS.out]
   unfold spoilT
   rw[if_neg (by rw[HN.out];exact HN0.out),if_pos hk,HXI.out]
   unfold spS
   simp[hk]
  have HSM9:Hid (SmS ⟨sc,stag,sq,sp,sst,srows,scur⟩):=HSX9.out.1
  obtain⟨a9,c9,w9,hr,hF9,ho9,hv9⟩:=row_more (C:=tsC) (c:=7) (bytes:=88) (e:=41) Tryz.underlying23 info_Sess rfl (by decide) HSP.out.row ((⟨sc,stag,sq,sp,sst,srows,scur⟩:Sess),Value.slice ar sn cr) rfl (fun z hz=>by
   have hz':z=.int .i64 sc∨z=.string stag∨z=.string sq∨z=.int .i64 sp∨z=.int .i64 sst∨z=.slice ar sn cr∨z=.int .i64 scur:=by simpa [tsC] using hz
   rcases hz' with rfl|rfl|rfl|rfl|rfl|rfl|rfl <;> rfl) (by have:=HSP.out.hi;have:=HSP.out.ses.lt;omega) HPL.out (by omega) (by decide)
  have hr9:(Builtin.append_ #[23,23] 23 #[.slice (some ⟨g,0,none⟩) n cg,.slice (some ⟨V3.heap.size,0,none⟩) 1 1]).run Tryz.prog (V3.alloc (.cells #[.int .i64 sc,.string stag,.string sq,.int .i64 sp,.int .i64 sst,.slice ar sn cr,.int .i64 scur] 41))=.ok (.slice a9 (n+1) c9) w9:=hr
  have keyS:∀(q:Value) (ys:List ByteArray),FB tC 1 9 (X0.heap.size+3) V3 q ys→FB tC 1 9 (X0.heap.size+3) w9 q ys:=fun q ys hq=>hq.only ho9 fun b hb' hm=>by
   obtain⟨c1,e1⟩:=hq.blk (b:=b) (by simpa using hb')
   obtain⟨c2,e2⟩:=HSP.out.row.blk (b:=b) (by simpa using hm)
   rw[e1] at e2
   injection e2 with e2
   injection e2 with _ e2 _
   exact absurd e2 (by decide)
  have hlo:=HSP.out.lo
  have nR:w.heap.size+1 ∉ (Value.slice (some ⟨g,0,none⟩) n cg).ownBlock.toList:=fun hm=>by have:=(HSP.out.row.own _ hm).1;omega
  have nO:BO ∉ (Value.slice (some ⟨g,0,none⟩) n cg).ownBlock.toList:=fun hm=>by
   obtain⟨c1,e1⟩:=HSP.out.row.blk (b:=BO) (by simpa using hm)
   exact blk_ne HSP.out.out e1 (by decide) rfl
  have nS:BS ∉ (Value.slice (some ⟨g,0,none⟩) n cg).ownBlock.toList:=fun hm=>HSP.out.nb (by simpa using hm)
  have hO9:=HSP.out.out.only ho9 nO
  have hS9:=HSP.out.ses.only ho9 nS
  have hR9:=HSP.out.res.only ho9 nR
  have hb9:Below w.heap.size w w9:=HSP.out.bel.trans (ho9.below HSP.out.bel.size fun d hd=>by have:=(HSP.out.row.own d hd).1;omega)
  obtain⟨g9,eg9⟩:∃g9,a9=some ⟨g9,0,none⟩:=by
   obtain⟨h0,hA⟩:=FB.at (C:=tsC) (c:=7) (Z:=fun _=>True) tsC_len hF9 (by rw[HIPL.out];omega) (fun _ _=>trivial)
   rcases hA with⟨a,cap,e,e2⟩|⟨b,off,cap,e,_⟩
   ·exact absurd e2 (by simp)
   ·injection e with e1 _ _
    subst e1
    have:=hF9.off0
    subst this
    exact⟨b,rfl⟩
  subst eg9
  obtain⟨Z,hZ⟩:∃z,w9.setCell ⟨BO,0,none⟩ (.slice (some ⟨g9,0,none⟩) (n+1) c9)=z:=⟨_,rfl⟩
  have hset:∀d,d≠BO→Z.heap[d]?=w9.heap[d]?:=fun d hd=>by rw[←hZ];exact Deep.blk_setCell_other _ ⟨BO,0,none⟩ _ d (by dsimp only;exact hd)
  have hBSO:BS≠BO:=fun e=>blk_ne HSP.out.out HSP.out.ses (by decide) e.symm
  have kO:∀(q:Value) (ys:List ByteArray),FB tC 1 9 (X0.heap.size+3) w9 q ys→FB tC 1 9 (X0.heap.size+3) Z q ys:=fun q ys hq=>hq.keep fun b hb'=>hset b fun e=>hq.strNe hO9 (by decide) (by rw[←e];simpa using hb')
  have HF:Hid (SPW False w (X0.heap.size+3) BO BS (.slice (some ⟨g9,0,none⟩) (n+1) c9) (ps++[((⟨sc,stag,sq,sp,sst,srows,scur⟩:Sess),Value.slice ar sn cr)]) i ⟨sc,stag,sq,sp,sst,srows,scur⟩ (.slice ar sn cr) Z):=by
   refine⟨hR9.keep (hset _ fun e=>?_),by rw[←hZ];have:=hO9.set 0 (.slice (some ⟨g9,0,none⟩) (n+1) c9);simpa using this,hS9.keep (hset _ hBSO),hF9.keep fun b hb'=>hset b fun e=>?_,fun j hj hne=>?_,kO _ _ (keyS _ _ HSP.out.rows),False.elim,fun e=>?_,by rw[←hZ];exact hb9.setCell (p:=⟨BO,0,none⟩) (by show w.heap.size≤BO;exact HBOW.out) _,hlo,HSP.out.hi⟩
   ·exact HBOR.out e
   ·obtain⟨c1,e1⟩:=hF9.blk (b:=b) (by simpa using hb')
    rw[e] at e1
    exact blk_ne hO9 e1 (by decide) rfl
   ·by_cases hjn:j<ps.length
    ·rw[List.getElem_append_left hjn]
     exact⟨(HSP.out.oth j hjn hne).1,kO _ _ (keyS _ _ (HSP.out.oth j hjn hne).2)⟩
    ·have hje:j=ps.length:=by rw[List.length_append] at hj;simp at hj;omega
     subst hje
     rw[List.getElem_append_right (leR _)]
     simp only[Nat.sub_self,List.getElem_cons_zero]
     exact⟨HSX9.out.1,kO _ _ (keyS _ _ HSP.out.rows)⟩
   ·rcases hv9 BS e with h|h
    ·exact HSP.out.nb h
    ·have:=HSP.out.ses.lt;omega
  have HZ:=hide hZ
  have d0:V3.cell? ⟨BS,0,none⟩=some (.int .i64 sc):=HSP.out.ses.cell 0 (by simp)
  have d1:V3.cell? ⟨BS,1,none⟩=some (.string stag):=HSP.out.ses.cell 1 (by simp)
  have d2:V3.cell? ⟨BS,2,none⟩=some (.string sq):=HSP.out.ses.cell 2 (by simp)
  have d3:V3.cell? ⟨BS,3,none⟩=some (.int .i64 sp):=HSP.out.ses.cell 3 (by simp)
  have d4:V3.cell? ⟨BS,4,none⟩=some (.int .i64 sst):=HSP.out.ses.cell 4 (by simp)
  have d5:V3.cell? ⟨BS,5,none⟩=some (.slice ar sn cr):=HSP.out.ses.cell 5 (by simp)
  have d6:V3.cell? ⟨BS,6,none⟩=some (.int .i64 scur):=HSP.out.ses.cell 6 (by simp)
  have do0:V3.cell? ⟨BO,0,none⟩=some (.slice (some ⟨g,0,none⟩) n cg):=HSP.out.out.cell 0 (by simp)
  have o9:w9.cell? ⟨BO,0,none⟩=some (.slice (some ⟨g,0,none⟩) n cg):=hO9.cell 0 (by simp)
  have of9:=hO9.frozen 0
  have ol9:=hO9.lt
  clear hr hF9 ho9 hv9 keyS nR nO nS hO9 hS9 hR9 hb9 hset hBSO kO hZ hk
  go_upto_region 28 with(first|rw[HZ.out]|(at_builtin;refine wpList_app rfl _ _ 23 rfl hr9 (by first|rfl|simp[Act.eval,Act.put]) (by first|rfl|simp[Act.eval,Act.put]) ?_))
  (try rw[HZ.out])
  clear d0 d1 d2 d3 d4 d5 d6 do0 o9 of9 ol9 hr9
  have hii6:(i:Int)<(n:Int)+1:=by omega
  have e0:Z.cell? ⟨BS,0,none⟩=some (.int .i64 sc):=HF.out.ses.cell 0 (by simp)
  have e1:Z.cell? ⟨BS,1,none⟩=some (.string stag):=HF.out.ses.cell 1 (by simp)
  have e2:Z.cell? ⟨BS,2,none⟩=some (.string sq):=HF.out.ses.cell 2 (by simp)
  have e3:Z.cell? ⟨BS,3,none⟩=some (.int .i64 sp):=HF.out.ses.cell 3 (by simp)
  have e4:Z.cell? ⟨BS,4,none⟩=some (.int .i64 sst):=HF.out.ses.cell 4 (by simp)
  have e5:Z.cell? ⟨BS,5,none⟩=some (.slice ar sn cr):=HF.out.ses.cell 5 (by simp)
  have e6:Z.cell? ⟨BS,6,none⟩=some (.int .i64 scur):=HF.out.ses.cell 6 (by simp)
  have eo:Z.cell? ⟨BO,0,none⟩=some (.slice (some ⟨g9,0,none⟩) (n+1) c9):=HF.out.out.cell 0 (by simp)
  obtain⟨hgl,hgc,hgf⟩:=row7 HF.out.row (by rw[HIPL.out];omega) i HIP6.out
  obtain⟨w0,hw0⟩:=hgc 0 (by omega)
  obtain⟨w1,hw1⟩:=hgc 1 (by omega)
  obtain⟨w2,hw2⟩:=hgc 2 (by omega)
  obtain⟨w3,hw3⟩:=hgc 3 (by omega)
  obtain⟨w4,hw4⟩:=hgc 4 (by omega)
  obtain⟨w5,hw5⟩:=hgc 5 (by omega)
  obtain⟨w6,hw6⟩:=hgc 6 (by omega)
  rw[Nat.add_zero] at hw0
  have hf0:=hgf (i * 7)
  have hf1:=hgf (i * 7+1)
  have hf2:=hgf (i * 7+2)
  have hf3:=hgf (i * 7+3)
  have hf4:=hgf (i * 7+4)
  have hf5:=hgf (i * 7+5)
  have hf6:=hgf (i * 7+6)
  obtain⟨X9,hX9⟩:∃x,((((((Z.setCell ⟨g9,i * 7,none⟩ (.int .i64 sc)).setCell ⟨g9,i * 7+1,none⟩ (.string stag)).setCell ⟨g9,i * 7+2,none⟩ (.string sq)).setCell ⟨g9,i * 7+3,none⟩ (.int .i64 sp)).setCell ⟨g9,i * 7+4,none⟩ (.int .i64 sst)).setCell ⟨g9,i * 7+5,none⟩ (.slice ar sn cr)).setCell ⟨g9,i * 7+6,none⟩ (.int .i64 scur)=x:=⟨_,rfl⟩
  have hfin:=fun x=>HF.out.fin HIP6.out (by rw[HIPL.out];omega) HSM9.out x
  have hfin9:∀x,SesssAt w.heap.size (X9.setCell ⟨w.heap.size+1,0,none⟩ x) (.slice (some ⟨g9,0,none⟩) (n+1) c9) (((ps++[((⟨sc,stag,sq,sp,sst,srows,scur⟩:Sess),Value.slice ar sn cr)]).map Prod.fst).set i ⟨sc,stag,sq,sp,sst,srows,scur⟩)∧Below w.heap.size w (X9.setCell ⟨w.heap.size+1,0,none⟩ x)∧Box X9 (w.heap.size+1) 25 #[.slice none 0 0]∧Box X9 BO 25 #[.slice (some ⟨g9,0,none⟩) (n+1) c9]:=by rw[←hX9];exact hfin
  have HF9:=hide hfin9
  have HX9:=hide hX9
  clear hgc hgf hX9 hfin hfin9
  go_upto_region 29 with fail
  (try rw[HX9.out])
  clear e0 e1 e2 e3 e4 e5 e6 eo hw0 hw1 hw2 hw3 hw4 hw5 hw6 hf0 hf1 hf2 hf3 hf4 hf5 hf6 hgl
  have r0:X9.cell? ⟨w.heap.size+1,0,none⟩=some (.slice none 0 0):=(HF9.out (.int .i64 0)).2.2.1.cell 0 (by simp)
  have rf:=(HF9.out (.int .i64 0)).2.2.1.frozen 0
  have rl:=(HF9.out (.int .i64 0)).2.2.1.lt
  have o0:X9.cell? ⟨BO,0,none⟩=some (.slice (some ⟨g9,0,none⟩) (n+1) c9):=(HF9.out (.int .i64 0)).2.2.2.cell 0 (by simp)
  go_wp2_with fail
  exact bodyPost_ret (v:=.agg #[.slice (some ⟨g9,0,none⟩) (n+1) c9]) (by simp[results,Tryz.results21,go_sem,r0,rl]) rfl ⟨_,rfl,by rw[HRTE.out];exact(HF9.out _).1,(HF9.out _).2.1⟩
 have hk:a=8:=by omega
 have q0:((a:Int) == 0)=false:=by simp;omega
 have q1:((a:Int) == 1)=false:=by simp;omega
 have q2:((a:Int) == 2)=false:=by simp;omega
 have q3:((a:Int) == 3)=false:=by simp;omega
 have q4:((a:Int) == 4)=false:=by simp;omega
 have q5:((a:Int) == 5)=false:=by simp;omega
 have q6:((a:Int) == 6)=false:=by simp;omega
 have q7:((a:Int) == 7)=false:=by simp;omega
 have q8:((a:Int) == 8)=true:=by simp;omega
 have HRTE:Hid (RT9=(ps.map Prod.fst).set i ⟨sc,stag,sq,sp,sst,(srows++List.replicate (201 - sn) (⟨#[114]⟩:ByteArray)),scur⟩):=by
  show _=_
  rw[←HRT.out,HPS.out]
  unfold spoilT
  rw[if_neg (by rw[HN.out];exact HN0.out),if_neg (by omega),HXI.out]
  unfold spS
  simp[hk,rB,HSN.out]
 have HSM9:Hid (SmS ⟨sc,stag,sq,sp,sst,(srows++List.replicate (201 - sn) (⟨#[114]⟩:ByteArray)),scur⟩):=⟨HSX9.out.1.1,HSX9.out.1.2.1,by show (srows++List.replicate (201 - sn) (⟨#[114]⟩:ByteArray)).length≤_;rw[List.length_append,HSN.out,List.length_replicate];omega,fun r hr=>by
  rcases List.mem_append.1 (show r∈srows++List.replicate (201 - sn) (⟨#[114]⟩:ByteArray) from hr) with hr|hr
  ·exact HSX9.out.1.2.2.2 r hr
  ·rw[List.eq_of_mem_replicate hr];decide⟩
 have HST:Hid (SPW True w (X0.heap.size+3) BO BS (.slice (some ⟨g,0,none⟩) n cg) ps i ⟨sc,stag,sq,sp,sst,srows++List.replicate (sn - sn) (⟨#[114]⟩:ByteArray),scur⟩ (.slice ar sn cr) V3):=by
  rw[Nat.sub_self,List.replicate_zero,List.append_nil]
  exact HSP.out
 clear hk
 go_wp2_with fail
 go_loopg [85] (201 - sn) (fun z s wr=>∃(k:Nat) (av:Option Addr) (cv:Nat),sn≤k∧k≤201∧z=201 - k∧SPW True w (X0.heap.size+3) BO BS (.slice (some ⟨g,0,none⟩) n cg) ps i ⟨sc,stag,sq,sp,sst,srows++List.replicate (k - sn) (⟨#[114]⟩:ByteArray),scur⟩ (.slice av k cv) wr)
 case atStart=>exact⟨sn,ar,cr,leR _,by omega,rfl,HST.out⟩
 case round =>
  clear HST HSP
  obtain⟨k,av,cv,hk1,hk2,rfl,hsp⟩:=hrel
  obtain⟨Y,rfl⟩:∃x,x=wr:=⟨_,rfl⟩
  have HSK:=hide hsp
  clear hsp
  have d5:Y.cell? ⟨BS,5,none⟩=some (.slice av k cv):=HSK.out.ses.cell 5 (by simp)
  have bl1:=HSK.out.ses.lt
  by_cases hlt:k<201
  ·have hki:(k:Int)≤200:=by omega
   obtain⟨a9,c9,w9,hr,hsp9,g4,g5,g6⟩:=HSK.out.more trivial (⟨#[114]⟩:ByteArray) (n:=k) (by show (srows++List.replicate (k - sn) (⟨#[114]⟩:ByteArray)).length=k;rw[List.length_append,HSN.out,List.length_replicate];omega) (by omega)
   have HFF:Hid (SPW True w (X0.heap.size+3) BO BS (.slice (some ⟨g,0,none⟩) n cg) ps i ⟨sc,stag,sq,sp,sst,srows++List.replicate ((k+1) - sn) (⟨#[114]⟩:ByteArray),scur⟩ (.slice a9 (k+1) c9) (w9.setCell ⟨BS,5,none⟩ (.slice a9 (k+1) c9))):=by
    have e:k+1 - sn=k - sn+1:=by omega
    rw[e,List.replicate_succ',←List.append_assoc]
    exact hsp9
   clear hsp9
   go_wp2_with (first|(at_builtin;refine wpList_app rfl _ _ 26 rfl hr (by first|rfl|simp[Act.eval,Act.put]) (by first|rfl|simp[Act.eval,Act.put]) ?_))
   go_roundg (201 - (k+1))
   case measure=>omega
   case rel=>exact⟨k+1,a9,c9,by omega,by omega,rfl,HFF.out⟩
  ·obtain rfl:k=201:=by omega
   have hki:¬((201:Nat):Int)≤200:=by omega
   obtain⟨Z,rfl⟩:∃z,z=Y:=⟨_,rfl⟩
   have HF:=HSK
   go_upto_region 28 with fail
   clear d5 bl1
   have e0:Z.cell? ⟨BS,0,none⟩=some (.int .i64 sc):=HF.out.ses.cell 0 (by simp)
   have e1:Z.cell? ⟨BS,1,none⟩=some (.string stag):=HF.out.ses.cell 1 (by simp)
   have e2:Z.cell? ⟨BS,2,none⟩=some (.string sq):=HF.out.ses.cell 2 (by simp)
   have e3:Z.cell? ⟨BS,3,none⟩=some (.int .i64 sp):=HF.out.ses.cell 3 (by simp)
   have e4:Z.cell? ⟨BS,4,none⟩=some (.int .i64 sst):=HF.out.ses.cell 4 (by simp)
   have e5:Z.cell? ⟨BS,5,none⟩=some (.slice av 201 cv):=HF.out.ses.cell 5 (by simp)
   have e6:Z.cell? ⟨BS,6,none⟩=some (.int .i64 scur):=HF.out.ses.cell 6 (by simp)
   have eo:Z.cell? ⟨BO,0,none⟩=some (.slice (some ⟨g,0,none⟩) n cg):=HF.out.out.cell 0 (by simp)
   obtain⟨hgl,hgc,hgf⟩:=row7 HF.out.row (by rw[HPL.out];omega) i HIP.out
   obtain⟨w0,hw0⟩:=hgc 0 (by omega)
   obtain⟨w1,hw1⟩:=hgc 1 (by omega)
   obtain⟨w2,hw2⟩:=hgc 2 (by omega)
   obtain⟨w3,hw3⟩:=hgc 3 (by omega)
   obtain⟨w4,hw4⟩:=hgc 4 (by omega)
   obtain⟨w5,hw5⟩:=hgc 5 (by omega)
   obtain⟨w6,hw6⟩:=hgc 6 (by omega)
   rw[Nat.add_zero] at hw0
   have hf0:=hgf (i * 7)
   have hf1:=hgf (i * 7+1)
   have hf2:=hgf (i * 7+2)
   have hf3:=hgf (i * 7+3)
   have hf4:=hgf (i * 7+4)
   have hf5:=hgf (i * 7+5)
   have hf6:=hgf (i * 7+6)
   obtain⟨X9,hX9⟩:∃x,((((((Z.setCell ⟨g,i * 7,none⟩ (.int .i64 sc)).setCell ⟨g,i * 7+1,none⟩ (.string stag)).setCell ⟨g,i * 7+2,none⟩ (.string sq)).setCell ⟨g,i * 7+3,none⟩ (.int .i64 sp)).setCell ⟨g,i * 7+4,none⟩ (.int .i64 sst)).setCell ⟨g,i * 7+5,none⟩ (.slice av 201 cv)).setCell ⟨g,i * 7+6,none⟩ (.int .i64 scur)=x:=⟨_,rfl⟩
   have hfin:=fun x=>HF.out.fin HIP.out (by rw[HPL.out];omega) HSM9.out x
   have hfin9:∀x,SesssAt w.heap.size (X9.setCell ⟨w.heap.size+1,0,none⟩ x) (.slice (some ⟨g,0,none⟩) n cg) ((ps.map Prod.fst).set i ⟨sc,stag,sq,sp,sst,(srows++List.replicate (201 - sn) (⟨#[114]⟩:ByteArray)),scur⟩)∧Below w.heap.size w (X9.setCell ⟨w.heap.size+1,0,none⟩ x)∧Box X9 (w.heap.size+1) 25 #[.slice none 0 0]∧Box X9 BO 25 #[.slice (some ⟨g,0,none⟩) n cg]:=by rw[←hX9];exact hfin
   have HF9:=hide hfin9
   have HX9:=hide hX9
   clear hgc hgf hX9 hfin hfin9
   go_upto_region 29 with fail
   (try rw[HX9.out])
   clear e0 e1 e2 e3 e4 e5 e6 eo hw0 hw1 hw2 hw3 hw4 hw5 hw6 hf0 hf1 hf2 hf3 hf4 hf5 hf6 hgl
   have r0:X9.cell? ⟨w.heap.size+1,0,none⟩=some (.slice none 0 0):=(HF9.out (.int .i64 0)).2.2.1.cell 0 (by simp)
   have rf:=(HF9.out (.int .i64 0)).2.2.1.frozen 0
   have rl:=(HF9.out (.int .i64 0)).2.2.1.lt
   have o0:X9.cell? ⟨BO,0,none⟩=some (.slice (some ⟨g,0,none⟩) n cg):=(HF9.out (.int .i64 0)).2.2.2.cell 0 (by simp)
   go_wp2_with fail
   exact bodyPost_ret (v:=.agg #[.slice (some ⟨g,0,none⟩) n cg]) (by simp[results,Tryz.results21,go_sem,r0,rl]) rfl ⟨_,rfl,by rw[HRTE.out];exact(HF9.out _).1,(HF9.out _).2.1⟩
end Go.Proofs.YtglcdcekkglmiaaGreatDoor.Msg
