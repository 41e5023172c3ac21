import Derived.Test.YtglcdcekkglmiaaGreatDoorG36
namespace Go.Proofs.YtglcdcekkglmiaaGreatDoor.Msg
open Go.ChangeShapes Go.WideShapes Go.ChangeAt Go.RowKit Go.Shelf
set_option linter.unusedVariables false
set_option linter.unusedSimpArgs false
attribute [local go_sem] Oper.semAt_some
set_option maxRecDepth 100000 in
set_option maxHeartbeats 16000000 in
theorem recovI_any (img:ByteArray) (w:World) (hI:img.size≤1048576) (hE:Env w) (hM:Mx w) :
  Calls Tryz.prog 14 #[.string img] w (RcPost w img):=by
 refine(callsIn_wide (n:=6)).1 ?_
 obtain⟨x1,hx1⟩:∃x,w.alloc (Obj.cells #[.slice none 0 0] 25)=x:=⟨_,rfl⟩
 have HR1:Hid (Box x1 w.heap.size 25 #[.slice none 0 0]):=by rw[←hx1];exact Box.new _ _ _
 have HB1:Hid (Below w.heap.size w x1):=by rw[←hx1];exact alcB _ _
 have HS1:Hid (x1.heap.size=w.heap.size+1):=by show _=_;rw[←hx1];simp
 have HE:Hid (∀X,Below x1.heap.size x1 X→Env X∧Mx X):=fun X hX=>⟨hE.kept (bjoin hX HB1.out),hM.kept (bjoin hX HB1.out)⟩
 have HBO:=hide (bookOf_any [] (.slice none 0 0) x1 (lo:=0) ⟨by simp,.inl ⟨_,_,rfl,rfl⟩⟩)
 have HX1:=hide hx1
 clear hx1 hE hM
 refine callsIn_of_wp_marks Tryz.func14 rfl trivial ?_ rfl
 simp only[Tryz.ntmps14,List.size_toArray,List.length_cons,List.length_nil,Nat.reduceAdd,Nat.reduceSub,Array.replicate_succ,Array.replicate_zero,List.push_toArray,List.append_toArray,List.nil_append,List.cons_append]
 gi_wp2_with fail
 (try rw[HX1.out])
 refine⟨trivial,?_⟩
 refine(callsIn_wide.2 HBO.out).mono ?_
 rintro e W1 ⟨hpo,hb1⟩
 rw[if_pos tblB_nil] at hpo
 obtain⟨K,M,ov0,nm0,ps0,bs0,rfl,hbk0,hps0,hn0⟩:=hpo
 obtain⟨X2,hX2⟩:∃x,W1.alloc (Obj.cells #[.pointer (some ⟨K,0,none⟩)] 57)=x:=⟨_,rfl⟩
 have hb2:Below W1.heap.size W1 X2:=by rw[←hX2];exact alcB _ _
 have hs2:X2.heap.size=W1.heap.size+1:=by rw[←hX2];simp
 have hp2:Box X2 W1.heap.size 57 #[.pointer (some ⟨K,0,none⟩)]:=by rw[←hX2];exact Box.new _ _ _
 have HX2:=hide hX2
 have HHB2:=hide hb2
 have HHS2:=hide hs2
 have HHP2:=hide hp2
 have HHBK:=hide hbk0
 have HHPS:=hide hps0
 have HHN:=hide hn0
 have HHB1:=hide hb1
 clear hX2 hb2 hs2 hp2 hbk0 hps0 hn0 hb1
 gi_wp2_with fail
 (try rw[HX2.out])
 refine⟨trivial,?_⟩
 refine(records_in img _ _).mono ?_
 rintro e W5 ⟨rfl,hW5⟩
 have hBI:W5.heap[X2.heap.size]?=some (.cells #[.string img] 9 (0,0)):=by rw[hW5];exact Box.new X2 9 #[.string img]
 have sz5:W5.heap.size=X2.heap.size+1:=by rw[hW5];simp
 have bel5:Below X2.heap.size X2 W5:=by rw[hW5];exact alcB _ _
 have HSZ:Hid (w.heap.size<W5.heap.size):=by
  show _<_
  have:=HS1.out;have:=HHB1.out.size;have:=HHS2.out
  omega
 have HC:Hid (RC x1 (x1.heap.size+1) K M W1.heap.size X2.heap.size W5.heap.size) :=
  ⟨Nat.le_succ _,(HHBK.out.own (.inr (.inl rfl))).2,by rw[HHS2.out];omega,by rw[sz5];omega,HHB1.out.size⟩
 have HI0:Hid (RI x1 (x1.heap.size+1) K M W1.heap.size X2.heap.size W5.heap.size (some (.cells #[.string img] 9 (0,0))) 16 [] W5):=by
  have hb25:Below W1.heap.size W1 W5:=bjoin bel5 HHB2.out
  exact⟨⟨ov0,nm0,ps0,bs0,HHBK.out.below hb25,HHPS.out,HHN.out,fun d hd=>.inl (HHBK.out.own hd).2⟩,HHP2.out.below bel5,hBI,bjoin hb25 HHB1.out,leR _⟩
 have HBI:=hide hBI
 have HSZ5:=hide sz5
 clear hW5 hBI sz5 bel5
 gi_wp2_with fail
 refine wpIn_rangeFunc_ownG (α:=RT) rfl (by omega) (gf:=80) (lb:=#[.pointer (some ⟨X2.heap.size,0,none⟩)]) rfl trivial (enters_of Tryz.func80 (by kernel_rfl) rfl)
  (records_stops img hI X2.heap.size W5 HBI.out) ?kt ?kb (Below.refl _ _) (fun _=>rfl)
  (fun pre X=>∃ys,runF [] (pre.map (·.val.1))=some ys∧RI x1 (x1.heap.size+1) K M W1.heap.size X2.heap.size W5.heap.size (some (.cells #[.string img] 9 (0,0))) (16+pre.length) ys X)
  (fun c pre X=>c=.exit 0∧∃ys nn,(∀us,recF [] (pre.map (·.val.1)++us)=ys)∧RI x1 (x1.heap.size+1) K M W1.heap.size X2.heap.size W5.heap.size (some (.cells #[.string img] 9 (0,0))) nn ys X)
  ?hI ?hIx ⟨[],rfl,HI0.out⟩
  (fun x=>{ tmps:=#[Value.string img,undef,Value.pointer (some { block:=w.heap.size,off:=0 }),Value.pointer (some { block:=W1.heap.size,off:=0 }),Value.string x.val.1,undef,undef,undef,undef,Value.agg #[Value.slice none 0 0],Value.pointer (some { block:=K,off:=0 }),Value.string img,Value.func (Fn.func 80) #[] #[Value.pointer (some { block:=X2.heap.size,off:=0 })],Value.string x.val.1,Value.int IntKind.i64 ((x.val.2:Nat):Int),undef,undef,undef,undef,undef,undef,undef,undef,undef,undef,undef,undef,undef,undef,undef,undef,undef,undef,undef,undef,undef,undef,undef,undef,undef,undef,undef,undef,undef,undef,undef,undef],defers:=[] }) ?assign ?body ?done ?stop
 case kt =>
  intro A C D h1 h2
  exact h2.trans h1
 case kb =>
  intro X l o o' hl _ _ _
  exact World.putObj_heap_other (by rw[HSZ5.out] at hl;omega)
 case hI =>
  rintro pre X X' row ⟨ys,h1,h2⟩ hg hr
  exact⟨ys,h1,h2.turned HC.out hg hr⟩
 case hIx =>
  rintro c pre X X' row ⟨h0,ys,nn,h1,h2⟩ hg hr
  exact⟨h0,ys,nn,h1,h2.turned HC.out hg hr⟩
 case assign =>
  intro l x X Kk hK
  gi_wp2
  exact hK
 case body =>
  rintro l pre ⟨⟨t,y⟩,htz⟩ X ⟨ys,hrun,hRI⟩ hlt
  dsimp only at htz ⊢
  have HRUN:=hide hrun
  have HRI:=hide hRI
  have HTB:Hid (tblB ys=true):=runF_tbl _ _ _ tblB_nil hrun
  have HDE:=hide (decI_any t X (by omega) (HE.out X hRI.below).1 (HE.out X hRI.below).2)
  rw[dec_same] at HDE
  have HPRE:Hid ((pre++[(⟨(t,y),htz⟩:RT)]).map (·.val.1)=pre.map (·.val.1)++[t]):=by show _=_;rw[List.map_append];rfl
  have HLEN:Hid (16+(pre++[(⟨(t,y),htz⟩:RT)]).length=16+pre.length+1):=by show _=_;rw[List.length_append];rfl
  have HLT:=hide hlt
  obtain⟨o,ho⟩:∃o,decS t=o:=⟨_,rfl⟩
  rw[ho] at HDE
  have HO:=hide ho
  clear hrun hRI hlt ho
  cases o with
  | none =>
   have HST:Hid (∀us,recF [] ((pre++[(⟨(t,y),htz⟩:RT)]).map (·.val.1)++us)=ys):=fun us=>by rw[HPRE.out,List.append_assoc];exact recF_stop HRUN.out (stepR_no HO.out)
   unfold decR at HDE
   dsimp only at HDE
   unfold zeroC chgV at HDE
   dsimp only at HDE
   gi_wp2_with fail
   refine⟨trivial,?_⟩
   refine(CallsIn.inRound l (callsIn_wide.2 HDE.out)).mono ?_
   rintro e V1 ⟨u,rfl,hOC,hv1⟩
   obtain⟨au,cu,rfl⟩:=hOC.form
   obtain⟨V2,hV2⟩:∃x,V1.alloc (Obj.cells #[.int .i64 0,.int .i64 0,.string ⟨#[]⟩,.string ⟨#[]⟩,.int .i64 0,.slice au 0 cu,.int .i64 0] 28)=x:=⟨_,rfl⟩
   have hbV:Below X.heap.size X V2:=by
    rw[←hV2]
    exact hv1.alloc hv1.size _
   have HKF:=hide (keepsFrom_below (B:=W5.heap.size) hbV)
   have HRIV:=hide (HRI.out.bel HC.out hbV)
   have HV2:=hide hV2
   clear hOC hv1 hbV hV2
   gi_wp2_with (rw[HV2.out])
   (try rw[HV2.out])
   refine⟨trivial,?_⟩
   apply_assumption
   gi_wp2_with fail
   exact⟨HKF.out,by first|rfl|trivial,ys,_,HST.out,HRIV.out⟩
  | some c =>
   have hcB:=decS_ok HO.out
   obtain⟨zt,zq⟩:=chg_sizes hcB
   have HCB:=hide hcB
   unfold decR at HDE
   dsimp only at HDE
   obtain⟨ov,nm,ps,bs,hbk,hps,hnm,hin⟩:=HRI.out.book
   have HBK:=hide hbk
   have HPS:=hide hps
   have HNM:=hide hnm
   have HIN:=hide hin
   have HTV:Hid (TV ps):=tv_of (by rw[hps];exact HTB.out)
   have HAP:=hide (fun(V:World) (hV:Below X.heap.size X V) (au:Option Addr) (cu l9:Nat) (h:StrsAt l9 V (.slice au c.rows.length cu) c.rows)=>apply_any (HBK.out.below hV) (by have:=((HBK.out.below hV).own (.inl rfl));omega) HTV.out (by have:=HNM.out;have:=HLT.out;omega) c HCB.out (by omega) au c.rows.length cu h)
   rw[hps] at HAP
   have HDO:Hid (applyP ys c=doP ys c):=applyP_do HTB.out hcB
   obtain⟨R,hR⟩:∃R,doP ys c=R:=⟨_,rfl⟩
   have HGOOD:Hid (R.2=0→runF [] ((pre++[(⟨(t,y),htz⟩:RT)]).map (·.val.1))=some R.1):=fun h=>by
    rw[HPRE.out,runF_snoc _ _ _ _ HRUN.out,stepR_good HO.out (by rw[HDO.out,hR];exact h),HDO.out,hR]
   have HBAD:Hid (R.2≠0→R.1=ys∧∀us,recF [] ((pre++[(⟨(t,y),htz⟩:RT)]).map (·.val.1)++us)=ys):=fun h=>by
    refine⟨by rw[←hR];exact doP_same (by rw[hR];exact h),fun us=>?_⟩
    rw[HPRE.out,List.append_assoc]
    exact recF_stop HRUN.out (stepR_bad HO.out (by rw[HDO.out,hR];exact h))
   rw[hR] at HAP
   unfold StPost at HAP
   obtain⟨kind,client,tag,query,page,rows,n0⟩:=c
   unfold chgV at HDE HAP
   dsimp only at HDE HAP zt zq
   obtain⟨nu,hnu⟩:∃q,rows.length=q:=⟨_,rfl⟩
   rw[hnu] at HAP
   clear hbk hps hnm hin hR hcB
   gi_wp2_with fail
   refine⟨trivial,?_⟩
   refine(CallsIn.inRound l (callsIn_wide.2 HDE.out)).mono ?_
   rintro e V1 ⟨u,rfl,hOC,hv1⟩
   obtain⟨au,cu,hu⟩:=hOC.form
   dsimp only at hu
   rw[hnu] at hu
   subst hu
   obtain⟨V2,hV2⟩:∃x,V1.alloc (Obj.cells #[.int .i64 kind,.int .i64 client,.string tag,.string query,.int .i64 page,.slice au nu cu,.int .i64 n0] 28)=x:=⟨_,rfl⟩
   have hbV:Below V1.heap.size V1 V2:=by rw[←hV2];exact alcB _ _
   have HBV:=hide (bjoin hbV hv1)
   have HCX:Hid (Box V2 V1.heap.size 28 #[.int .i64 kind,.int .i64 client,.string tag,.string query,.int .i64 page,.slice au nu cu,.int .i64 n0]):=by rw[←hV2];exact Box.new _ _ _
   have HAP2:=hide (HAP.out V2 HBV.out au cu _ (At.kept kept_str hOC.strs hbV))
   have p2:V2.cell? ⟨W1.heap.size,0,none⟩=some (.pointer (some ⟨K,0,none⟩)):=(HRI.out.ptr.below HBV.out).cell 0 (by simp)
   have q0:V2.cell? ⟨V1.heap.size,0,none⟩=some (.int .i64 kind):=HCX.out.cell 0 (by simp)
   have q1:V2.cell? ⟨V1.heap.size,1,none⟩=some (.int .i64 client):=HCX.out.cell 1 (by simp)
   have q2:V2.cell? ⟨V1.heap.size,2,none⟩=some (.string tag):=HCX.out.cell 2 (by simp)
   have q3:V2.cell? ⟨V1.heap.size,3,none⟩=some (.string query):=HCX.out.cell 3 (by simp)
   have q4:V2.cell? ⟨V1.heap.size,4,none⟩=some (.int .i64 page):=HCX.out.cell 4 (by simp)
   have q5:V2.cell? ⟨V1.heap.size,5,none⟩=some (.slice au nu cu):=HCX.out.cell 5 (by simp)
   have q6:V2.cell? ⟨V1.heap.size,6,none⟩=some (.int .i64 n0):=HCX.out.cell 6 (by simp)
   have HRI2:=hide (HRI.out.bel HC.out HBV.out)
   have HV2:=hide hV2
   clear hOC hv1 hbV hV2 zt zq hnu
   gi_wp2_with (rw[HV2.out])
   (try rw[HV2.out])
   refine⟨trivial,?_⟩
   refine(CallsIn.inRound l (callsIn_wide.2 HAP2.out)).mono ?_
   rintro e V3 ⟨code,rfl,⟨ov3,n3,ps3,bs3,hbk3,hps3,hn3,hft3⟩,hb3⟩
   obtain⟨R1,R2⟩:=R
   injection hps3 with hp1 hp2
   dsimp only at HGOOD HBAD
   obtain⟨hRI3,hkf3⟩:=HRI2.out.step HC.out (HBK.out.below HBV.out) HNM.out HIN.out hbk3 hp1 hn3 hft3 hb3
   subst hp2
   have HRI3:=hide hRI3
   have HKF:Hid (KeepsFrom W5.heap.size X V3):=(keepsFrom_below HBV.out).trans hkf3
   have HKP:Hid (V3.heap[X2.heap.size]?=X.heap[X2.heap.size]?):=hRI3.img.trans HRI.out.img.symm
   clear hbk3 hp1 hn3 hft3 hb3 hRI3 hkf3 p2 q0 q1 q2 q3 q4 q5 q6
   by_cases hcode:code=0
   ·have HG:=hide (HGOOD.out hcode)
    have hc0:(code != 0)=false:=by simpa using hcode
    have HFIN:Hid (KeepsFrom W5.heap.size X V3∧V3.heap[X2.heap.size]?=X.heap[X2.heap.size]?∧∃ys,runF [] ((pre++[(⟨(t,y),htz⟩:RT)]).map (·.val.1))=some ys∧RI x1 (x1.heap.size+1) K M W1.heap.size X2.heap.size W5.heap.size (some (.cells #[.string img] 9 (0,0))) (16+(pre++[(⟨(t,y),htz⟩:RT)]).length) ys V3):=⟨HKF.out,HKP.out,R1,HG.out,by rw[HLEN.out];exact HRI3.out⟩
    clear hcode
    gi_wp2_with fail
    exact HFIN.out
   ·have hc0:(code != 0)=true:=by simpa using hcode
    have hc1:¬code=0:=hcode
    have HBB:=hide (HBAD.out hcode)
    have HRI4:Hid (RI x1 (x1.heap.size+1) K M W1.heap.size X2.heap.size W5.heap.size (some (.cells #[.string img] 9 (0,0))) (16+pre.length+1) ys V3):=by have:=HRI3.out;rw[HBB.out.1] at this;exact this
    gi_wp2_with fail
    exact⟨HKF.out,by first|rfl|trivial,ys,_,HBB.out.2,HRI4.out⟩
 case done =>
  rintro D ls X hD hS ⟨ys,hrun,hRI⟩ hK
  have hrec:recF [] ((recsA img).map (·.1))=ys:=by
   rw[←hS,List.map_map]
   exact recF_all hrun
  clear hS hrun
  obtain⟨ov,nm,ps,bs,hbk,hps,_,_⟩:=hRI.book
  obtain⟨ao,co,rfl,_⟩:=hbk.row.form
  have htb:tblB ys=true:=by rw[←hrec];exact recF_tbl _ _ tblB_nil
  have hy16:ys.length≤16:=((tblB_iff ys).1 htb).1
  have hpl:ps.length=ys.length:=by rw[←hps,List.length_map]
  obtain⟨n,hn⟩:∃q,bs.length=q:=⟨_,rfl⟩
  have hny:ys.length=n:=by rw[←hpl,←hbk.len];exact hn
  have hn16:n≤16:=by omega
  rw[hn] at hbk
  have HNB:=hide hn
  have HNY:=hide hny
  have HPOST:Hid (recovP img=failT ys):=by show _=_;unfold recovP;rw[hrec]
  have HBK0:=hide hbk
  have HPS0:Hid (ps.map Prod.fst=failK ys 0):=by rw[failK_zero];exact hps
  have HPT0:=hide hRI.ptr
  have HBL0:=hide hRI.below
  have HKD0:=hide hK
  have HD5:=hide hD
  have p0:X.cell? ⟨W1.heap.size,0,none⟩=some (.pointer (some ⟨K,0,none⟩)):=hRI.ptr.cell 0 (by simp)
  have p1:X.cell? ⟨K,0,none⟩=some (.slice ao n co):=hbk.box.cell 0 (by simp)
  clear hbk hps htb hy16 hpl hn hny hrec hRI hK hD
  gi_wp2_with fail
  clear p0 p1
  gi_loopw [33] (fun i wr=>∃(k:Nat) (psk:List (Sess × Value)),k≤n∧i=.int .i64 (k:Int)∧BK (x1.heap.size+1) wr K M (.slice ao n co) nm psk bs∧psk.map Prod.fst=failK ys k∧Box wr W1.heap.size 57 #[.pointer (some ⟨K,0,none⟩)]∧wr.heap[D]?=some (.deferred (some []))∧Below x1.heap.size x1 wr) (fun i _=>n - (intOf i).toNat)
  case atStart=>exact⟨0,ps,zrL _,rfl,HBK0.out,HPS0.out,HPT0.out,HKD0.out,HBL0.out⟩
  case round =>
   obtain⟨k,psk,hk,rfl,hbk,hpsk,hpt,hkd,hbl⟩:=hrel
   obtain⟨Y,rfl⟩:∃x,x=wr:=⟨_,rfl⟩
   have HBK:=hide hbk
   have HPS:=hide hpsk
   have HPT:=hide hpt
   have HKD:=hide hkd
   have HBL:=hide hbl
   have hpl:psk.length=n:=by rw[←hbk.len];exact HNB.out
   have HPL:=hide hpl
   clear hbk hpsk hpt hkd hbl hpl
   by_cases hlt:k<n
   ·have hki:(k:Int)<(n:Int):=by omega
    have hk0:(0:Int)≤(k:Int):=by omega
    have hk9:(k:Int)≤100:=by omega
    have hkb:k<bs.length:=by rw[HNB.out];exact hlt
    have hkp:k<psk.length:=by rw[HPL.out];exact hlt
    have hky:k<ys.length:=by rw[HNY.out];exact hlt
    obtain⟨g,off,hao,hgl,hgc⟩:=row_ptr HBK.out.row (by rw[HNB.out];omega) k hkb
    subst hao
    obtain⟨b,hbb⟩:∃b,bs[k]=b:=⟨_,rfl⟩
    have hBs:=HBK.out.ses k hkp hkb
    rw[hbb] at hgc hBs
    have hels:=HBK.out.els psk[k] (List.getElem_mem hkp)
    have hfk:psk[k].1=ys[k]:=by
     have h1:(psk.map Prod.fst)[k]'(by rw[List.length_map];exact hkp)=(failK ys k)[k]'(by rw[failK_len];exact hky):=by simp only[HPS.out]
     rw[List.getElem_map,failK_at ys k hky] at h1
     exact h1
    obtain⟨⟨⟨sc,stag,sq,sp,sst,srows,scur⟩,u⟩,hpk⟩:∃p,psk[k]=p:=⟨_,rfl⟩
    rw[hpk] at hBs hels hfk
    have HBS:Hid (Box Y b 41 #[.int .i64 sc,.string stag,.string sq,.int .i64 sp,.int .i64 sst,u,.int .i64 scur]):=hBs
    have HSS:=hide hels.1
    have HPK:=hide hpk
    have HE2:=hide hbb
    have HFK:=hide hfk
    have d4:Y.cell? ⟨b,4,none⟩=some (.int .i64 sst):=HBS.out.cell 4 (by simp)
    have bl:=HBS.out.lt
    by_cases hst:sst=1
    ·have hq:(sst == 1)=true:=by simpa using hst
     obtain⟨Y2,hY2⟩:∃x,((Y.setCell ⟨b,4,none⟩ (.int .i64 3)).setCell ⟨b,5,none⟩ (.slice none 0 0)).setCell ⟨b,6,none⟩ (.int .i64 0)=x:=⟨_,rfl⟩
     have HEN:=hide (end_any b 3 sc sp sst scur stag sq u Y HBS.out)
     rw[hY2] at HEN
     have hoth:∀d,d≠b→Y2.heap[d]?=Y.heap[d]?:=fun d hd=>by rw[←hY2,Deep.blk_setCell_other _ ⟨b,6,none⟩ _ d (by dsimp only;exact hd),Deep.blk_setCell_other _ ⟨b,5,none⟩ _ d (by dsimp only;exact hd),Deep.blk_setCell_other _ ⟨b,4,none⟩ _ d (by dsimp only;exact hd)]
     have hbx2:Box Y2 b 41 (tsC (⟨sc,stag,sq,sp,3,[],0⟩,.slice none 0 0)).toArray:=by
      rw[←hY2]
      have:=((HBS.out.set 4 (.int .i64 3)).set 5 (.slice none 0 0)).set 6 (.int .i64 0)
      simpa [tsC] using this
     have HBK2:Hid (BK (x1.heap.size+1) Y2 K M (.slice (some ⟨g,off,none⟩) n co) nm (psk.set k (⟨sc,stag,sq,sp,3,[],0⟩,.slice none 0 0)) bs) :=
      HBK.out.put hkp hkb _ _ (by rw[HPK.out]) (by rw[HPK.out]) ⟨HSS.out.1,HSS.out.2.1,by simp,by simp⟩ (fun d _ hd _=>hoth d (by rw[HE2.out] at hd;exact hd)) (by rw[HE2.out];exact hbx2) (FB.nil _ _ _ _ _) (fun d hd=>by simp[Value.ownBlock] at hd)
     have HPS2:Hid ((psk.set k (⟨sc,stag,sq,sp,3,[],0⟩,.slice none 0 0)).map Prod.fst=failK ys (k+1)):=by
      show _=_
      rw[List.map_set,HPS.out,failK_succ ys k hky,←HFK.out]
      congr 1
      unfold failS
      dsimp only
      rw[if_pos hst]
     have HPT2:Hid (Box Y2 W1.heap.size 57 #[.pointer (some ⟨K,0,none⟩)]):=HPT.out.keep (hoth _ (blk_ne HPT.out HBS.out (by decide)))
     have HKD2:Hid (Y2.heap[D]?=some (.deferred (some []))):=by
      show _=_
      rw[hoth D fun e=>?_]
      ·exact HKD.out
      ·have h1:Y.heap[b]?=some (.cells _ 41 (0,0)):=HBS.out
       rw[←e,HKD.out] at h1
       cases h1
     have HBL2:Hid (Below x1.heap.size x1 Y2):=by
      have hlo:x1.heap.size≤b:=by have:=HBK.out.lob b (by rw[←HE2.out];exact List.getElem_mem hkb);omega
      rw[←hY2]
      exact((HBL.out.setCell (p:=⟨b,4,none⟩) hlo _).setCell (p:=⟨b,5,none⟩) hlo _).setCell (p:=⟨b,6,none⟩) hlo _
     clear hBs hels hfk hpk hbb hst hY2 hoth hbx2
     gi_wp2_with fail
     refine⟨trivial,?_⟩
     refine(callsIn_wide.2 HEN.out).mono ?_
     rintro e y2 ⟨rfl,hy2⟩
     subst hy2
     clear d4 bl
     gi_wp2_with fail
     go_roundw
     case rel=>exact⟨k+1,_,by omega,by go_num,HBK2.out,HPS2.out,HPT2.out,HKD2.out,HBL2.out⟩
     case measure=>simp[intOf];omega
    ·have hq:(sst == 1)=false:=by simpa using hst
     have HKP:Hid (failK ys (k+1)=failK ys k):=failK_keep ys k hky (by rw[←HFK.out];exact hst)
     clear hBs hels hfk hpk hbb hst
     gi_wp2_with fail
     go_roundw
     case rel=>exact⟨k+1,psk,by omega,by go_num,HBK.out,by rw[HKP.out];exact HPS.out,HPT.out,HKD.out,HBL.out⟩
     case measure=>simp[intOf];omega
   ·obtain rfl:k=n:=by omega
    have hki:¬(k:Int)<(k:Int):=by omega
    have p0:Y.cell? ⟨W1.heap.size,0,none⟩=some (.pointer (some ⟨K,0,none⟩)):=HPT.out.cell 0 (by simp)
    have HTA:=hide (table_any HBK.out (by have:=HBK.out.own (.inl rfl);omega) (by rw[HPL.out];omega))
    gi_wp2_with fail
    refine⟨trivial,?_⟩
    refine(callsIn_wide.2 HTA.out).mono ?_
    rintro e V ⟨t,rfl,hte,hbv⟩
    obtain⟨at9,ct9,et9,_⟩:=hte.form
    rw[HPL.out] at et9
    subst et9
    have hBLV:Below x1.heap.size x1 V:=bjoin hbv HBL.out
    have hRV:Box V w.heap.size 25 #[.slice none 0 0]:=HR1.out.below hBLV
    have r0:V.cell? ⟨w.heap.size,0,none⟩=some (.slice none 0 0):=hRV.cell 0 (by simp)
    have rf:=hRV.frozen 0
    have rl:=hRV.lt
    have hRS:Box (V.setCell ⟨w.heap.size,0,none⟩ (.slice at9 k ct9)) w.heap.size 25 #[.slice at9 k ct9]:=by have:=hRV.set 0 (.slice at9 k ct9);simpa using this
    have HRS:=hide hRS
    clear hRS
    have hDV:V.heap[D]?=some (.deferred (some [])):=(hbv.block D (Array.getElem?_eq_some_iff.1 HKD.out).1).trans HKD.out
    have HDS:Hid ((V.setCell ⟨w.heap.size,0,none⟩ (.slice at9 k ct9)).heap[D]?=some (.deferred (some []))):=by
     show _=_
     rw[Deep.blk_setCell_other _ ⟨w.heap.size,0,none⟩ _ D (by dsimp only;have:=HD5.out;have:=HSZ.out;omega)]
     exact hDV
    have HTE:Hid (TE w.heap.size (V.setCell ⟨w.heap.size,0,none⟩ (.slice at9 k ct9)) (.slice at9 k ct9) psk):=(hte.low (by have:=HS1.out;omega)).setBox hRV _
    have HBW:Hid (Below w.heap.size w (V.setCell ⟨w.heap.size,0,none⟩ (.slice at9 k ct9))):=(bjoin hBLV HB1.out).setCell (p:=⟨w.heap.size,0,none⟩) (leR _) _
    have HEQ:Hid (psk.map Prod.fst=recovP img):=by show _=_;rw[HPOST.out,HPS.out,←failK_all,HNY.out]
    clear hte hbv hBLV hRV hDV p0
    gi_wp2_with fail
    refine⟨by simp,.inl ⟨_,_,rfl,run_takeDeferred HDS.out,?_⟩⟩
    have hb9:((V.setCell ⟨w.heap.size,0,none⟩ (.slice at9 k ct9)).putObj D (.deferred none)).heap[w.heap.size]?=some (.cells #[.slice at9 k ct9] 25 (0,0)):=(World.putObj_heap_other (by have:=HD5.out;have:=HSZ.out;omega)).trans HRS.out
    have hc9:((V.setCell ⟨w.heap.size,0,none⟩ (.slice at9 k ct9)).putObj D (.deferred none)).cell? ⟨w.heap.size,0,none⟩=some (.slice at9 k ct9):=by simp[World.cell?,hb9]
    have hl9:w.heap.size<((V.setCell ⟨w.heap.size,0,none⟩ (.slice at9 k ct9)).putObj D (.deferred none)).heap.size:=(Array.getElem?_eq_some_iff.1 hb9).1
    refine⟨.agg #[.slice at9 k ct9],by simp[results,Tryz.results14,go_sem,hc9,hl9],.slice at9 k ct9,rfl,⟨psk,HTE.out.putObj HDS.out rfl _,HEQ.out⟩,HBW.out.trans (belowK_b (w:=w) (leR _) _ D _ _ (by have:=HD5.out;have:=HSZ.out;omega) HDS.out rfl rfl)⟩
 case stop =>
  rintro D c ls X hD ⟨kk,hS⟩ ⟨rfl,ys,nn,hstop,hRI⟩ hK
  have hrec:recF [] ((recsA img).map (·.1))=ys:=by
   obtain⟨us,hus⟩:=recsA_pre img kk
   rw[←hus,←hS,List.map_append,List.map_map]
   exact hstop _
  clear hS hstop
  obtain⟨ov,nm,ps,bs,hbk,hps,_,_⟩:=hRI.book
  obtain⟨ao,co,rfl,_⟩:=hbk.row.form
  have htb:tblB ys=true:=by rw[←hrec];exact recF_tbl _ _ tblB_nil
  have hy16:ys.length≤16:=((tblB_iff ys).1 htb).1
  have hpl:ps.length=ys.length:=by rw[←hps,List.length_map]
  obtain⟨n,hn⟩:∃q,bs.length=q:=⟨_,rfl⟩
  have hny:ys.length=n:=by rw[←hpl,←hbk.len];exact hn
  have hn16:n≤16:=by omega
  rw[hn] at hbk
  have HNB:=hide hn
  have HNY:=hide hny
  have HPOST:Hid (recovP img=failT ys):=by show _=_;unfold recovP;rw[hrec]
  have HBK0:=hide hbk
  have HPS0:Hid (ps.map Prod.fst=failK ys 0):=by rw[failK_zero];exact hps
  have HPT0:=hide hRI.ptr
  have HBL0:=hide hRI.below
  have HKD0:=hide hK
  have HD5:=hide hD
  have p0:X.cell? ⟨W1.heap.size,0,none⟩=some (.pointer (some ⟨K,0,none⟩)):=hRI.ptr.cell 0 (by simp)
  have p1:X.cell? ⟨K,0,none⟩=some (.slice ao n co):=hbk.box.cell 0 (by simp)
  clear hbk hps htb hy16 hpl hn hny hrec hRI hK hD
  gi_wp2_with fail
  clear p0 p1
  gi_loopw [33] (fun i wr=>∃(k:Nat) (psk:List (Sess × Value)),k≤n∧i=.int .i64 (k:Int)∧BK (x1.heap.size+1) wr K M (.slice ao n co) nm psk bs∧psk.map Prod.fst=failK ys k∧Box wr W1.heap.size 57 #[.pointer (some ⟨K,0,none⟩)]∧wr.heap[D]?=some (.deferred (some []))∧Below x1.heap.size x1 wr) (fun i _=>n - (intOf i).toNat)
  case atStart=>exact⟨0,ps,zrL _,rfl,HBK0.out,HPS0.out,HPT0.out,HKD0.out,HBL0.out⟩
  case round =>
   obtain⟨k,psk,hk,rfl,hbk,hpsk,hpt,hkd,hbl⟩:=hrel
   obtain⟨Y,rfl⟩:∃x,x=wr:=⟨_,rfl⟩
   have HBK:=hide hbk
   have HPS:=hide hpsk
   have HPT:=hide hpt
   have HKD:=hide hkd
   have HBL:=hide hbl
   have hpl:psk.length=n:=by rw[←hbk.len];exact HNB.out
   have HPL:=hide hpl
   clear hbk hpsk hpt hkd hbl hpl
   by_cases hlt:k<n
   ·have hki:(k:Int)<(n:Int):=by omega
    have hk0:(0:Int)≤(k:Int):=by omega
    have hk9:(k:Int)≤100:=by omega
    have hkb:k<bs.length:=by rw[HNB.out];exact hlt
    have hkp:k<psk.length:=by rw[HPL.out];exact hlt
    have hky:k<ys.length:=by rw[HNY.out];exact hlt
    obtain⟨g,off,hao,hgl,hgc⟩:=row_ptr HBK.out.row (by rw[HNB.out];omega) k hkb
    subst hao
    obtain⟨b,hbb⟩:∃b,bs[k]=b:=⟨_,rfl⟩
    have hBs:=HBK.out.ses k hkp hkb
    rw[hbb] at hgc hBs
    have hels:=HBK.out.els psk[k] (List.getElem_mem hkp)
    have hfk:psk[k].1=ys[k]:=by
     have h1:(psk.map Prod.fst)[k]'(by rw[List.length_map];exact hkp)=(failK ys k)[k]'(by rw[failK_len];exact hky):=by simp only[HPS.out]
     rw[List.getElem_map,failK_at ys k hky] at h1
     exact h1
    obtain⟨⟨⟨sc,stag,sq,sp,sst,srows,scur⟩,u⟩,hpk⟩:∃p,psk[k]=p:=⟨_,rfl⟩
    rw[hpk] at hBs hels hfk
    have HBS:Hid (Box Y b 41 #[.int .i64 sc,.string stag,.string sq,.int .i64 sp,.int .i64 sst,u,.int .i64 scur]):=hBs
    have HSS:=hide hels.1
    have HPK:=hide hpk
    have HE2:=hide hbb
    have HFK:=hide hfk
    have d4:Y.cell? ⟨b,4,none⟩=some (.int .i64 sst):=HBS.out.cell 4 (by simp)
    have bl:=HBS.out.lt
    by_cases hst:sst=1
    ·have hq:(sst == 1)=true:=by simpa using hst
     obtain⟨Y2,hY2⟩:∃x,((Y.setCell ⟨b,4,none⟩ (.int .i64 3)).setCell ⟨b,5,none⟩ (.slice none 0 0)).setCell ⟨b,6,none⟩ (.int .i64 0)=x:=⟨_,rfl⟩
     have HEN:=hide (end_any b 3 sc sp sst scur stag sq u Y HBS.out)
     rw[hY2] at HEN
     have hoth:∀d,d≠b→Y2.heap[d]?=Y.heap[d]?:=fun d hd=>by rw[←hY2,Deep.blk_setCell_other _ ⟨b,6,none⟩ _ d (by dsimp only;exact hd),Deep.blk_setCell_other _ ⟨b,5,none⟩ _ d (by dsimp only;exact hd),Deep.blk_setCell_other _ ⟨b,4,none⟩ _ d (by dsimp only;exact hd)]
     have hbx2:Box Y2 b 41 (tsC (⟨sc,stag,sq,sp,3,[],0⟩,.slice none 0 0)).toArray:=by
      rw[←hY2]
      have:=((HBS.out.set 4 (.int .i64 3)).set 5 (.slice none 0 0)).set 6 (.int .i64 0)
      simpa [tsC] using this
     have HBK2:Hid (BK (x1.heap.size+1) Y2 K M (.slice (some ⟨g,off,none⟩) n co) nm (psk.set k (⟨sc,stag,sq,sp,3,[],0⟩,.slice none 0 0)) bs) :=
      HBK.out.put hkp hkb _ _ (by rw[HPK.out]) (by rw[HPK.out]) ⟨HSS.out.1,HSS.out.2.1,by simp,by simp⟩ (fun d _ hd _=>hoth d (by rw[HE2.out] at hd;exact hd)) (by rw[HE2.out];exact hbx2) (FB.nil _ _ _ _ _) (fun d hd=>by simp[Value.ownBlock] at hd)
     have HPS2:Hid ((psk.set k (⟨sc,stag,sq,sp,3,[],0⟩,.slice none 0 0)).map Prod.fst=failK ys (k+1)):=by
      show _=_
      rw[List.map_set,HPS.out,failK_succ ys k hky,←HFK.out]
      congr 1
      unfold failS
      dsimp only
      rw[if_pos hst]
     have HPT2:Hid (Box Y2 W1.heap.size 57 #[.pointer (some ⟨K,0,none⟩)]):=HPT.out.keep (hoth _ (blk_ne HPT.out HBS.out (by decide)))
     have HKD2:Hid (Y2.heap[D]?=some (.deferred (some []))):=by
      show _=_
      rw[hoth D fun e=>?_]
      ·exact HKD.out
      ·have h1:Y.heap[b]?=some (.cells _ 41 (0,0)):=HBS.out
       rw[←e,HKD.out] at h1
       cases h1
     have HBL2:Hid (Below x1.heap.size x1 Y2):=by
      have hlo:x1.heap.size≤b:=by have:=HBK.out.lob b (by rw[←HE2.out];exact List.getElem_mem hkb);omega
      rw[←hY2]
      exact((HBL.out.setCell (p:=⟨b,4,none⟩) hlo _).setCell (p:=⟨b,5,none⟩) hlo _).setCell (p:=⟨b,6,none⟩) hlo _
     clear hBs hels hfk hpk hbb hst hY2 hoth hbx2
     gi_wp2_with fail
     refine⟨trivial,?_⟩
     refine(callsIn_wide.2 HEN.out).mono ?_
     rintro e y2 ⟨rfl,hy2⟩
     subst hy2
     clear d4 bl
     gi_wp2_with fail
     go_roundw
     case rel=>exact⟨k+1,_,by omega,by go_num,HBK2.out,HPS2.out,HPT2.out,HKD2.out,HBL2.out⟩
     case measure=>simp[intOf];omega
    ·have hq:(sst == 1)=false:=by simpa using hst
     have HKP:Hid (failK ys (k+1)=failK ys k):=failK_keep ys k hky (by rw[←HFK.out];exact hst)
     clear hBs hels hfk hpk hbb hst
     gi_wp2_with fail
     go_roundw
     case rel=>exact⟨k+1,psk,by omega,by go_num,HBK.out,by rw[HKP.out];exact HPS.out,HPT.out,HKD.out,HBL.out⟩
     case measure=>simp[intOf];omega
   ·obtain rfl:k=n:=by omega
    have hki:¬(k:Int)<(k:Int):=by omega
    have p0:Y.cell? ⟨W1.heap.size,0,none⟩=some (.pointer (some ⟨K,0,none⟩)):=HPT.out.cell 0 (by simp)
    have HTA:=hide (table_any HBK.out (by have:=HBK.out.own (.inl rfl);omega) (by rw[HPL.out];omega))
    gi_wp2_with fail
    refine⟨trivial,?_⟩
    refine(callsIn_wide.2 HTA.out).mono ?_
    rintro e V ⟨t,rfl,hte,hbv⟩
    obtain⟨at9,ct9,et9,_⟩:=hte.form
    rw[HPL.out] at et9
    subst et9
    have hBLV:Below x1.heap.size x1 V:=bjoin hbv HBL.out
    have hRV:Box V w.heap.size 25 #[.slice none 0 0]:=HR1.out.below hBLV
    have r0:V.cell? ⟨w.heap.size,0,none⟩=some (.slice none 0 0):=hRV.cell 0 (by simp)
    have rf:=hRV.frozen 0
    have rl:=hRV.lt
    have hRS:Box (V.setCell ⟨w.heap.size,0,none⟩ (.slice at9 k ct9)) w.heap.size 25 #[.slice at9 k ct9]:=by have:=hRV.set 0 (.slice at9 k ct9);simpa using this
    have HRS:=hide hRS
    clear hRS
    have hDV:V.heap[D]?=some (.deferred (some [])):=(hbv.block D (Array.getElem?_eq_some_iff.1 HKD.out).1).trans HKD.out
    have HDS:Hid ((V.setCell ⟨w.heap.size,0,none⟩ (.slice at9 k ct9)).heap[D]?=some (.deferred (some []))):=by
     show _=_
     rw[Deep.blk_setCell_other _ ⟨w.heap.size,0,none⟩ _ D (by dsimp only;have:=HD5.out;have:=HSZ.out;omega)]
     exact hDV
    have HTE:Hid (TE w.heap.size (V.setCell ⟨w.heap.size,0,none⟩ (.slice at9 k ct9)) (.slice at9 k ct9) psk):=(hte.low (by have:=HS1.out;omega)).setBox hRV _
    have HBW:Hid (Below w.heap.size w (V.setCell ⟨w.heap.size,0,none⟩ (.slice at9 k ct9))):=(bjoin hBLV HB1.out).setCell (p:=⟨w.heap.size,0,none⟩) (leR _) _
    have HEQ:Hid (psk.map Prod.fst=recovP img):=by show _=_;rw[HPOST.out,HPS.out,←failK_all,HNY.out]
    clear hte hbv hBLV hRV hDV p0
    gi_wp2_with fail
    refine⟨by simp,.inl ⟨_,_,rfl,run_takeDeferred HDS.out,?_⟩⟩
    have hb9:((V.setCell ⟨w.heap.size,0,none⟩ (.slice at9 k ct9)).putObj D (.deferred none)).heap[w.heap.size]?=some (.cells #[.slice at9 k ct9] 25 (0,0)):=(World.putObj_heap_other (by have:=HD5.out;have:=HSZ.out;omega)).trans HRS.out
    have hc9:((V.setCell ⟨w.heap.size,0,none⟩ (.slice at9 k ct9)).putObj D (.deferred none)).cell? ⟨w.heap.size,0,none⟩=some (.slice at9 k ct9):=by simp[World.cell?,hb9]
    have hl9:w.heap.size<((V.setCell ⟨w.heap.size,0,none⟩ (.slice at9 k ct9)).putObj D (.deferred none)).heap.size:=(Array.getElem?_eq_some_iff.1 hb9).1
    refine⟨.agg #[.slice at9 k ct9],by simp[results,Tryz.results14,go_sem,hc9,hl9],.slice at9 k ct9,rfl,⟨psk,HTE.out.putObj HDS.out rfl _,HEQ.out⟩,HBW.out.trans (belowK_b (w:=w) (leR _) _ D _ _ (by have:=HD5.out;have:=HSZ.out;omega) HDS.out rfl rfl)⟩
end Go.Proofs.YtglcdcekkglmiaaGreatDoor.Msg
