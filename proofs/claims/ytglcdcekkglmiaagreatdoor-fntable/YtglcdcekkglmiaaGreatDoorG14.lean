import Derived.Test.YtglcdcekkglmiaaGreatDoorG12
import Derived.Deep.RegionHeld3
namespace Go.Proofs.YtglcdcekkglmiaaGreatDoor.Msg
open Go.ChangeShapes Go.WideShapes Go.ChangeAt Go.RowKit
set_option linter.unusedVariables false
set_option linter.unusedSimpArgs false
theorem showI_any (n:Int) (h0:0≤n) (h1:n≤9223372036854775807) (w:World) :
  Calls Tryz.prog 20 #[.int .i64 n] w fun e w'=>e=.returned (.string (decT n.toNat))∧Below w.heap.size w w':=by
 have h:=show_any n.toNat w (by omega)
 rw[Int.toNat_of_nonneg h0] at h
 exact h
theorem decT_size (n:Int) (h1:n<1000):(decT n.toNat).size≤3:=by
 unfold decT
 have:=dec_len 2 n.toNat (by omega)
 show (Lib.decDigits n.toNat).toArray.size≤3
 simp
 omega
theorem Buf.empty_at (base:Nat) (w:World) (h:base≤w.heap.size):Buf base (w.alloc (Obj.cells #[] 5)) (.slice (some ⟨w.heap.size,0,none⟩) 0 0) [] :=
 World.ownsRow_lit (base:=base) w #[] 0 h (by unfold maxLen;omega) rfl
theorem tail_step (rows:List ByteArray) (k:Nat) (h:k<rows.length):tailNL ((rows.take (k+1)).map (·.data.toList))=tailNL ((rows.take k).map (·.data.toList))++(10 :: rows[k].data.toList):=by
 unfold tailNL
 rw[List.take_succ_eq_append_getElem h,List.map_append]
 unfold Lib.joinTail
 rw[List.map_append,List.flatten_append]
 simp only[List.map_cons,List.map_nil,List.flatten_cons,List.flatten_nil,List.append_nil,List.singleton_append]
theorem lens_le200:∀(l:List (List UInt8)),(∀q∈l,q.length≤200)→Lib.lens l≤l.length * 200
 | [],_=>by simp[Lib.lens]
 | q :: r,h=>by
  have h1:=lens_le200 r fun a ha=>h a (List.mem_cons_of_mem _ ha)
  have h2:=h q (by simp)
  simp only[Lib.lens,List.map_cons,List.sum_cons,List.length_cons,Nat.add_mul,Nat.one_mul] at *
  omega
set_option maxRecDepth 100000 in
set_option maxHeartbeats 8000000 in
theorem encS_any (c:Chg) (v:Value) (w:World) {lo:Nat} (h2:c.tag.size≤1048576) (h3:c.query.size≤1048576) (hv:StrsAt lo w v c.rows) :
  Calls Tryz.prog 8 #[chgV c v] w fun e w'=>e=.returned (.string (encB c))∧Below w.heap.size w w':=by
 have HOK:=hide (fun W hW=>changeOk_any c v W (lo:=lo) (by omega) (by omega) (At.kept kept_str hv (w':=W) hW))
 obtain⟨kind,client,tag,query,page,rows,n⟩:=c
 simp only at h2 h3 hv
 have hl:=hv.1
 obtain⟨a,cap,hf,_⟩:=hv.form
 subst hf
 obtain⟨w1,hw1⟩:∃w1,w.alloc (Obj.cells #[.int .i64 kind,.int .i64 client,.string tag,.string query,.int .i64 page,.slice a rows.length cap,.int .i64 n] 28)=w1:=⟨_,rfl⟩
 have bw1:Below w.heap.size w w1:=by rw[←hw1];exact alcB _ _
 have sw1:w1.heap.size=w.heap.size+1:=by rw[←hw1];simp
 have KEEP:Hid (∀X,Below w1.heap.size w1 X→X.cell? ⟨w.heap.size,0,none⟩=some (.int .i64 kind)∧X.cell? ⟨w.heap.size,1,none⟩=some (.int .i64 client)∧X.cell? ⟨w.heap.size,2,none⟩=some (.string tag)∧X.cell? ⟨w.heap.size,3,none⟩=some (.string query)∧X.cell? ⟨w.heap.size,4,none⟩=some (.int .i64 page)∧X.cell? ⟨w.heap.size,5,none⟩=some (.slice a rows.length cap)∧X.cell? ⟨w.heap.size,6,none⟩=some (.int .i64 n)∧Below w1.heap.size w1 X):=fun X h =>
  ⟨(h.cell (p:=⟨w.heap.size,0,none⟩) (by rw[sw1];simp)).trans (by rw[←hw1];simp),(h.cell (p:=⟨w.heap.size,1,none⟩) (by rw[sw1];simp)).trans (by rw[←hw1];simp),(h.cell (p:=⟨w.heap.size,2,none⟩) (by rw[sw1];simp)).trans (by rw[←hw1];simp),(h.cell (p:=⟨w.heap.size,3,none⟩) (by rw[sw1];simp)).trans (by rw[←hw1];simp),(h.cell (p:=⟨w.heap.size,4,none⟩) (by rw[sw1];simp)).trans (by rw[←hw1];simp),(h.cell (p:=⟨w.heap.size,5,none⟩) (by rw[sw1];simp)).trans (by rw[←hw1];simp),(h.cell (p:=⟨w.heap.size,6,none⟩) (by rw[sw1];simp)).trans (by rw[←hw1];simp),h⟩
 have HOK1:=hide (HOK.out w1 bw1)
 have HBW:=hide bw1
 have HV:=hide hv
 have HW1:=hide hw1
 clear HOK hv bw1 sw1 hw1
 cases hk:chgB ⟨kind,client,tag,query,page,rows,n⟩
 ·have HX:Hid (encB ⟨kind,client,tag,query,page,rows,n⟩=⟨#[]⟩):=by unfold encB;rw[hk];exact rfl
  rw[hk] at HOK1
  show Calls Tryz.prog 8 #[.agg #[.int .i64 kind,.int .i64 client,.string tag,.string query,.int .i64 page,.slice a rows.length cap,.int .i64 n]] w _
  go_enter Tryz.func8,Tryz.ntmps8
  go_wp2_with fail
  rw[HW1.out]
  refine HOK1.out.mono ?_
  rintro e W0 ⟨rfl,hb0⟩
  go_wp2_with fail
  go_ret
  exact⟨ret_string HX.out.symm,bjoin hb0 HBW.out⟩
 have HX:Hid (encB ⟨kind,client,tag,query,page,rows,n⟩=⟨(encL ⟨kind,client,tag,query,page,rows,n⟩).toArray⟩):=by unfold encB;rw[hk];exact rfl
 have hkk:=chgB_kind hk
 have hcc:=chgB_client hk
 simp only at hkk hcc
 have HCS:=hide (chgB_cases hk)
 have HSK:=hide (showI_any kind (by omega) (by omega))
 have HSC:=hide (showI_any client (by omega) (by omega))
 obtain⟨K,hK⟩:∃K,decT kind.toNat=K:=⟨_,rfl⟩
 obtain⟨CL,hCL⟩:∃CL,decT client.toNat=CL:=⟨_,rfl⟩
 have hKz:K.size≤3:=by rw[←hK];exact decT_size kind (by omega)
 have hCz:CL.size≤3:=by rw[←hCL];exact decT_size client (by omega)
 rw[hK] at HSK
 rw[hCL] at HSC
 have HKE:=hide hK
 have HCE:=hide hCL
 have z1:¬9223372036854775807<K.size+1:=by omega
 have z2:¬9223372036854775807<K.size+1+CL.size:=by omega
 have z3:¬9223372036854775807<K.size+1+CL.size+1:=by omega
 have z4:¬9223372036854775807<K.size+1+CL.size+1+tag.size:=by omega
 have HLEN:Hid (([]:List UInt8).length+(K++⟨#[10]⟩++CL++⟨#[10]⟩++tag).size≤70368744177664):=by
  show _≤_
  simp only[ByteArray.size_append,List.length_nil]
  have e:(⟨#[10]⟩:ByteArray).size=1:=rfl
  omega
 rw[hk] at HOK1
 clear hK hCL
 show Calls Tryz.prog 8 #[.agg #[.int .i64 kind,.int .i64 client,.string tag,.string query,.int .i64 page,.slice a rows.length cap,.int .i64 n]] w _
 go_enter Tryz.func8,Tryz.ntmps8
 go_wp2_with fail
 rw[HW1.out]
 refine HOK1.out.mono ?_
 rintro e W0 ⟨rfl,hb0⟩
 have HB0:=hide hb0
 clear hb0
 go_wp2_with fail
 obtain⟨D,hwd⟩:∃D,W0.drew=D:=⟨_,rfl⟩
 have hbd0:Below w1.heap.size w1 W0.drew:=bjoin ((Below.refl _ _).drew) HB0.out
 have hD:Below w1.heap.size w1 D:=by rw[←hwd];exact hbd0
 go_region_held3 (fun X=>X.cell? ⟨w.heap.size,0,none⟩=some (.int .i64 kind)∧X.cell? ⟨w.heap.size,1,none⟩=some (.int .i64 client)∧X.cell? ⟨w.heap.size,2,none⟩=some (.string tag)∧X.cell? ⟨w.heap.size,3,none⟩=some (.string query)∧X.cell? ⟨w.heap.size,4,none⟩=some (.int .i64 page)∧X.cell? ⟨w.heap.size,5,none⟩=some (.slice a rows.length cap)∧X.cell? ⟨w.heap.size,6,none⟩=some (.int .i64 n)∧Below w1.heap.size w1 X)
  (first|with_reducible exact KEEP.out _ hbd0|with_reducible exact KEEP.out _ hD|with_reducible exact KEEP.out _ (hD.alloc hD.size _)|with_reducible exact KEEP.out _ hB1|with_reducible exact KEEP.out _ (hB1.alloc hB1.size _)|with_reducible exact KEEP.out _ hB2|with_reducible exact KEEP.out _ (hB2.alloc hB2.size _)|with_reducible exact KEEP.out _ hB3)
  (first
   | (go_at_call 32;have _g:=hB2;refine(put_any w1.heap.size [] _ _ _ (by first|with_reducible exact(Buf.empty_at _ D hD.size).keep (bjoin hb2 hb1)|with_reducible exact(Buf.empty_at _ v1 hB1.size).keep hb2|with_reducible exact Buf.empty_at _ v2 hB2.size) (by first|with_reducible exact hB2.size|with_reducible exact(hB2.alloc hB2.size _).size) HLEN.out).mono ?_;rintro e v3 ⟨u3,rfl,hO3,hg3⟩;have hB3:Below w1.heap.size w1 v3:=(by first|exact hB2.trans (hg3.below (by first|exact hB1.size|exact hD.size) hB2.size)|exact(hB2.alloc hB2.size _).trans (hg3.below (by exact hB2.size) (hB2.alloc hB2.size _).size)))
   | (go_at_call 20;have _g:=hB1;refine(HSC.out _).mono ?_;rintro e v2 ⟨rfl,hb2⟩;have hB2:Below w1.heap.size w1 v2:=bjoin hb2 (by first|exact hB1|exact hB1.alloc hB1.size _))
   | (go_at_call 20;refine(HSK.out _).mono ?_;rintro e v1 ⟨rfl,hb1⟩;have hB1:Below w1.heap.size w1 v1:=bjoin hb1 (by first|exact hD|exact hD.alloc hD.size _)))
 all_goals
  obtain⟨L0,hL0⟩:∃L0,[]++(K++⟨#[10]⟩++CL++⟨#[10]⟩++tag).data.toList=L0:=⟨_,rfl⟩
  rw[hL0] at hO3
  have hL0z:L0.length≤1048600:=by
   rw[←hL0]
   simp only[List.nil_append,ByteArray.size_append,Array.length_toList,ByteArray.size_data]
   have e:(⟨#[10]⟩:ByteArray).size=1:=rfl
   omega
  have HLE:Hid (encL ⟨kind,client,tag,query,page,rows,n⟩=L0++tailNL (chgMore ⟨kind,client,tag,query,page,rows,n⟩)):=by
   show _=_
   rw[encL_eq,←hL0,←HKE.out,←HCE.out]
   simp[decT]
  have HO3:=hide hO3
  have HB3:=hide hB3
  have HROW:Hid (∀r∈rows,r.size≤200):=by
   show ∀r∈rows,r.size≤200
   rcases HCS.out with⟨_,_,_,_,e,_⟩|⟨_,_,_,_,e,_⟩|⟨_,_,_,e,_,_⟩|⟨_,_,_,e,_⟩
   ·(try simp only at e);rw[e];intro r hr;cases hr
   ·exact e
   ·(try simp only at e);rw[e];intro r hr;cases hr
   ·(try simp only at e);rw[e];intro r hr;cases hr
  have HRL:Hid (rows.length≤200):=by
   show rows.length≤200
   rcases HCS.out with⟨_,_,_,_,e,_⟩|⟨_,_,_,e,_,_⟩|⟨_,_,_,e,_,_⟩|⟨_,_,_,e,_⟩
   ·(try simp only at e);rw[e];simp
   ·exact e
   ·(try simp only at e);rw[e];simp
   ·(try simp only at e);rw[e];simp
  have HTZ:Hid (∀k,k≤rows.length→(tailNL ((rows.take k).map (·.data.toList))).length≤100000):=fun k hk=>by
   unfold tailNL
   rw[Lib.joinTail_length]
   have h1:=lens_le200 ((rows.take k).map (·.data.toList)) (fun q hq=>by
    obtain⟨r,hr,rfl⟩:=List.mem_map.1 hq
    have:=HROW.out r (List.mem_of_mem_take hr)
    simpa using this)
   have h2:=HRL.out
   simp only[List.length_map,List.length_take,List.length_cons,List.length_nil] at *
   omega
  clear hL0 hO3 hB3 hg3
  by_cases k1:kind=1
  ·have HC1:Hid (query.size≤200∧1≤page∧page≤50∧rows=[]):=by
    show _∧_∧_∧_
    rcases HCS.out with⟨e1,e2,e3,e4,e5,_⟩|⟨e1,_⟩|⟨e1,_⟩|⟨e1,_⟩
    ·exact⟨e2,e3,e4,e5⟩
    ·(try simp only at e1);omega
    ·(try simp only at e1);omega
    ·(try simp only at e1);omega
   have hpg:=HC1.out.2
   have hqz:=HC1.out.1
   have HSP:=hide (showI_any page (by omega) (by omega))
   obtain⟨PT,hPT⟩:∃PT,decT page.toNat=PT:=⟨_,rfl⟩
   have hPz:PT.size≤3:=by rw[←hPT];exact decT_size page (by omega)
   rw[hPT] at HSP
   have HLE1:Hid (encL ⟨kind,client,tag,query,page,rows,n⟩=L0++(⟨#[10]⟩++query++⟨#[10]⟩++PT:ByteArray).data.toList):=by
    show _=_
    rw[HLE.out,←hPT]
    unfold chgMore
    rw[if_pos k1]
    simp[tailNL,Lib.joinTail,decT]
   have z5:¬9223372036854775807<1+query.size:=by omega
   have z6:¬9223372036854775807<1+query.size+1:=by omega
   have z7:¬9223372036854775807<1+query.size+1+PT.size:=by omega
   have HPT:=hide (fun W hO hS=>put_any w1.heap.size L0 (⟨#[10]⟩++query++⟨#[10]⟩++PT) u3 W hO hS (by simp only[ByteArray.size_append] at *;have e:(⟨#[10]⟩:ByteArray).size=1:=rfl;omega))
   clear hPT hpg
   obtain⟨f0,f1,f2,f3,f4,f5,f6,_⟩:=KEEP.out v3 HB3.out
   go_wp2_with fail
   clear f0 f1 f2 f3 f4 f5 f6
   obtain⟨D2,hwd2⟩:∃D2,v3.drew=D2:=⟨_,rfl⟩
   have hbd2:Below v3.heap.size v3 v3.drew:=(Below.refl _ _).drew
   have hbd2':Below w1.heap.size w1 v3.drew:=bjoin hbd2 HB3.out
   have hD2:Below v3.heap.size v3 D2:=by rw[←hwd2];exact hbd2
   have hD2':Below w1.heap.size w1 D2:=bjoin hD2 HB3.out
   go_region_held3 (fun X=>X.cell? ⟨w.heap.size,0,none⟩=some (.int .i64 kind)∧X.cell? ⟨w.heap.size,1,none⟩=some (.int .i64 client)∧X.cell? ⟨w.heap.size,2,none⟩=some (.string tag)∧X.cell? ⟨w.heap.size,3,none⟩=some (.string query)∧X.cell? ⟨w.heap.size,4,none⟩=some (.int .i64 page)∧X.cell? ⟨w.heap.size,5,none⟩=some (.slice a rows.length cap)∧X.cell? ⟨w.heap.size,6,none⟩=some (.int .i64 n)∧Below w1.heap.size w1 X)
    (first|with_reducible exact KEEP.out _ hbd2'|with_reducible exact KEEP.out _ hD2'|with_reducible exact KEEP.out _ hB4|with_reducible exact KEEP.out _ hB5)
    (first
     | (go_at_call 32;have _g:=hB4;refine(HPT.out _ (HO3.out.keep (bjoin hb4 hD2)) hB4.size).mono ?_;rintro e v5 ⟨u5,rfl,hO5,hg5⟩;have hB5:Below w1.heap.size w1 v5:=hB4.trans (hg5.below (HO3.out.keep (bjoin hb4 hD2)).own hB4.size))
     | (go_at_call 20;refine(HSP.out _).mono ?_;rintro e v4 ⟨rfl,hb4⟩;have hB4:Below w1.heap.size w1 v4:=bjoin hb4 hD2'))
   obtain⟨L1,hL1⟩:∃L1,L0++(⟨#[10]⟩++query++⟨#[10]⟩++PT:ByteArray).data.toList=L1:=⟨_,rfl⟩
   have hL1z:L1.length≤2097300:=by
    rw[←hL1]
    simp only[List.length_append,ByteArray.size_append,Array.length_toList,ByteArray.size_data] at *
    have e:(⟨#[10]⟩:ByteArray).size=1:=rfl
    omega
   rw[hL1] at hO5 HLE1
   have HO5:=hide hO5
   have HB5:=hide hB5
   have HTL:Hid (∀k,k≤rows.length→(L1++tailNL ((rows.take k).map (·.data.toList))).length≤4000000):=fun k hk=>by have:=HTZ.out k hk;rw[List.length_append];omega
   have HE1:Hid ((⟨(encL ⟨kind,client,tag,query,page,rows,n⟩).toArray⟩:ByteArray)=⟨(L1++tailNL (rows.map (·.data.toList))).toArray⟩):=by
    show _=_
    rw[HLE1.out,HC1.out.2.2.2]
    simp[tailNL,Lib.joinTail]
   clear hL1 hO5 hg5 hwd2 hbd2 hbd2' hD2 hD2'
   go_wp2_with fail
   go_loopg [3,4] rows.length (fun q x i wr=>∃(k:Nat) (u:Value),k≤rows.length∧q=rows.length - k∧i=.int .i64 (k:Int)∧u=x∧Buf w1.heap.size wr u (L1++tailNL ((rows.take k).map (·.data.toList)))∧Below w1.heap.size w1 wr)
   case atStart=>exact⟨0,_,zrL _,rfl,rfl,rfl,by simpa [tailNL,Lib.joinTail] using HO5.out,HB5.out⟩
   case round =>
    obtain⟨k,u,hkl,rfl,rfl,rfl,hOk,hbk⟩:=hrel
    obtain⟨f0,f1,f2,f3,f4,f5,f6,_⟩:=KEEP.out wr hbk
    have HOk:=hide hOk
    have HBk:=hide hbk
    have hwrs:=hbk.size
    clear hOk hbk
    by_cases hlt:k<rows.length
    ·have hki:(k:Int)<(rows.length:Int):=by omega
     obtain⟨a',cap',he',hcs⟩:=(At.kept kept_str HV.out (bjoin HBk.out HBW.out)).form
     injection he' with he1 _ he2
     subst he1 he2
     obtain⟨b,off,rfl,_,hbl,hcell,hsz⟩:=hcs k hlt
     rw[Nat.mul_one] at hcell
     have HTS:=hide (tail_step rows k hlt)
     have hrz:rows[k].size≤200:=HROW.out rows[k] (List.getElem_mem _)
     obtain⟨x,hx⟩:∃x,rows[k]=x:=⟨_,rfl⟩
     rw[hx] at hcell HTS hrz
     have z9:¬9223372036854775807<1+x.size:=by omega
     have HPT:=hide (fun W hO hS=>put_any w1.heap.size (L1++tailNL ((rows.take k).map (·.data.toList))) (⟨#[10]⟩++x) u W hO hS (by have:=HTL.out k hkl;simp only[List.length_append,ByteArray.size_append] at *;have e:(⟨#[10]⟩:ByteArray).size=1:=rfl;omega))
     clear hx hsz hcs
     go_wp2_with (first|(go_at_call 32;refine(HPT.out _ HOk.out hwrs).mono ?_;rintro e v5 ⟨u5,rfl,hO5,hg5⟩))
     have hB5:Below w1.heap.size w1 v5:=HBk.out.trans (hg5.below HOk.out.own hwrs)
     have HFIN:Hid (Buf w1.heap.size v5 u5 (L1++tailNL ((rows.take (k+1)).map (·.data.toList)))):=by show Buf _ _ _ _;rw[HTS.out,←List.append_assoc];simpa using hO5
     clear hO5 hg5
     go_roundg (rows.length - (k+1))
     case measure=>omega
     case rel=>exact⟨k+1,_,by omega,rfl,by go_num,rfl,HFIN.out,hB5⟩
    ·obtain rfl:k=rows.length:=by omega
     have hki:¬(rows.length:Int)<(rows.length:Int):=by omega
     have HON:Hid (Buf w1.heap.size wr u (L1++tailNL (rows.map (·.data.toList)))):=by have:=HOk.out;rw[List.take_length] at this;exact this
     have hcv:=HON.out.string
     have HFX:Hid (encB ⟨kind,client,tag,query,page,rows,n⟩=⟨(L1++tailNL (rows.map (·.data.toList))).toArray⟩):=by show _=_;rw[HX.out];exact HE1.out
     go_wp2_with fail
     go_ret
     exact⟨ret_string (by first|rw[HFX.out]|(have h:=HFX.out;rw[k1] at h;exact h.symm)),bjoin HBk.out HBW.out⟩
  ·have HTL:Hid (∀k,k≤rows.length→(L0++tailNL ((rows.take k).map (·.data.toList))).length≤4000000):=fun k hk=>by have:=HTZ.out k hk;rw[List.length_append];omega
   have HN4:Hid (kind=4→0≤n∧n≤200):=fun k4=>by
    rcases HCS.out with⟨e1,_⟩|⟨e1,_⟩|⟨_,_,_,_,e5,e6⟩|⟨e1,_⟩
    ·(try simp only at e1);omega
    ·(try simp only at e1);omega
    ·exact⟨e5,e6⟩
    ·(try simp only at e1);omega
   have HE2:Hid (kind=4→encL ⟨kind,client,tag,query,page,rows,n⟩=L0++tailNL (rows.map (·.data.toList))++(⟨#[10]⟩++decT n.toNat:ByteArray).data.toList):=fun k4=>by
    have hr:rows=[]:=by
     rcases HCS.out with⟨e1,_⟩|⟨e1,_⟩|⟨_,_,_,e4,_⟩|⟨e1,_⟩
     ·(try simp only at e1);omega
     ·(try simp only at e1);omega
     ·exact e4
     ·(try simp only at e1);omega
    rw[HLE.out,hr]
    unfold chgMore
    rw[if_neg k1,if_neg (by simp only;omega),if_pos k4]
    simp[tailNL,Lib.joinTail,decT]
   have HE3:Hid (¬kind=4→encL ⟨kind,client,tag,query,page,rows,n⟩=L0++tailNL (rows.map (·.data.toList))):=fun k4=>by
    rw[HLE.out]
    unfold chgMore
    rw[if_neg k1]
    rcases HCS.out with⟨e1,_⟩|⟨e1,_⟩|⟨e1,_⟩|⟨_,_,_,e4,_⟩
    ·exact absurd e1 k1
    ·rw[if_pos e1]
    ·exact absurd e1 k4
    ·(try simp only at e4)
     subst e4
     rw[if_neg k4]
     split <;> rfl
   obtain⟨f0,f1,f2,f3,f4,f5,f6,_⟩:=KEEP.out v3 HB3.out
   have k1b:(kind == 1)=false:=by simpa using k1
   go_wp2_with fail
   clear f0 f1 f2 f3 f4 f5 f6
   go_loopg [3,4] rows.length (fun q x i wr=>∃(k:Nat) (u:Value),k≤rows.length∧q=rows.length - k∧i=.int .i64 (k:Int)∧u=x∧Buf w1.heap.size wr u (L0++tailNL ((rows.take k).map (·.data.toList)))∧Below w1.heap.size w1 wr)
   case atStart=>exact⟨0,_,zrL _,rfl,rfl,rfl,by simpa [tailNL,Lib.joinTail] using HO3.out,HB3.out⟩
   case round =>
    obtain⟨k,u,hkl,rfl,rfl,rfl,hOk,hbk⟩:=hrel
    obtain⟨f0,f1,f2,f3,f4,f5,f6,_⟩:=KEEP.out wr hbk
    have HOk:=hide hOk
    have HBk:=hide hbk
    have hwrs:=hbk.size
    clear hOk hbk
    by_cases hlt:k<rows.length
    ·have hki:(k:Int)<(rows.length:Int):=by omega
     obtain⟨a',cap',he',hcs⟩:=(At.kept kept_str HV.out (bjoin HBk.out HBW.out)).form
     injection he' with he1 _ he2
     subst he1 he2
     obtain⟨b,off,rfl,_,hbl,hcell,hsz⟩:=hcs k hlt
     rw[Nat.mul_one] at hcell
     have HTS:=hide (tail_step rows k hlt)
     have hrz:rows[k].size≤200:=HROW.out rows[k] (List.getElem_mem _)
     obtain⟨x,hx⟩:∃x,rows[k]=x:=⟨_,rfl⟩
     rw[hx] at hcell HTS hrz
     have z9:¬9223372036854775807<1+x.size:=by omega
     have HPT:=hide (fun W hO hS=>put_any w1.heap.size (L0++tailNL ((rows.take k).map (·.data.toList))) (⟨#[10]⟩++x) u W hO hS (by have:=HTL.out k hkl;simp only[List.length_append,ByteArray.size_append] at *;have e:(⟨#[10]⟩:ByteArray).size=1:=rfl;omega))
     clear hx hsz hcs
     go_wp2_with (first|(go_at_call 32;refine(HPT.out _ HOk.out hwrs).mono ?_;rintro e v5 ⟨u5,rfl,hO5,hg5⟩))
     have hB5:Below w1.heap.size w1 v5:=HBk.out.trans (hg5.below HOk.out.own hwrs)
     have HFIN:Hid (Buf w1.heap.size v5 u5 (L0++tailNL ((rows.take (k+1)).map (·.data.toList)))):=by show Buf _ _ _ _;rw[HTS.out,←List.append_assoc];simpa using hO5
     clear hO5 hg5
     go_roundg (rows.length - (k+1))
     case measure=>omega
     case rel=>exact⟨k+1,_,by omega,rfl,by go_num,rfl,HFIN.out,hB5⟩
    ·obtain rfl:k=rows.length:=by omega
     have hki:¬(rows.length:Int)<(rows.length:Int):=by omega
     have HON:Hid (Buf w1.heap.size wr u (L0++tailNL (rows.map (·.data.toList)))):=by have:=HOk.out;rw[List.take_length] at this;exact this
     by_cases k4:kind=4
     ·have hcv4:True:=trivial
      have HSN:=hide (showI_any n (by have:=HN4.out k4;omega) (by have:=HN4.out k4;omega))
      obtain⟨NT,hNT⟩:∃NT,decT n.toNat=NT:=⟨_,rfl⟩
      have hNz:NT.size≤3:=by rw[←hNT];exact decT_size n (by have:=HN4.out k4;omega)
      rw[hNT] at HSN
      have HE4:Hid (encL ⟨kind,client,tag,query,page,rows,n⟩=L0++tailNL (rows.map (·.data.toList))++(⟨#[10]⟩++NT:ByteArray).data.toList):=by rw[←hNT];exact HE2.out k4
      clear hNT
      have z8:¬9223372036854775807<1+NT.size:=by omega
      have HPT:=hide (fun W hO hS=>put_any w1.heap.size (L0++tailNL (rows.map (·.data.toList))) (⟨#[10]⟩++NT) u W hO hS (by have:=HTL.out rows.length (leR _);rw[List.take_length] at this;simp only[List.length_append,ByteArray.size_append] at *;have e:(⟨#[10]⟩:ByteArray).size=1:=rfl;omega))
      go_wp2_with (first|(go_at_call 20;refine(HSN.out _).mono ?_;rintro e v6 ⟨rfl,hb6⟩)|(go_at_call 32;refine(HPT.out _ (HON.out.keep hb6) (Nat.le_trans hwrs hb6.size)).mono ?_;rintro e v7 ⟨u7,rfl,hO7,hg7⟩;have hB7:Below w1.heap.size w1 v7:=(bjoin hb6 HBk.out).trans (hg7.below (HON.out.keep hb6).own (Nat.le_trans hwrs hb6.size));have hcv:=hO7.string;have HFX:Hid (encB ⟨kind,client,tag,query,page,rows,n⟩=⟨(L0++tailNL (rows.map (·.data.toList))++(⟨#[10]⟩++NT:ByteArray).data.toList).toArray⟩):=(by show _=_;rw[HX.out,HE4.out])))
      go_ret
      exact⟨ret_string (by rw[HFX.out];simp),bjoin hB7 HBW.out⟩
     ·have HE1:Hid ((⟨(encL ⟨kind,client,tag,query,page,rows,n⟩).toArray⟩:ByteArray)=⟨(L0++tailNL (rows.map (·.data.toList))).toArray⟩):=by show _=_;rw[HE3.out k4]
      have hcv:=HON.out.string
      have HFX:Hid (encB ⟨kind,client,tag,query,page,rows,n⟩=⟨(L0++tailNL (rows.map (·.data.toList))).toArray⟩):=by show _=_;rw[HX.out];exact HE1.out
      go_wp2_with fail
      go_ret
      exact⟨ret_string (by first|rw[HFX.out]|(have h:=HFX.out;rw[k1] at h;exact h.symm)),bjoin HBk.out HBW.out⟩
end Go.Proofs.YtglcdcekkglmiaaGreatDoor.Msg
