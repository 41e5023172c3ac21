import Derived.Test.YtglcdcekkglmiaaGreatDoorG7
namespace Go.Proofs.YtglcdcekkglmiaaGreatDoor.Msg
open Go.ChangeShapes Go.WideShapes Go.ChangeAt Go.RowKit Go.Shelf
set_option linter.unusedVariables false
set_option linter.unusedSimpArgs false
attribute [local go_sem] Oper.semAt_some
set_option maxRecDepth 100000 in
set_option maxHeartbeats 4000000 in
theorem record_any (s:ByteArray) (w:World) (hs:s.size≤1048576) :
  Calls Tryz.prog 40 #[.string s] w fun e w'=>e=.returned (.string (recB s))∧Below w.heap.size w w':=by
 refine(callsIn_wide (n:=6)).1 ?_
 obtain⟨i0,hi,hz0,hz1,hz2⟩:=u8_facts
 by_cases hbig:(60000:Int)<(s.size:Int)
 ·have HX:Hid (recB s=⟨#[]⟩):=by unfold recB;rw[if_neg (by omega)];exact rfl
  refine callsIn_of_wp_marks Tryz.func40 rfl trivial ?_ rfl
  simp only[Tryz.ntmps40,List.size_toArray,List.length_cons,List.length_nil,Nat.reduceAdd,Nat.reduceSub,Array.replicate_succ,Array.replicate_zero,List.push_toArray,List.append_toArray,List.nil_append,List.cons_append]
  gi_wp2_with fail
  exact⟨_,results_tmp rfl _ _ _,by rw[HX.out];rfl,Below.refl _ _⟩
 ·have HX:Hid (recB s=⟨(recL s.data.toList).toArray⟩):=by unfold recB;rw[if_pos (by omega)];exact rfl
  have hsl:s.data.toList.length=s.size:=by simp
  obtain⟨B,hB⟩:∃B,bodyL s.data.toList=B:=⟨_,rfl⟩
  have hBl:B.length=s.size+3:=by rw[←hB,bodyL_length,hsl]
  obtain⟨m,hm⟩:∃m,sectN s.size=m:=⟨_,rfl⟩
  have HM:Hid ((B.length+30) / 31=m):=by show _=_;rw[hBl,←hm];unfold sectN;omega
  have hm6:m≤2000:=by rw[←hm];unfold sectN;omega
  have HRL:Hid (recL s.data.toList=recP B (List.range m)):=by rw[recL_eq,hsl,hm,hB];exact rfl
  have HBB:=hide hB
  have HRS:=hide (fun W=>recordSize_any s.size W (by omega))
  rw[hm] at HRS
  obtain⟨M,hM⟩:∃M,32 * m=M:=⟨_,rfl⟩
  rw[hM] at HRS
  have hM6:M≤64000:=by omega
  have hmk:Sem.run Tryz.prog (Instr.makeSlice 22 (.int .i64 0) (.int .i64 (M:Int))) w=.ok (.slice (some ⟨w.heap.size,0,none⟩) 0 M) (w.alloc (.cells (madeCells #[.int .u8 0] (M * 1)) 5)):=by
   have:=run_make (P:=Tryz.prog) (w:=w) 22 5 i0 (.int .u8 0) Tryz.underlying22 hi hz0 .i64 .i64 0 (M:Int) (by omega) (by omega) (by rw[hz2];omega) (by omega)
   rw[hz1] at this
   have e:(Value.int IntKind.u8 0).cells=#[.int .u8 0]:=rfl
   rw[e] at this
   simpa using this
  have HG0:Hid (Buf w.heap.size (w.alloc (.cells (madeCells #[.int .u8 0] (M * 1)) 5)) (.slice (some ⟨w.heap.size,0,none⟩) 0 M) []):=World.ownsRow_made w _ M (leR _) (by unfold maxLen;omega) (size_madeCells _ _)
  obtain⟨w1,hw1⟩:∃w1,w.alloc (.cells (madeCells #[.int .u8 0] (M * 1)) 5)=w1:=⟨_,rfl⟩
  rw[hw1] at hmk HG0
  have sz1:w1.heap.size=w.heap.size+1:=by rw[←hw1];simp
  have bel1:Below w.heap.size w w1:=by rw[←hw1];exact alcB _ _
  have HSZ1:=hide sz1
  have HBEL1:=hide bel1
  obtain⟨w2,hw2⟩:∃w2,w1.alloc (.cells #[.slice (some ⟨w.heap.size,0,none⟩) 0 M] 22)=w2:=⟨_,rfl⟩
  obtain⟨w3,hw3⟩:∃w3,w2.alloc (.cells #[.int .u8 65] 5)=w3:=⟨_,rfl⟩
  have sz2:w2.heap.size=w1.heap.size+1:=by rw[←hw2];simp
  have sz3:w3.heap.size=w1.heap.size+1+1:=by rw[←hw3,←sz2];simp
  have bel12:Below w1.heap.size w1 w2:=by rw[←hw2];exact alcB _ _
  have bel23:Below w2.heap.size w2 w3:=by rw[←hw3];exact alcB _ _
  have HBR:Hid (Boxed w3 w1.heap.size 22 (.slice (some ⟨w.heap.size,0,none⟩) 0 M)):=by
   rw[←hw3,←hw2];exact(Boxed.new w1 _ _).alloc _
  have HBM:Hid (Boxed w3 w2.heap.size 5 (.int .u8 65)):=by
   rw[←hw3];exact Boxed.new w2 _ _
  have HSZ2:=hide sz2
  have HBEL3:=hide (bj bel23 (bj bel12 bel1))
  have HG3:=hide ((HG0.out.keep bel12).keep bel23)
  have HSZ3:=hide sz3
  obtain⟨n,hn⟩:∃n,B.length=n:=⟨_,rfl⟩
  have HN:=hide hn
  have hn6:n≤60003:=by omega
  have hn0:0<n:=by omega
  rw[hn] at HM
  clear hBl hn hw1 sz1 bel1 hB hm hM hsl sz2 sz3 bel12 bel23
  refine callsIn_of_wp_marks Tryz.func40 rfl trivial ?_ rfl
  simp only[Tryz.ntmps40,List.size_toArray,List.length_cons,List.length_nil,Nat.reduceAdd,Nat.reduceSub,Array.replicate_succ,Array.replicate_zero,List.push_toArray,List.append_toArray,List.nil_append,List.cons_append]
  gi_wp2_with fail
  refine⟨trivial,?_⟩
  refine(callsIn_wide.2 (HRS.out _)).mono ?_
  rintro e W ⟨rfl,rfl⟩
  gi_wp2_with fail
  refine⟨trivial,?_⟩
  refine(callsIn_wide.2 (withSize_any s _ (by omega))).mono ?_
  rintro e W4 ⟨u4,rfl,hO4,hb4⟩
  rw[HBB.out] at hO4
  obtain⟨b,c4,rfl,hc4,hcm4,hb3,hbl4,hcell4⟩:=hO4.cells (by rw[HN.out];exact hn0)
  rw[HN.out] at hO4 hc4
  rw[HN.out]
  have HC4:=hide hcell4
  rw[HN.out] at HC4
  clear hcell4
  gi_wp2_with fail
  refine⟨trivial,?_⟩
  refine(chunk_in (some ⟨b,0,none⟩) n c4 _ _).mono ?_
  rintro e W5 ⟨rfl,hW5⟩
  have hBS:W5.heap[W4.heap.size]?=some (.cells #[.slice (some ⟨b,0,none⟩) n c4] 22 (0,0)):=by rw[hW5];exact(Boxed.new W4 22 (.slice (some ⟨b,0,none⟩) n c4)).alloc _
  have hBN:W5.heap[W4.heap.size+1]?=some (.cells #[.int .i64 31] 3 (0,0)):=by
   rw[hW5]
   have:=Boxed.new (W4.alloc (.cells #[.slice (some ⟨b,0,none⟩) n c4] 22)) 3 (.int .i64 31)
   rw[World.size_alloc] at this
   exact this
  have sz5:W5.heap.size=W4.heap.size+1+1:=by rw[hW5];simp
  have bel45:Below W4.heap.size W4 W5:=by rw[hW5];exact(alcB _ _).alloc (by simp) _
  have bel35:Below w3.heap.size w3 W5:=bj bel45 hb4
  have PL:RPlaces W W5 W.heap.size w1.heap.size w2.heap.size:=⟨leR _,by rw[HSZ1.out];omega,by rw[HSZ2.out];omega,by have:=bel35.size;rw[HSZ3.out] at this;rw[HSZ2.out];omega⟩
  have I0:RecV W W5 W.heap.size w1.heap.size w2.heap.size 65 [] W5 (.slice (some ⟨W.heap.size,0,none⟩) 0 M) :=
   ⟨(bel35.block _ (by rw[HSZ3.out];omega)).trans HBR.out,HG3.out.keep bel35,.inl rfl,(bel35.block _ (by rw[HSZ3.out,HSZ2.out];omega)).trans HBM.out,fun _ _ _ _ _=>rfl,leR _,bj bel35 HBEL3.out⟩
  have HCB:Hid (∀j,j<n→W5.cell? ⟨b,j,none⟩=some (.int .u8 ((B.getD j 0).toNat:Int))):=fun j hj=>(bel45.cell (p:=⟨b,j,none⟩) hbl4).trans (HC4.out j hj)
  have hbW5:b<W5.heap.size:=by omega
  have hbne:b≠W.heap.size∧b≠w1.heap.size∧b≠w2.heap.size:=by
   have h1:=HSZ1.out;have h2:=HSZ2.out;have h3:=HSZ3.out
   omega
  have HI0:=hide I0
  have HPL:=hide PL
  have HBS:=hide hBS
  have HBN:=hide hBN
  have HSZ5:=hide sz5
  have HNE:=hide hbne
  have HGE:Hid (W4.heap.size≠W.heap.size∧W4.heap.size≠w1.heap.size∧W4.heap.size≠w2.heap.size∧W4.heap.size+1≠W.heap.size∧W4.heap.size+1≠w1.heap.size∧W4.heap.size+1≠w2.heap.size):=by
   have h1:=HSZ1.out;have h2:=HSZ2.out;have h3:=HSZ3.out
   show _∧_
   omega
  clear hW5 hBS hBN sz5 bel45 bel35 PL I0 hO4 hb4 hbne
  gi_wp2_with fail
  refine wpIn_rangeFunc_ownF (α:=Nat) rfl (by omega) (gf:=95) (lb:=#[.pointer (some ⟨W4.heap.size,0,none⟩),.pointer (some ⟨W4.heap.size+1,0,none⟩)]) rfl trivial (enters_of Tryz.func95 (by kernel_rfl) rfl)
   (encs:=fun j=>#[chunkV b n j]) (Kp:=ChunkKp W4.heap.size (W4.heap.size+1)) (S:=fun ys=>ys=List.range m) (Sp:=fun pre=>∃k,k≤m∧pre=List.range k) (N:=m) (w0:=W5) ?seq ?kt ?kb (Below.refl _ _) (fun _=>rfl)
   (fun pre X=>∃v,RecV W W5 W.heap.size w1.heap.size w2.heap.size (if (recP B pre).length=0 then 65 else 66) (recP B pre) X v)
   (fun _ _ _=>False) ?hI (fun _ _ _ _ _ hs _ _=>hs) ⟨_,HI0.out⟩
   (fun x=>{ tmps:=#[Value.string s,undef,Value.string { data:=#[] },Value.pointer (some { block:=w1.heap.size,off:=0 }),
      Value.pointer (some { block:=w2.heap.size,off:=0 }),chunkV b n x,Value.string s,
      Value.int IntKind.i64 (s.size:Int),Value.bool false,Value.string s,Value.int IntKind.i64 (s.size:Int),
      Value.int IntKind.i64 (M:Int),Value.slice (some { block:=W.heap.size,off:=0 }) 0 M,Value.string s,
      Value.slice (some { block:=b,off:=0 }) n c4,
      Value.func (Fn.func 95) #[]
       #[Value.pointer (some { block:=W4.heap.size,off:=0 }),
        Value.pointer (some { block:=W4.heap.size+1,off:=0 })],
      chunkV b n x,undef,undef,undef,undef,undef,undef,undef,undef,undef,undef,undef,undef,undef,undef],defers:=[] }) ?assign ?body ?done ?stop
  case seq =>
   intro l J Jx X hX hJ hJx hY h0
   have:=chunk1_in 5 l W4.heap.size (W4.heap.size+1) b n c4 (by omega) (by omega) hc4 hcm4 J Jx X hJ (by rw[HM.out];exact hY)
    ((hX.block _ (by rw[HSZ5.out];omega)).trans HBS.out) ((hX.block _ (by rw[HSZ5.out];omega)).trans HBN.out) h0
   rw[HM.out] at this
   exact this
  case kt =>
   intro A C D h1 h2
   exact⟨h2.1.trans h1.1,h2.2.trans h1.2⟩
  case kb =>
   intro X l o o' hl _ _ _
   exact⟨World.putObj_heap_other (by rw[HSZ5.out] at hl;omega),World.putObj_heap_other (by rw[HSZ5.out] at hl;omega)⟩
  case hI =>
   intro pre X X' row hx hg hr
   obtain⟨v,hv⟩:=hx
   exact⟨v,hv.turned HPL.out hg hr⟩
  case assign =>
   intro l x X K hK
   gi_wp2
   exact hK
  case body =>
   rintro l pre x X ⟨v,hv⟩ hlt
   have hlenP:(recP B pre).length≤64000:=by rw[recP_length];omega
   obtain⟨acc,hacc⟩:∃acc,recP B pre=acc:=⟨_,rfl⟩
   have HSN:Hid (recP B (pre++[x])=acc++chunkL B x++List.replicate (31 - (chunkL B x).length) 0++[if acc.length=0 then 65 else 66]):=by rw[recP_snoc,hacc];exact rfl
   rw[hacc] at hv hlenP
   obtain⟨c,hc1,hc2⟩:∃c:UInt8,(if acc.length=0 then (65:Int) else 66)=(c.toNat:Int)∧(if acc.length=0 then (65:UInt8) else 66)=c:=by
    by_cases h:acc.length=0
    ·exact⟨65,by rw[if_pos h];rfl,by rw[if_pos h]⟩
    ·exact⟨66,by rw[if_neg h];rfl,by rw[if_neg h]⟩
   rw[hc1] at hv
   rw[hc2] at HSN
   obtain⟨cs,hcs⟩:∃cs,chunkL B x=cs:=⟨_,rfl⟩
   rw[hcs] at HSN
   obtain⟨q,hq⟩:∃q,min 31 (n - 31 * x)=q:=⟨_,rfl⟩
   have hcl:cs.length=q:=by rw[←hcs,chunkL_length,HN.out];exact hq
   have hq31:q≤31:=by omega
   have hcV:chunkV b n x=.slice (some ⟨b,31 * x,none⟩) q q:=by unfold chunkV;rw[hq]
   obtain⟨z,hz⟩:∃z,31 - q=z:=⟨_,rfl⟩
   have hzi:(31:Int) - (q:Int)=(z:Int):=by omega
   have hz31:z≤31:=by omega
   rw[hcl,hz] at HSN
   have hXb:X.heap[b]?=W5.heap[b]?:=hv.old b hbW5 HNE.out.1 HNE.out.2.1 HNE.out.2.2
   have hcells:∀j,j<cs.length→X.cell? ⟨b,31 * x+j,none⟩=some (.int .u8 ((cs.getD j 0).toNat:Int)):=fun j hj=>by
    have e1:X.cell? ⟨b,31 * x+j,none⟩=W5.cell? ⟨b,31 * x+j,none⟩:=by simp only[World.cell?,hXb]
    have hjn:31 * x+j<n:=by rw[hcl] at hj;omega
    rw[e1,HCB.out _ hjn,←hcs]
    have e2:(chunkL B x).getD j 0=B.getD (31 * x+j) 0:=by
     rw[hcl] at hj
     simp only[chunkL,List.getD_eq_getElem?_getD,List.getElem?_take,List.getElem?_drop]
     rw[if_pos (by omega)]
    rw[e2]
   have hbX:=hv.below.size
   obtain⟨v1,x1,hr1,hb1,hg1,ha1⟩:=hv.buf.run_bytes 22 hbX b (31 * x) q hcells (by omega)
   rw[hcl] at hr1
   obtain⟨k1,hv2,ko1⟩:=hv.append HPL.out hb1 hg1 ha1
   obtain⟨g1,c1,hform1,_,_⟩:=hb1.form
   obtain⟨L1,hL1⟩:∃L1,(acc++cs).length=L1:=⟨_,rfl⟩
   rw[hL1] at hform1
   subst hform1
   obtain⟨X2,hX2⟩:∃X2,x1.setCell ⟨w1.heap.size,0,none⟩ (.slice g1 L1 c1)=X2:=⟨_,rfl⟩
   rw[hX2] at hv2 ko1
   have hL1b:L1≤64031:=by rw[←hL1,List.length_append];omega
   obtain⟨v2,x3,hr2,hb2,hg2,ha2⟩:=hv2.buf.run_zeros 22 hv2.below.size z (by rw[hL1];omega)
   obtain⟨k2,hv4,ko2⟩:=hv2.append HPL.out hb2 hg2 ha2
   obtain⟨g2,c2,hform2,_,_⟩:=hb2.form
   obtain⟨L2,hL2⟩:∃L2,(acc++cs++List.replicate z 0).length=L2:=⟨_,rfl⟩
   have hL2b:L2≤64062:=by rw[←hL2,List.length_append,List.length_replicate,hL1];omega
   rw[hL2] at hform2
   subst hform2
   obtain⟨X4,hX4⟩:∃X4,x3.setCell ⟨w1.heap.size,0,none⟩ (.slice g2 L2 c2)=X4:=⟨_,rfl⟩
   rw[hX4] at hv4 ko2
   have hv5:=hv4.alloc (.cells #[.int .u8 (c.toNat:Int)] 5)
   have ko3:=KeepsOthers.alloc X4 (.cells #[.int .u8 (c.toNat:Int)] 5)
   have hnew:(X4.alloc (.cells #[.int .u8 (c.toNat:Int)] 5)).cell? ⟨X4.heap.size,0,none⟩=some (.int .u8 (c.toNat:Int)):=by simp
   obtain⟨X5,hX5⟩:∃X5,X4.alloc (.cells #[.int .u8 (c.toNat:Int)] 5)=X5:=⟨_,rfl⟩
   rw[hX5] at hv5 ko3 hnew
   obtain⟨v3,x6,hr3,hb3',hg3,ha3⟩:=hv5.buf.run_bytes (cs:=[c]) 22 hv5.below.size X4.heap.size 0 1 (fun j hj=>by
    obtain rfl:j=0:=by simp at hj;exact hj
    exact hnew) (by rw[hL2];simp;omega)
   obtain⟨k3,hv7,ko4⟩:=hv5.append HPL.out hb3' hg3 ha3
   obtain⟨g3,c3,hform3,_,_⟩:=hb3'.form
   obtain⟨L3,hL3⟩:∃L3,(acc++cs++List.replicate z 0++[c]).length=L3:=⟨_,rfl⟩
   rw[hL3] at hform3
   subst hform3
   obtain⟨X7,hX7⟩:∃X7,x6.setCell ⟨w1.heap.size,0,none⟩ (.slice g3 L3 c3)=X7:=⟨_,rfl⟩
   rw[hX7] at hv7 ko4
   have hv8:=hv7.marked HPL.out 66
   have ko5:=KeepsOthers.setCell X7 ⟨w2.heap.size,0,none⟩ (.int .u8 66)
   obtain⟨X8,hX8⟩:∃X8,X7.setCell ⟨w2.heap.size,0,none⟩ (.int .u8 66)=X8:=⟨_,rfl⟩
   rw[hX8] at hv8 ko5
   have HFIN:Hid (KeepsOthers X X8∧ChunkKp W4.heap.size (W4.heap.size+1) X X8∧∃v,RecV W W5 W.heap.size w1.heap.size w2.heap.size (if (recP B (pre++[x])).length=0 then 65 else 66) (recP B (pre++[x])) X8 v):=by
    have hge:=HGE.out
    have h5:=HSZ5.out
    refine⟨(((ko1.trans ko2).trans ko3).trans ko4).trans ko5,⟨?_,?_⟩,⟨.slice g3 L3 c3,?_⟩⟩
    ·exact(hv8.old _ (by omega) hge.1 hge.2.1 hge.2.2.1).trans (hv.old _ (by omega) hge.1 hge.2.1 hge.2.2.1).symm
    ·exact(hv8.old _ (by omega) hge.2.2.2.1 hge.2.2.2.2.1 hge.2.2.2.2.2).trans (hv.old _ (by omega) hge.2.2.2.1 hge.2.2.2.2.1 hge.2.2.2.2.2).symm
    ·rw[HSN.out,if_neg (by simp)]
     exact hv8
   have cb0:=hv.box.cell
   have cb1:=k1.cell
   have cf1:=k1.frozen
   have cb2:=hv2.box.cell
   have cb3:=k2.cell
   have cf3:=k2.frozen
   have cb4:=hv4.box.cell
   have cm4:=hv4.mark.cell
   have cb6:=k3.cell
   have cf6:=k3.frozen
   have cm7:=hv7.mark.cell
   have cf7:=hv7.mark.frozen
   obtain⟨aV,cV,hformV,_,_⟩:=hv.buf.form
   obtain⟨L0,hL0⟩:∃L0,acc.length=L0:=⟨_,rfl⟩
   rw[hL0] at hformV
   subst hformV
   rw[hcV]
   have HR1:=hide hr1
   have HR2:=hide hr2
   have HR3:=hide hr3
   clear hr1 hr2 hr3 hv hv2 hv4 hv5 hv7 hv8 ko1 ko2 ko3 ko4 ko5 hb1 hb2 hb3' hg1 hg2 hg3 ha1 ha2 ha3 k1 k2 k3 hcells hXb hcV hc1 hc2 hcs hq hz hacc hcl hL0 hL1 hL2 hL3 hnew
   gi_wp2_with (first
    | (gi_at_builtin;refine wpListIn_apd rfl _ _ _ _ rfl rfl rfl HR1.out ?_)
    | (gi_at_builtin;refine wpListIn_apd rfl _ _ _ _ rfl rfl rfl HR2.out ?_)
    | (gi_at_builtin;refine wpListIn_apd rfl _ _ _ _ rfl rfl rfl HR3.out ?_)
    | fail)
   exact HFIN.out
  case done =>
   rintro D ys X hD rfl ⟨v,hv⟩ hK
   have hstr:=hv.buf.string
   rw[←HRL.out,←HX.out] at hstr
   have hc:=hv.box.cell
   obtain⟨aV,cV,hformV,_,_⟩:=hv.buf.form
   obtain⟨L0,hL0⟩:∃L0,(recP B (List.range m)).length=L0:=⟨_,rfl⟩
   rw[hL0] at hformV
   subst hformV
   have HBE:=hide hv.below
   clear hv hL0
   gi_wp2_with fail
   refine⟨by simp,.inl ⟨_,_,rfl,run_takeDeferred hK,?_⟩⟩
   exact⟨_,results_tmp rfl _ _ _,rfl,HBE.out.trans (belowK_b (w:=W) (leR _) X D _ _ (by have:=HPL.out;have:=this.a;have:=HPL.out.b;have:=HPL.out.c;have:=HPL.out.d;omega) hK rfl rfl)⟩
  case stop =>
   rintro D c pre X _ _ h _
   exact h.elim
end Go.Proofs.YtglcdcekkglmiaaGreatDoor.Msg
