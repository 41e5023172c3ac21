import Derived.Test.YtglcdcekkglmiaaGreatDoorG13
import Derived.Test.YtglcdcekkglmiaaGreatDoorG19
import Derived.Deep.RegionHeld3
import Derived.Maps.AppendAt
namespace Go.Proofs.YtglcdcekkglmiaaGreatDoor.Msg
open Go.ChangeShapes Go.WideShapes Go.ChangeAt Go.RowKit
set_option linter.unusedVariables false
set_option linter.unusedSimpArgs false
def TabW (w:World):Prop:=Lib.TabIs Tryz.prog w "internal/strconv.uint64pow10" .u64 Lib.pow10Tab
theorem TabW.kept {w w':World} (h:TabW w) (hb:Below w.heap.size w w'):TabW w':=tab_kept hb h
theorem itoaI_any (n:Int) (h0:0≤n) (h1:n≤9223372036854775807) (w:World) (hT:TabW w) :
  Calls Tryz.prog 35 #[.int .i64 n] w fun e w'=>e=.returned (.string (decT n.toNat))∧Below w.heap.size w w':=by
 refine(Tryz.strconv_Itoa n (by omega) h1 w hT).mono fun e w' ⟨h,k,os,h2⟩=>⟨?_,by subst h2;exact Lib.below_grow _ _ (leR _) _ _⟩
 rw[h]
 unfold Lib.itoa decT
 rw[if_neg (by omega)]
theorem decT_data (u:Nat):(decT u).data.toList=Lib.decDigits u:=by simp[decT]
theorem join_buf {base:Nat} {w:World} {u:Value} {ps:List ByteArray} (h:SBuf base w u ps) (h0:0<ps.length) (hn:ps.length≤1000000) (hl:(Lib.join (ps.map (·.data.toList)) [10]).length≤100000000) :
  Calls Tryz.prog 36 #[u,.string ⟨#[10]⟩] w fun e w'=>e=.returned (.string ⟨(Lib.join (ps.map (·.data.toList)) [10]).toArray⟩)∧Below w.heap.size w w':=by
 have h':w.ownsRow base 9 1 u (ps.map Value.string).length (ps.map Value.string):=by rw[List.length_map];exact h
 have hcap:∃g cap,u=.slice (some ⟨g,0,none⟩) ps.length cap∧ps.length≤cap∧g<w.heap.size∧∀(j:Nat) x,ps[j]?=some x→w.cell? ⟨g,0+j,none⟩=some (.string x):=by
  rcases own_cells h' with⟨e,_⟩|⟨g,cap,rfl,hg,hlt,hc⟩
  ·have:=List.map_eq_nil_iff.1 e;rw[this] at h0;simp at h0
  ·refine⟨g,cap,by rw[List.length_map],?_,hlt,fun j x hx=>?_⟩
   ·obtain⟨_,⟨e,_⟩|⟨g',cap',cur,e,_,_,hcp,_⟩⟩:=h
    ·cases e
    ·injection e with _ _ e;subst e;exact hcp
   ·have hj:j<ps.length:=by
     by_cases hj:j<ps.length
     ·exact hj
     ·rw[List.getElem?_eq_none (by omega)] at hx;cases hx
    rw[List.getElem?_eq_getElem hj] at hx
    injection hx with hx
    have:=(hc j (by rw[List.length_map];exact hj)).1
    rw[Nat.zero_add,this]
    simp[hx]
 obtain⟨g,cap,rfl,hcp,hlt,hc⟩:=hcap
 exact Tryz.strings_Join g 0 cap ps ⟨#[10]⟩ w hc hlt (by omega) hcp (by show (Lib.join _ [10]).length≤_;omega)
theorem appendNone (w:World) (ty:TypeId) (b:Addr) (n cap c:Nat) (h:n≤cap):(Builtin.append_ #[26,26] ty #[.slice (some b) n cap,.slice none 0 c]).run Tryz.prog w=.ok (.slice (some b) n cap) w:=by
 obtain⟨i0,hi,hz0,hz1,hz2⟩:=str_facts
 simp[Builtin.append_,run_underlying Tryz.underlying26,sizeOf,typeInfo,hi,hz1,Builtin.lenOf,run_firstCells_none,h,storeCells]
theorem SBuf.lit3 (base:Nat) (w:World) (x y z:ByteArray) (h:base≤w.heap.size):SBuf base (w.alloc (.cells #[.string x,.string y,.string z] 9)) (.slice (some ⟨w.heap.size,0,none⟩) 3 3) [x,y,z] :=
 World.ownsRow_lit (base:=base) (e:=9) (size:=1) w #[.string x,.string y,.string z] 3 h (by unfold maxLen;omega) rfl
theorem step_append_run {ops:Array Oper} {o:Oper} {a:Act} {K:Act→World→Prop} {Q:Exit→Act→World→Prop} {E:Prop} {w w':World} {v y v':Value} (hgd:o.guard=none) (s x:Operand) (t:TypeId)
  (ho:o.op=.call { callee:=.builtin .append,args:=#[s,x],argTypes:=#[t,t] }) (hr:(Builtin.append_ #[t,t] o.type #[v,y]).run Tryz.prog w=.ok v' w') (hs:a.eval s=v) (hx:a.eval x=y) (h:K (a.put o.dst v') w') :
  if Region.wanted o (yielded ops a.tmps)=true then Oper.wp Tryz.prog o a w K Q else E:=by
 have hw:Region.wanted o (yielded ops a.tmps)=true:=by simp[Region.wanted,hgd]
 rw[if_pos hw]
 unfold Oper.wp execOp
 simp only[ho,resolve,invoke,builtin,Sem.run_bind,Sem.run_pure,Result.andThen_ok,List.map_toArray,List.map_cons,List.map_nil,hs,hx,hr]
 exact h
theorem wpList_append_run {ops:Array Oper} {rest:List Oper} {o:Oper} {a:Act} {Q:Exit→Act→World→Prop} {w w':World} {v y v':Value} (hgd:o.guard=none) (s x:Operand) (t:TypeId)
  (ho:o.op=.call { callee:=.builtin .append,args:=#[s,x],argTypes:=#[t,t] }) (hr:(Builtin.append_ #[t,t] o.type #[v,y]).run Tryz.prog w=.ok v' w') (hs:a.eval s=v) (hx:a.eval x=y) (h:wpList Tryz.prog ops Q rest (a.put o.dst v') w') :
  wpList Tryz.prog ops Q (o :: rest) a w:=by
 refine wpList_plain hgd fun K hK=>?_
 unfold Oper.wp execOp
 simp only[ho,resolve,invoke,builtin,Sem.run_bind,Sem.run_pure,Result.andThen_ok,List.map_toArray,List.map_cons,List.map_nil,hs,hx,hr]
 exact hK _ _ h
theorem cells2 (w:World) (x y:ByteArray):∀j z,[x,y][j]?=some z→(w.alloc (.cells #[.string x,.string y] 9)).cell? ((⟨w.heap.size,0,none⟩:Addr).add j)=some (.string z):=by
 intro j z hz
 match j with
 | 0=>simp at hz;subst hz;simp[Addr.add]
 | 1=>simp at hz;subst hz;simp[Addr.add]
 | j+2=>simp at hz
theorem cells1 (w:World) (x:ByteArray):∀j z,[x][j]?=some z→(w.alloc (.cells #[.string x] 9)).cell? ((⟨w.heap.size,0,none⟩:Addr).add j)=some (.string z):=by
 intro j z hz
 match j with
 | 0=>simp at hz;subst hz;simp[Addr.add]
 | j+1=>simp at hz
theorem SBuf.keep {base:Nat} {w w':World} {v:Value} {xs:List ByteArray} (h:SBuf base w v xs) (hb:Below w.heap.size w w'):SBuf base w' v xs:=by
 unfold SBuf at *
 obtain⟨h0,⟨rfl,h1⟩|⟨g,cap,cur,rfl,hg,hh,rest⟩⟩:=h
 ·exact⟨h0,.inl ⟨rfl,h1⟩⟩
 ·exact⟨h0,.inr ⟨g,cap,cur,rfl,hg,by rw[hb.block g (by rw[Array.getElem?_eq_some_iff] at hh;exact hh.1)];exact hh,rest⟩⟩
set_option maxRecDepth 100000 in
theorem appendS {base:Nat} {w:World} {v:Value} {xs:List ByteArray} (h:SBuf base w v xs) (ty:TypeId) (ad:Addr) (c:Nat) (ys:List ByteArray) (hy:∀j x,ys[j]?=some x→w.cell? (ad.add j)=some (.string x)) (hl:xs.length+ys.length≤1000000) (hb:base≤w.heap.size) :
  ∃v' w',(Builtin.append_ #[26,26] ty #[v,.slice (some ad) ys.length c]).run Tryz.prog w=.ok v' w'∧SBuf base w' v' (xs++ys)∧Below base w w':=by
 obtain⟨i0,hi,hz0,hz1,hz2⟩:=str_facts
 obtain⟨v',w',hr,ho,hg,_,_⟩:=run_append_own_at (P:=Tryz.prog) (w:=w) base 26 ty 9 i0 (.string ByteArray.empty) 1 16 Tryz.underlying26 hi hz0 hz1 hz2 rfl (by decide) v xs.length (xs.map Value.string) h ad ys.length c (ys.map Value.string) (by simp) (fun j u hu=>by
  rw[List.getElem?_map] at hu
  cases hj:ys[j]? with
  | none=>rw[hj] at hu;cases hu
  | some x=>rw[hj] at hu;injection hu with hu;rw[←hu];exact hy j x hj) (fun u hu=>by
  obtain⟨x,_,rfl⟩:=List.mem_map.1 hu
  rfl) (by unfold maxLen;omega) (by omega) hb
 refine⟨v',w',hr,by unfold SBuf;simpa using ho,⟨hg.os,hg.tape,hg.output,hg.size,fun k hk=>hg.block k (by omega) ?_⟩⟩
 intro e
 obtain⟨_,⟨rfl,_⟩|⟨g,cap,cur,rfl,hgb,_⟩⟩:=h
 ·simp[Value.ownBlock] at e
 ·simp[Value.ownBlock] at e;omega
set_option maxRecDepth 100000 in
set_option maxHeartbeats 8000000 in
theorem encI_any (c:Chg) (v:Value) (w:World) {lo:Nat} (h2:c.tag.size≤1048576) (h3:c.query.size≤1048576) (hv:StrsAt lo w v c.rows) (hT:TabW w) :
  Calls Tryz.prog 10 #[chgV c v] w fun e w'=>e=.returned (.string (encB c))∧Below w.heap.size w w':=by
 have HOK:=hide (fun W hW=>isChange_any c v W (lo:=lo) (by omega) (by omega) (At.kept kept_str hv (w':=W) hW))
 obtain⟨kind,client,tag,query,page,rows,n⟩:=c
 simp only at h2 h3 hv
 have hl:=hv.1
 obtain⟨a,cap,hf,_⟩:=hv.form
 subst hf
 obtain⟨w1,hw1⟩:∃w1,w.alloc (Obj.cells #[.int .i64 kind,.int .i64 client,.string tag,.string query,.int .i64 page,.slice a rows.length cap,.int .i64 n] 28)=w1:=⟨_,rfl⟩
 have bw1:Below w.heap.size w w1:=by rw[←hw1];exact alcB _ _
 have sw1:w1.heap.size=w.heap.size+1:=by rw[←hw1];simp
 have KEEP:Hid (∀X,Below w1.heap.size w1 X→X.cell? ⟨w.heap.size,0,none⟩=some (.int .i64 kind)∧X.cell? ⟨w.heap.size,1,none⟩=some (.int .i64 client)∧X.cell? ⟨w.heap.size,2,none⟩=some (.string tag)∧X.cell? ⟨w.heap.size,3,none⟩=some (.string query)∧X.cell? ⟨w.heap.size,4,none⟩=some (.int .i64 page)∧X.cell? ⟨w.heap.size,5,none⟩=some (.slice a rows.length cap)∧X.cell? ⟨w.heap.size,6,none⟩=some (.int .i64 n)∧Below w1.heap.size w1 X):=fun X h =>
  ⟨(h.cell (p:=⟨w.heap.size,0,none⟩) (by rw[sw1];simp)).trans (by rw[←hw1];simp),(h.cell (p:=⟨w.heap.size,1,none⟩) (by rw[sw1];simp)).trans (by rw[←hw1];simp),(h.cell (p:=⟨w.heap.size,2,none⟩) (by rw[sw1];simp)).trans (by rw[←hw1];simp),(h.cell (p:=⟨w.heap.size,3,none⟩) (by rw[sw1];simp)).trans (by rw[←hw1];simp),(h.cell (p:=⟨w.heap.size,4,none⟩) (by rw[sw1];simp)).trans (by rw[←hw1];simp),(h.cell (p:=⟨w.heap.size,5,none⟩) (by rw[sw1];simp)).trans (by rw[←hw1];simp),(h.cell (p:=⟨w.heap.size,6,none⟩) (by rw[sw1];simp)).trans (by rw[←hw1];simp),h⟩
 have HOK1:=hide (HOK.out w1 bw1)
 have HBW:=hide bw1
 have HV:=hide hv
 have HW1:=hide hw1
 have HT1:=hide (hT.kept bw1)
 clear HOK hv bw1 sw1 hw1 hT
 cases hk:chgB ⟨kind,client,tag,query,page,rows,n⟩
 ·have HX:Hid (encB ⟨kind,client,tag,query,page,rows,n⟩=⟨#[]⟩):=by unfold encB;rw[hk];exact rfl
  rw[hk] at HOK1
  show Calls Tryz.prog 10 #[.agg #[.int .i64 kind,.int .i64 client,.string tag,.string query,.int .i64 page,.slice a rows.length cap,.int .i64 n]] w _
  go_enter Tryz.func10,Tryz.ntmps10
  go_wp2_with fail
  rw[HW1.out]
  refine HOK1.out.mono ?_
  rintro e W0 ⟨rfl,hb0⟩
  go_wp2_with fail
  go_ret
  exact⟨ret_string HX.out.symm,bjoin hb0 HBW.out⟩
 have HX:Hid (encB ⟨kind,client,tag,query,page,rows,n⟩=⟨(Lib.join (chgParts ⟨kind,client,tag,query,page,rows,n⟩) [10]).toArray⟩):=by unfold encB encL;rw[hk];exact rfl
 have hkk:=chgB_kind hk
 have hcc:=chgB_client hk
 simp only at hkk hcc
 have HCS:=hide (chgB_cases hk)
 have HPS:=hide (parts_short hk)
 have HLS:=hide (encL_short hk)
 have HSK:=hide (fun W hW=>itoaI_any kind (by omega) (by omega) W hW)
 have HSC:=hide (fun W hW=>itoaI_any client (by omega) (by omega) W hW)
 obtain⟨K,hK⟩:∃K,decT kind.toNat=K:=⟨_,rfl⟩
 obtain⟨CL,hCL⟩:∃CL,decT client.toNat=CL:=⟨_,rfl⟩
 rw[hK] at HSK
 rw[hCL] at HSC
 have HPE:Hid (∀qs:List ByteArray,qs.map (·.data.toList)=chgMore ⟨kind,client,tag,query,page,rows,n⟩→([K,CL,tag]++qs).map (·.data.toList)=chgParts ⟨kind,client,tag,query,page,rows,n⟩):=fun qs hq=>by
  rw[List.map_append,hq,←hK,←hCL]
  simp only[List.map_cons,List.map_nil,decT_data]
  rfl
 rw[hk] at HOK1
 clear hK hCL
 show Calls Tryz.prog 10 #[.agg #[.int .i64 kind,.int .i64 client,.string tag,.string query,.int .i64 page,.slice a rows.length cap,.int .i64 n]] w _
 go_enter Tryz.func10,Tryz.ntmps10
 go_wp2_with fail
 rw[HW1.out]
 refine HOK1.out.mono ?_
 rintro e W0 ⟨rfl,hb0⟩
 have HB0:=hide hb0
 clear hb0
 go_wp2_with fail
 obtain⟨D,hwd⟩:∃D,W0.drew=D:=⟨_,rfl⟩
 have hbd0:Below w1.heap.size w1 W0.drew:=bjoin ((Below.refl _ _).drew) HB0.out
 have hD:Below w1.heap.size w1 D:=by rw[←hwd];exact hbd0
 go_region_held3 (fun X=>X.cell? ⟨w.heap.size,0,none⟩=some (.int .i64 kind)∧X.cell? ⟨w.heap.size,1,none⟩=some (.int .i64 client)∧X.cell? ⟨w.heap.size,2,none⟩=some (.string tag)∧X.cell? ⟨w.heap.size,3,none⟩=some (.string query)∧X.cell? ⟨w.heap.size,4,none⟩=some (.int .i64 page)∧X.cell? ⟨w.heap.size,5,none⟩=some (.slice a rows.length cap)∧X.cell? ⟨w.heap.size,6,none⟩=some (.int .i64 n)∧Below w1.heap.size w1 X)
  (first|with_reducible exact KEEP.out _ hbd0|with_reducible exact KEEP.out _ hD|with_reducible exact KEEP.out _ hB1|with_reducible exact KEEP.out _ hB2|with_reducible exact KEEP.out _ (hB2.alloc hB2.size _))
  (first
   | (go_at_call 35;have _g:=hB1;refine(HSC.out _ (HT1.out.kept hB1)).mono ?_;rintro e v2 ⟨rfl,hb2⟩;have hB2:Below w1.heap.size w1 v2:=bjoin hb2 hB1)
   | (go_at_call 35;refine(HSK.out _ (HT1.out.kept hD)).mono ?_;rintro e v1 ⟨rfl,hb1⟩;have hB1:Below w1.heap.size w1 v1:=bjoin hb1 hD))
 have HO2:=hide (SBuf.lit3 w1.heap.size v2 K CL tag hB2.size)
 obtain⟨W3,hW3⟩:∃W3,v2.alloc (.cells #[.string K,.string CL,.string tag] 9)=W3:=⟨_,rfl⟩
 have hB3:Below w1.heap.size w1 W3:=by rw[←hW3];exact hB2.alloc hB2.size _
 have HB3:=hide hB3
 rw[hW3] at HO2
 have HDONE:Hid (∀(W:World) (u:Value) (qs:List ByteArray),SBuf w1.heap.size W u ([K,CL,tag]++qs)→qs.map (·.data.toList)=chgMore ⟨kind,client,tag,query,page,rows,n⟩→Below w1.heap.size w1 W→Calls Tryz.prog 36 #[u,.string ⟨#[10]⟩] W fun e w'=>e=.returned (.string (encB ⟨kind,client,tag,query,page,rows,n⟩))∧Below w.heap.size w w'):=fun W u qs hS hq hb=>by
  have hp:=HPE.out qs hq
  have hl1:([K,CL,tag]++qs).length=(chgParts ⟨kind,client,tag,query,page,rows,n⟩).length:=by rw[←hp,List.length_map]
  have h:=join_buf hS (by simp) (by rw[hl1];have:=HPS.out.1;omega) (by rw[hp];have:=HLS.out;unfold encL at this;omega)
  refine h.mono fun e w' ⟨h1,h2⟩=>⟨by rw[h1,hp,HX.out],bjoin (bjoin h2 hb) HBW.out⟩
 rw[hW3]
 clear hW3 hb1 hb2 hwd hbd0 hD hB1 hB2
 obtain⟨f0,f1,f2,f3,f4,f5,f6,_⟩:=KEEP.out W3 hB3
 have hs3:=hB3.size
 clear hB3
 by_cases k1:kind=1
 ·have HC1:Hid (query.size≤200∧1≤page∧page≤50∧rows=[]):=by
   show _∧_∧_∧_
   rcases HCS.out with⟨e1,e2,e3,e4,e5,_⟩|⟨e1,_⟩|⟨e1,_⟩|⟨e1,_⟩
   ·exact⟨e2,e3,e4,e5⟩
   ·(try simp only at e1);omega
   ·(try simp only at e1);omega
   ·(try simp only at e1);omega
  have hpg:=HC1.out.2
  have HSP:=hide (fun W hW=>itoaI_any page (by omega) (by omega) W hW)
  obtain⟨PT,hPT⟩:∃PT,decT page.toNat=PT:=⟨_,rfl⟩
  rw[hPT] at HSP
  have HMO:Hid ([query,PT].map (·.data.toList)=chgMore ⟨kind,client,tag,query,page,rows,n⟩):=by
   show _=_
   rw[←hPT]
   unfold chgMore
   rw[if_pos k1]
   simp[decT]
  clear hPT hpg
  go_wp2_with fail
  clear f0 f1 f2 f3 f4 f5 f6
  obtain⟨D2,hwd2⟩:∃D2,W3.drew=D2:=⟨_,rfl⟩
  have hbd2:Below W3.heap.size W3 W3.drew:=(Below.refl _ _).drew
  have hbd2':Below w1.heap.size w1 W3.drew:=bjoin hbd2 HB3.out
  have hD2:Below W3.heap.size W3 D2:=by rw[←hwd2];exact hbd2
  have hD2':Below w1.heap.size w1 D2:=bjoin hD2 HB3.out
  go_region_held3 (fun X=>X.cell? ⟨w.heap.size,0,none⟩=some (.int .i64 kind)∧X.cell? ⟨w.heap.size,1,none⟩=some (.int .i64 client)∧X.cell? ⟨w.heap.size,2,none⟩=some (.string tag)∧X.cell? ⟨w.heap.size,3,none⟩=some (.string query)∧X.cell? ⟨w.heap.size,4,none⟩=some (.int .i64 page)∧X.cell? ⟨w.heap.size,5,none⟩=some (.slice a rows.length cap)∧X.cell? ⟨w.heap.size,6,none⟩=some (.int .i64 n)∧Below w1.heap.size w1 X)
   (first|with_reducible exact KEEP.out _ hbd2'|with_reducible exact KEEP.out _ hD2'|with_reducible exact KEEP.out _ hB4|with_reducible exact KEEP.out _ (hB4.alloc hB4.size _)|with_reducible exact KEEP.out _ hB6)
   (first
    | (refine step_append_run rfl _ _ 26 rfl hr6 (by first|rfl|simp[Act.eval,Act.put]) (by first|rfl|simp[Act.eval,Act.put]) ?_)
    | (go_at_call 35;refine(HSP.out _ (HT1.out.kept hD2')).mono ?_;rintro e v4 ⟨rfl,hb4⟩;have hB4:Below w1.heap.size w1 v4:=bjoin hb4 hD2';obtain⟨u6,v6,hr6,hO6,hb6⟩:=appendS (base:=w1.heap.size) (w:=v4.alloc (.cells #[.string query,.string PT] 9)) ((HO2.out.keep (bjoin hb4 hD2)).keep (alcB _ _)) 26 ⟨v4.heap.size,0,none⟩ 2 [query,PT] (cells2 v4 query PT) (by simp) (hB4.alloc hB4.size _).size;have hB6:Below w1.heap.size w1 v6:=(hB4.alloc hB4.size _).trans hb6;simp only[List.length_cons,List.length_nil,Nat.zero_add,Nat.reduceAdd] at hr6))
  go_wp2_with fail
  refine(HDONE.out _ _ [query,PT] hO6 HMO.out hB6).mono ?_
  rintro e w' ⟨rfl,hbw⟩
  go_wp2_with fail
  go_ret
  exact⟨by first|rfl|(rw[k1];rfl),hbw⟩
 have k1b:(kind == 1)=false:=by simpa using k1
 by_cases k2:kind=2
 ·have HMO:Hid (rows.map (·.data.toList)=chgMore ⟨kind,client,tag,query,page,rows,n⟩):=by
   show _=_
   unfold chgMore
   rw[if_neg k1,if_pos k2]
  have HRL:Hid (rows.length≤200):=by
   show rows.length≤200
   rcases HCS.out with⟨_,_,_,_,e,_⟩|⟨_,_,_,e,_,_⟩|⟨_,_,_,e,_,_⟩|⟨_,_,_,e,_⟩
   ·(try simp only at e);rw[e];simp
   ·exact e
   ·(try simp only at e);rw[e];simp
   ·(try simp only at e);rw[e];simp
  have hrl:=HRL.out
  obtain⟨a',cap',he',hcs⟩:=(At.kept kept_str HV.out (bjoin HB3.out HBW.out)).form
  injection he' with he1 _ he2
  subst he1 he2
  cases a with
  | none =>
   have hr0:rows=[]:=by
    cases rows with
    | nil=>rfl
    | cons x l=>obtain⟨b,off,e,_⟩:=hcs 0 (by simp);cases e
   subst hr0
   have hr6:=appendNone W3 26 ⟨v2.heap.size,0,none⟩ 3 3 cap (leR _)
   clear hcs
   go_wp2_with (first|(refine wpList_append_run rfl _ _ 26 rfl hr6 (by first|rfl|simp[Act.eval,Act.put]) (by first|rfl|simp[Act.eval,Act.put]) ?_))
   refine(HDONE.out _ _ [] HO2.out HMO.out HB3.out).mono ?_
   rintro e w' ⟨rfl,hbw⟩
   go_wp2_with fail
   go_ret
   exact⟨by first|rfl|(rw[k2];rfl),hbw⟩
  | some ad =>
   obtain⟨u6,v6,hr6,hO6,hb6⟩:=appendS (base:=w1.heap.size) (w:=W3) HO2.out 26 ad cap rows (fun j x hx=>by
    have hj:j<rows.length:=by
     by_cases hj:j<rows.length
     ·exact hj
     ·rw[List.getElem?_eq_none (by omega)] at hx;cases hx
    rw[List.getElem?_eq_getElem hj] at hx
    injection hx with hx
    obtain⟨b,off,e,_,_,hc,_⟩:=hcs j hj
    injection e with e
    subst e
    rw[Nat.mul_one] at hc
    rw[←hx]
    rcases Nat.eq_zero_or_pos j with rfl|hp
    ·simpa [Addr.add] using hc
    ·simpa [Addr.add,Nat.ne_of_gt hp] using hc) (by simp;omega) HB3.out.size
   have hB6:Below w1.heap.size w1 v6:=HB3.out.trans hb6
   clear hcs
   go_wp2_with (first|(refine wpList_append_run rfl _ _ 26 rfl hr6 (by first|rfl|simp[Act.eval,Act.put]) (by first|rfl|simp[Act.eval,Act.put]) ?_))
   refine(HDONE.out _ _ rows hO6 HMO.out hB6).mono ?_
   rintro e w' ⟨rfl,hbw⟩
   go_wp2_with fail
   go_ret
   exact⟨by first|rfl|(rw[k2];rfl),hbw⟩
 have k2b:(kind == 2)=false:=by simpa using k2
 by_cases k4:kind=4
 ·have HN4:Hid (0≤n∧n≤200):=by
   show _∧_
   rcases HCS.out with⟨e1,_⟩|⟨e1,_⟩|⟨_,_,_,_,e5,e6⟩|⟨e1,_⟩
   ·(try simp only at e1);omega
   ·(try simp only at e1);omega
   ·exact⟨e5,e6⟩
   ·(try simp only at e1);omega
  have hn4:=HN4.out
  have HSN:=hide (fun W hW=>itoaI_any n (by omega) (by omega) W hW)
  obtain⟨NT,hNT⟩:∃NT,decT n.toNat=NT:=⟨_,rfl⟩
  rw[hNT] at HSN
  have HMO:Hid ([NT].map (·.data.toList)=chgMore ⟨kind,client,tag,query,page,rows,n⟩):=by
   show _=_
   rw[←hNT]
   unfold chgMore
   rw[if_neg k1,if_neg k2,if_pos k4]
   simp[decT]
  clear hNT hn4
  go_wp2_with (first
   | (refine wpList_append_run rfl _ _ 26 rfl hr6 (by first|rfl|simp[Act.eval,Act.put]) (by first|rfl|simp[Act.eval,Act.put]) ?_)
   | (go_at_call 35;refine(HSN.out _ (HT1.out.kept HB3.out)).mono ?_;rintro e v4 ⟨rfl,hb4⟩;have hB4:Below w1.heap.size w1 v4:=bjoin hb4 HB3.out;obtain⟨u6,v6,hr6,hO6,hb6⟩:=appendS (base:=w1.heap.size) (w:=v4.alloc (.cells #[.string NT] 9)) ((HO2.out.keep hb4).keep (alcB _ _)) 26 ⟨v4.heap.size,0,none⟩ 1 [NT] (cells1 v4 NT) (by simp) (hB4.alloc hB4.size _).size;have hB6:Below w1.heap.size w1 v6:=(hB4.alloc hB4.size _).trans hb6;simp only[List.length_cons,List.length_nil,Nat.zero_add,Nat.reduceAdd] at hr6))
  refine(HDONE.out _ _ [NT] hO6 HMO.out hB6).mono ?_
  rintro e w' ⟨rfl,hbw⟩
  go_wp2_with fail
  go_ret
  exact⟨by first|rfl|(rw[k4];rfl),hbw⟩
 have k4b:(kind == 4)=false:=by simpa using k4
 have HMO:Hid (([]:List ByteArray).map (·.data.toList)=chgMore ⟨kind,client,tag,query,page,rows,n⟩):=by
  show _=_
  unfold chgMore
  rw[if_neg k1,if_neg k2,if_neg k4]
  rfl
 go_wp2_with fail
 refine(HDONE.out _ _ [] HO2.out HMO.out HB3.out).mono ?_
 rintro e w' ⟨rfl,hbw⟩
 go_wp2_with fail
 go_ret
 exact⟨rfl,hbw⟩
end Go.Proofs.YtglcdcekkglmiaaGreatDoor.Msg
