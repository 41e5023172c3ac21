import Derived.Test.YtfdihjnlgdiioaaGreatDoorG49
import Derived.Test.YtfdihjnlgdiioaaGreatDoorTie
import Derived.Test.YtfdihjnlgdiioaaGreatDoorCards
import Derived.HandedShaped
import Derived.Shelf.Vars
import Derived.ShutString
import Derived.ProofKit
import Derived.OpenShut
import Derived.Lay
import Derived.LaidMore
import Derived.LaidHandle
import Derived.LaidLaws
import Derived.MakeChecks
import Derived.SevenTiedAt
import Derived.Stop.Joined
import Derived.Lib.LaidTab
set_option linter.unnecessarySimpa false
namespace Go.Proofs.YtfdihjnlgdiioaaGreatDoor.Ke
open Go.Proofs.YtfdihjnlgdiioaaGreatDoor.dB
open Go.ChangeShapes Go.WideShapes Go.ChangeAt Go.RowKit
set_option linter.unusedVariables false
theorem own:ownKnob Tryz.prog.godebug=none:=by kernel_rfl
theorem laidOut:laidOutB Tryz.prog=true:=by kernel_rfl
theorem Uc:Tryz.prog.cellsOf 5=1:=by kernel_rfl
theorem rt:(Tryz.prog.cutTypes.find? (·.1 == "internal/reflectlite.rtype")).map (·.2)=some 141:=by kernel_rfl
theorem aaZ:((List.range 250).filter fun t=>Tryz.prog.rowNamed t [101,114,114,111,114])=[72]:=by kernel_rfl
theorem adW:Tryz.prog.types.size=250:=by kernel_rfl
theorem afN:Tryz.prog.globalNamed "errors.errorType"=some 0:=by kernel_rfl
theorem adX:Tryz.prog.globalNamed "strconv.ErrSyntax"=some 2:=by kernel_rfl
theorem adY:Tryz.prog.globalNamed "strconv.ErrRange"=some 3:=by kernel_rfl
theorem afO:(Tryz.prog.globals[6]?).map (·.type)=some 215:=by kernel_rfl
theorem afP:(Tryz.prog.globals[2]?).map (·.type)=some 72:=by kernel_rfl
theorem afQ:(Tryz.prog.globals[3]?).map (·.type)=some 72:=by kernel_rfl
theorem hands:(Rows.fnQueryRow.laid.filter fun x=>x.2.handleName?.isSome)=[("errors.errorType",Rows.laid_errors_errorType)]:=by kernel_rfl
theorem aa0:(Rows.fnQueryRow.laid.filter fun x=>x.2.handleName?.isNone)=[("math/bits.deBruijn32tab",Rows.laid_math_bits_deBruijn32tab),("math/bits.deBruijn64tab",Rows.laid_math_bits_deBruijn64tab),("internal/strconv.uint64pow10",Rows.laid_internal_strconv_uint64pow10),("unicode/utf8.acceptRanges",Rows.laid_unicode_utf8_acceptRanges),("strconv.ErrRange",Rows.laid_strconv_ErrRange),("strconv.ErrSyntax",Rows.laid_strconv_ErrSyntax),("unicode/utf8.first",Rows.laid_unicode_utf8_first)]:=by kernel_rfl
theorem afR:(Rows.laid_internal_strconv_uint64pow10:DataW Unit)=Lib.tabData .u64 Lib.pow10Tab:=by kernel_rfl
theorem adZ:typeHandle Tryz.prog 72=.pointer (some ⟨9,72,none⟩):=by kernel_rfl
theorem ME {a:Array Value} {l:List Value} (h:a.toList=l):a=l.toArray:=by cases a;simp_all
theorem Ud {W:World} (h:laidMet Tryz.prog [("math/bits.deBruijn32tab",Rows.laid_math_bits_deBruijn32tab),("math/bits.deBruijn64tab",Rows.laid_math_bits_deBruijn64tab),("internal/strconv.uint64pow10",Rows.laid_internal_strconv_uint64pow10),("unicode/utf8.acceptRanges",Rows.laid_unicode_utf8_acceptRanges),("strconv.ErrRange",Rows.laid_strconv_ErrRange),("strconv.ErrSyntax",Rows.laid_strconv_ErrSyntax),("unicode/utf8.first",Rows.laid_unicode_utf8_first)] W):Env W:=by
 obtain⟨ps,⟨g1,t1,cs1,f1,p1,q1,hg1,ht1,hv1,hd1,⟨g2,t2,cs2,f2,p2,q2,hg2,ht2,hv2,hd2,⟨g3,t3,cs3,f3,p3,q3,hg3,ht3,hv3,hd3,⟨g4,t4,cs4,f4,p4,q4,hg4,ht4,hv4,hd4,⟨g5,t5,cs5,f5,p5,q5,hg5,ht5,hv5,hd5,⟨g6,t6,cs6,f6,p6,q6,hg6,ht6,hv6,hd6,⟨g7,t7,cs7,f7,p7,q7,hg7,ht7,hv7,hd7,_,_⟩,_⟩,_⟩,_⟩,_⟩,_⟩,_⟩,_⟩:=h
 obtain rfl:g3=6:=Option.some.inj (hg3.symm.trans Zb)
 obtain rfl:t3=215:=Option.some.inj (ht3.symm.trans afO)
 obtain rfl:g5=3:=Option.some.inj (hg5.symm.trans adY)
 obtain rfl:t5=72:=Option.some.inj (ht5.symm.trans afQ)
 obtain rfl:g6=2:=Option.some.inj (hg6.symm.trans adX)
 obtain rfl:t6=72:=Option.some.inj (ht6.symm.trans afP)
 rw[afR] at hd3
 have e3:=Lib.cells_of_tab Tryz.underlying215 Tryz.underlying189 (by kernel_rfl) (by kernel_rfl) hd3
 obtain⟨_,u4,v4,e4,_,_⟩:=iface_of_trod Tryz.underlying72 hd5
 obtain⟨_,u5,v5,e5,_,_⟩:=iface_of_trod Tryz.underlying72 hd6
 rw[ME e3] at hv3
 rw[ME e4] at hv5
 rw[ME e5] at hv6
 refine⟨hv3,⟨.iface u5 v5,?_,.inr ⟨_,_,rfl⟩⟩,⟨.iface u4 v4,?_,.inr ⟨_,_,rfl⟩⟩⟩
 ·simpa using World.var?_cell adX hv6 0
 ·simpa using World.var?_cell adY hv5 0
theorem Xj {W:World} (h:handlesMet Tryz.prog [("errors.errorType",Rows.laid_errors_errorType)] W):Gz W:=by
 obtain⟨name,u,ty,e1,e2,e3,e4,e5⟩:=h _ (List.mem_singleton.2 rfl)
 have en:name=[101,114,114,111,114]:=(Option.some.inj e1).symm
 subst en
 obtain rfl:=Option.some.inj (rt.symm.trans e2)
 have hm:ty∈(List.range 250).filter fun t=>Tryz.prog.rowNamed t [101,114,114,111,114]:=List.mem_filter.2 ⟨List.mem_range.2 (by rw[←adW];exact e3),e4⟩
 rw[aaZ] at hm
 obtain rfl:=List.mem_singleton.1 hm
 rw[adZ] at e5
 unfold Gz
 simpa using World.var?_cell afN e5 0
theorem Xk {W:World} (h:laidMetH Tryz.prog Rows.fnQueryRow.laid W):Env W∧Gz W:=by
 unfold laidMetH at h
 rw[hands,aa0] at h
 exact⟨Ud h.1,Xj h.2⟩
theorem lay_all {P:Program} {w0:World} {laid:List (String × DataW Unit)} (args:Array Value) (hf:w0.layFits P laid []=true) (hi:w0.layIfaces P laid (w0.layVars P laid)=true) :
  laidMet P laid ((w0.layVars P laid).forCall (fun _ _=>0) ⟨#[],args,[]⟩).memory:=by
 have e1:(laid.filter fun x=>(laid.map (·.1)).contains x.1)=laid:=List.filter_eq_self.2 fun x hx=>List.contains_iff_mem.2 (List.mem_map.2 ⟨x,hx,rfl⟩)
 have e2:(laid.filter fun x=>!(laid.map (·.1)).contains x.1)=[]:=List.filter_eq_nil_iff.2 fun x hx=>by rw[List.contains_iff_mem.2 (List.mem_map.2 ⟨x,hx,rfl⟩)];simp
 have h:laidMet P laid (w0.layVars P laid):=laidMet_layVars (w0:=w0) (laid.map (·.1)) [] (by rw[e1]) (by rw[e1];exact hf) (by rw[e1];exact hi) (by rw[e2];exact LaidIn.none)
 exact h.of_heap (by simp[World.memory,World.forCall,Input.heap])
noncomputable def Ue (os:Os):World:=(World.doorLaid Tryz.prog 79 os).layVars Tryz.prog (Rows.fnQueryRow.laid.filter fun x=>x.2.handleName?.isNone)
theorem Uf (os:Os) (args:Array Value):laidMetH Tryz.prog Rows.fnQueryRow.laid ((Ue os).forCall (fun _ _=>0) ⟨#[],args,[]⟩).memory :=
 laidMetH_of_parts3 (fuel:=8) (lay_all (w0:=World.doorLaid Tryz.prog 79 os) args (by kernel_rfl) (by kernel_rfl)) (by kernel_rfl) (by kernel_rfl)
theorem wrap {H:Type} {enc:TypeId × Value→H} {a:Assume} {C:Checked} {os:Os} {f:FuncId} {fn:Func} {s:ChangeSpec} {conds:List PathCond} {apart fresh handsOn again:Bool} {X:World→Array Value→Prop}
  (hX:∀(w:World) (w':World) (args:Array Value),w.heap=w'.heap→X w args→X w' args)
  (own:ownKnob C.prog.godebug=none) (started:os.Started) (noInit:C.prog.inits.idxOf? f=none) (hfn:C.prog.funcs[f]?=some fn)
  (witness:∃(w:World) (tape:Tape) (i:Input),w.os=os∧(w.forCall tape i).Shaped C.prog∧i.vars=[]∧Input.okWide C.prog (w.forCall tape i) .any w.heap.size f i ∧
   ((s.pre enc C.prog fn conds apart (w.forCall tape i).memory i.args∧X (w.forCall tape i).memory i.args)∧sizedMet enc C.prog fn (OpenSpec.ofChange s) apart (w.forCall tape i).memory i.args)∧a.holds C.prog (lone (Frame.enter C.prog f i.args .normal) [] (w.forCall tape i)))
  (contract:∀(W:World) (base:Nat) (args:Array Value) (ds gs:List (DataW H)) (before:List MemPlace),
   (∀(j:Nat) t v,fn.params[j]?=some t→args[j]?=some v→Value.okWide C.prog W .any base t v) →
   DataW.Whole enc C.prog fn.params.toList s.vars apart W args.toList ds gs before →
   W.ShapedOpen C.prog→X W args →
   Calls C.prog f args W fun e W'=>∃v,e=.returned v∧s.post enc C.prog fn apart fresh handsOn again W args v W') :
  ReturnsInHanded a C os f .any (fun w args=>(s.pre enc C.prog fn conds apart w args∧X w args)∧sizedMet enc C.prog fn (OpenSpec.ofChange s) apart w args) (s.post enc C.prog fn apart fresh handsOn again):=by
 refine returnsInHanded_of_calls own started noInit witness ?_
 intro w tape i _ hsh _ hok hpre hholds
 obtain⟨_,_,_,fn',hfn',_,_,_,_,hval⟩:=hok
 have e:fn'=fn:=Option.some.inj (hfn'.symm.trans hfn)
 subst e
 obtain⟨⟨⟨ds,gs,before,hw,hc⟩,hx⟩,hz⟩:=hpre
 have hw':=DataW.Whole.of_heap (w':=w.forCall tape i) (by rfl) hw
 refine(contract (w.forCall tape i) w.heap.size i.args ds gs before hval hw' hsh (hX _ _ _ (by rfl) hx)).mono fun e W' ⟨v,he,hp⟩=>?_
 subst he
 exact ChangeSpec.post_blind hp
theorem Ug {W:World} (h:W.ShapedOpen Tryz.prog):Mx W :=
 cell_of_shapedOpen_int (t:=3) (zero:=#[.int .i64 0]) h (by decide +kernel) (by kernel_rfl) rfl (by kernel_rfl) (by kernel_rfl) Tryz.underlying3
section
variable {H:Type} {enc:TypeId × Value→H} {w:World} {spare:Nat→Bool} {held:Bool}
theorem PV {m b off:Nat} {cs:List Value} {y:DataW H × List MemPlace} (h:DataW.trod enc Tryz.prog w 0 spare held m 5 cs=some y) (hc:∀j,j<1→w.cell? ⟨b,off+j,none⟩=cs[j]?):∃z,EM 0 w b off z:=by
 obtain⟨k,rfl,_,hk⟩:=DataW.trod_int Tryz.underlying5 h
 have hk':0≤k∧k≤255:=by
  simpa [Lit.wf,IntKind.min,IntKind.max,IntKind.signed,IntKind.bits] using hk
 refine⟨UInt8.ofNat k.toNat,?_⟩
 have e:((UInt8.ofNat k.toNat).toNat:Int)=k:=by rw[UInt8.toNat_ofNat'];omega
 unfold EM
 rw[e]
 simpa using hc 0 (by omega)
theorem Ad {m:Nat} {cs:List Value} {y:DataW H × List MemPlace} (h:DataW.trod enc Tryz.prog w 0 spare held m 22 cs=some y):∃v xs,cs=[v]∧iU 0 w v xs :=
 U4 (by omega) Tryz.underlying22 Uc (fun _ _ _ _ _ h1 h2=>PV h1 h2) h
end
set_option maxRecDepth 100000 in
theorem lifted (os:Os) (started:os.Started) (H:Type) (enc:TypeId × Value→H) :
  ReturnsInHanded {} Tryz.checked os 3 .any (fun w args=>(Rows.fnQuerySpec.pre enc Tryz.prog Tryz.f3 Rows.fnQueryRow.domain false w args∧laidMetH Tryz.prog Rows.fnQueryRow.laid w)∧sizedMet enc Tryz.prog Tryz.f3 (OpenSpec.ofChange Rows.fnQuerySpec) false w args)
   (Rows.fnQuerySpec.post enc Tryz.prog Tryz.f3 false true false false):=by
 refine wrap (C:=Tryz.checked) (X:=fun w _=>laidMetH Tryz.prog Rows.fnQueryRow.laid w) (fun _ _ _ hh h=>h.of_heap hh) own started (by kernel_rfl) Tryz.func3
  (ChangeSpec.witness_shaped (enc:=enc) (C:=Tryz.checked) (os:=os) (X:=fun w _=>laidMetH Tryz.prog Rows.fnQueryRow.laid w) false (Ue os) #[.slice none 0 0,.slice none 0 0] 8 (World.layVars_os _ _ _) (World.shaped_of_ZipB (by kernel_rfl) (by kernel_rfl)) (by kernel_rfl) (by kernel_rfl) (by kernel_rfl) (Uf os _)) ?_
 intro W base args ds gs before hval0 hW hsh hL
 have hval:∀(j:Nat) t v,Tryz.f3.params[j]?=some t→args[j]?=some v→Value.okWide Tryz.prog W .any base t v:=hval0
 have hW':=hW
 obtain⟨p,q,hA0,hV,rfl,hfz,hnd⟩:=hW
 have hA:DataW.TrodAll enc Tryz.prog W 0 (fun _=>true) true Tryz.f3.params.toList args.toList ds p:=hA0
 rw[Tryz.params3] at hA hval
 obtain⟨v0,vs0,d0,ds0,p0,q0,hargs,rfl,rfl,h0,r0⟩:=trodAll_cons hA
 obtain⟨v1,vs1,d1,ds1,p1,q1,rfl,rfl,rfl,h1,r1⟩:=trodAll_cons r0
 obtain⟨rfl,rfl,rfl⟩:=trodAll_nil r1
 obtain rfl:args=#[v0,v1]:=by cases args;simp_all
 obtain⟨rfl,rfl⟩:=trodVars_none hV
 have k0:=h0
 have k1:=h1
 have lt0:∀x∈p0,x.block<W.heap.size:=by obtain⟨m,hm⟩:=k0;exact DataW.trod_lt m _ _ _ hm
 have lt1:∀x∈p1,x.block<W.heap.size:=by obtain⟨m,hm⟩:=k1;exact DataW.trod_lt m _ _ _ hm
 obtain⟨xs,hx⟩:∃xs,iU 0 W v0 xs:=by
  obtain⟨fuel,hf⟩:=h0
  obtain⟨v,xs,hcs,hx⟩:=Ad hf
  obtain⟨a,l,c,rfl⟩:=okWide_slice Tryz.underlying22 (hval 0 22 v0 rfl rfl)
  simp only[Value.cells,List.cons.injEq,and_true] at hcs
  subst hcs
  exact⟨xs,hx⟩
 obtain⟨ys,hy⟩:∃ys,iU 0 W v1 ys:=by
  obtain⟨fuel,hf⟩:=h1
  obtain⟨v,xs,hcs,hx⟩:=Ad hf
  obtain⟨a,l,c,rfl⟩:=okWide_slice Tryz.underlying22 (hval 1 22 v1 rfl rfl)
  simp only[Value.cells,List.cons.injEq,and_true] at hcs
  subst hcs
  exact⟨xs,hx⟩
 clear hA0 hval0
 obtain⟨hE,hT⟩:=Xk hL
 refine(T9 xs ys v0 v1 W hx hy (Ug hsh) hE hT).mono fun e W' ⟨he,zR⟩=>?_
 subst he
 exact⟨_,rfl,_,_,_,[],_,[],hW',trodAll_mk1 (shut_bool Tryz.underlying4 _),(trodAll_cons_mk (Below.trod laidOut (by kernel_rfl) (of_decide_eq_true (by kernel_rfl)) k0 zR lt0) (trodAll_cons_mk (Below.trod laidOut (by kernel_rfl) (of_decide_eq_true (by kernel_rfl)) k1 zR lt1) trodAll_mk0)),rfl,zR.frame _,fun h=>by cases h⟩
theorem over:Rows.FnQuerySaid :=
 OpenClaim.holds_of_wide 3 Tryz.f3 rfl rfl rfl rfl rfl rfl rfl ⟨rfl,rfl,rfl,rfl,rfl⟩ rfl rfl rfl rfl rfl (by kernel_rfl) Tryz.func3 (by kernel_rfl)
  (of_decide_eq_true (by kernel_rfl)) (by unfold Func.isWrapper;first|(rw[if_pos (by decide +kernel)];kernel_rfl)|(rw[if_neg (by decide +kernel)];exact⟨rfl,rfl⟩))
  (fun os started H enc _=>lifted os started H enc)
end Go.Proofs.YtfdihjnlgdiioaaGreatDoor.Ke
namespace Go.Proofs.YtfdihjnlgdiioaaGreatDoor
theorem fnQuery_holds:Rows.FnQueryCardSaid :=
 Claim7.holds_tied_plain_at .later [] [.data,.data,.data,.data,.handle,.sentinel,.sentinel,.pinned] true (true,"1f94e91da48013fffacd34e2b9513a80efad46016b3b97dff4367e927be6f585") true Ke.over (fun _ h=>by cases h) (by kernel_rfl) (fun _ h=>by cases h) fnQuery_row_tie rfl ⟨rfl,rfl⟩ (by kernel_rfl) rfl
  (fun f fn hf hfn=>by
   obtain rfl:f=3:=Option.some.inj ((show Tryz.prog.funcNamed "loop.example/s01639/laws.FnQuery"=some 3 by kernel_rfl).symm.trans hf) |>.symm
   obtain rfl:fn=Tryz.f3:=(Option.some.inj (Tryz.func3.symm.trans hfn)).symm
   exact⟨by kernel_rfl,fun j t ht=>by
    rw[Tryz.params3] at ht
    have hm:t∈[22]:=by simpa using Array.mem_of_getElem? ht
    have hall:([22].all fun u=>!Tryz.prog.wantsStandIn u)=true:=by kernel_rfl
    exact(show Tryz.prog.wantsStandIn t=false by simpa using List.all_eq_true.1 hall t hm)⟩)
  (by kernel_rfl)
#print axioms fnQuery_holds
end Go.Proofs.YtfdihjnlgdiioaaGreatDoor
