import Derived.Test.YtfdihjnlgdiioaaGreatDoorG24
namespace Go.Proofs.YtfdihjnlgdiioaaGreatDoor.dB
open Go.ChangeShapes Go.WideShapes Go.ChangeAt Go.RowKit
set_option linter.unusedVariables false
set_option linter.unusedSimpArgs false
def ng (r:pK):Value :=
 if r.kind=1 then .iface 96 (.agg #[.string r.control,.string r.tag,.string r.query,.int .i64 r.page])
 else if r.kind=2 then .iface 98 (.agg #[.string r.control,.string r.tag,.string r.query,.string r.pointer])
 else if r.kind=3 then .iface 100 (.agg #[.string r.control,.string r.tag])
 else .nilIface
theorem Nc {a b:Value} (h:a=b):Ending.returned a=.returned b:=by rw[h]
set_option maxHeartbeats 1000000 in
theorem iI (r:pK) (w:World):Calls Tryz.prog 21 #[bY r] w fun e w'=>e=.returned (ng r)∧Below w.heap.size w w':=by
 obtain⟨kind,control,tag,query,page,pointer⟩:=r
 have hb:=(Below.refl w.heap.size w).alloc (aS _) (Obj.cells #[.int .i64 kind,.string control,.string tag,.string query,.int .i64 page,.string pointer] 24)
 have HB:=hide hb
 clear hb
 show Calls Tryz.prog 21 #[.agg #[.int .i64 kind,.string control,.string tag,.string query,.int .i64 page,.string pointer]] w _
 by_cases h1:kind=1
 ·have HX:=hide (show ng ⟨kind,control,tag,query,page,pointer⟩=.iface 96 (.agg #[.string control,.string tag,.string query,.int .i64 page]) by unfold ng;rw[if_pos h1])
  have g1:(kind == 1)=true:=by simp[h1]
  clear h1
  go_enter Tryz.func21,Tryz.ntmps21
  go_wp2_with fail
  go_ret
  exact⟨Nc HX.out.symm,HB.out⟩
 have g1:(kind == 1)=false:=by simp[h1]
 by_cases h2:kind=2
 ·have HX:=hide (show ng ⟨kind,control,tag,query,page,pointer⟩=.iface 98 (.agg #[.string control,.string tag,.string query,.string pointer]) by unfold ng;rw[if_neg h1,if_pos h2])
  have g2:(kind == 2)=true:=by simp[h2]
  clear h1 h2
  go_enter Tryz.func21,Tryz.ntmps21
  go_wp2_with fail
  go_ret
  exact⟨Nc HX.out.symm,HB.out⟩
 have g2:(kind == 2)=false:=by simp[h2]
 by_cases h3:kind=3
 ·have HX:=hide (show ng ⟨kind,control,tag,query,page,pointer⟩=.iface 100 (.agg #[.string control,.string tag]) by unfold ng;rw[if_neg h1,if_neg h2,if_pos h3])
  have g3:(kind == 3)=true:=by simp[h3]
  clear h1 h2 h3
  go_enter Tryz.func21,Tryz.ntmps21
  go_wp2_with fail
  go_ret
  exact⟨Nc HX.out.symm,HB.out⟩
 have g3:(kind == 3)=false:=by simp[h3]
 have HX:=hide (show ng ⟨kind,control,tag,query,page,pointer⟩=.nilIface by unfold ng;rw[if_neg h1,if_neg h2,if_neg h3])
 clear h1 h2 h3
 go_enter Tryz.func21,Tryz.ntmps21
 go_wp2_with fail
 go_ret
 exact⟨Nc HX.out.symm,HB.out⟩
theorem XE (a b:Value) (w:World):(Go.method 350 100 (.agg #[a,b]) "loop.example/s01639/impl.request").run Tryz.prog w=.ok (202,.agg #[a,b]) w:=by kernel_rfl
set_option maxRecDepth 100000 in
set_option maxHeartbeats 4000000 in
theorem Gj (control tag query pointer:ByteArray) (page:Int) (w:World) (hne:¬(query.toList=[]∧page=0∧pointer.toList=[])) :
  Calls Tryz.prog 5 #[bY ⟨3,control,tag,query,page,pointer⟩] w (fA w []):=by
 have HR:Hid (∀W,Calls Tryz.prog 21 #[.agg #[.int .i64 3,.string control,.string tag,.string query,.int .i64 page,.string pointer]] W fun e w'=>e=.returned (.iface 100 (.agg #[.string control,.string tag]))∧Below W.heap.size W w'):=fun W=>iI ⟨3,control,tag,query,page,pointer⟩ W
 have m1:=XE
 show Calls Tryz.prog 5 #[.agg #[.int .i64 3,.string control,.string tag,.string query,.int .i64 page,.string pointer]] w _
 obtain⟨x1,hx1⟩:∃x1,w.alloc (Obj.cells #[.int .i64 3,.string control,.string tag,.string query,.int .i64 page,.string pointer] 24)=x1:=⟨_,rfl⟩
 obtain⟨w1,hw1⟩:∃w1,x1.alloc (Obj.cells #[.slice none 0 0] 28)=w1:=⟨_,rfl⟩
 have bN:x1.heap.size=w.heap.size+1:=by rw[←hx1];simp
 have bx1:Below w.heap.size w x1:=by rw[←hx1];exact aO _ _
 have dV:Below x1.heap.size x1 w1:=by rw[←hw1];exact aO _ _
 have dG:w1.heap.size=w.heap.size+1+1:=by rw[←hw1];simp[bN]
 have c0:w1.cell? ⟨w.heap.size,0,none⟩=some (.int .i64 3):=(dV.cell (p:=⟨w.heap.size,0,none⟩) (by rw[bN];simp)).trans (by rw[←hx1];simp)
 have c1:w1.cell? ⟨w.heap.size,1,none⟩=some (.string control):=(dV.cell (p:=⟨w.heap.size,1,none⟩) (by rw[bN];simp)).trans (by rw[←hx1];simp)
 have c2:w1.cell? ⟨w.heap.size,2,none⟩=some (.string tag):=(dV.cell (p:=⟨w.heap.size,2,none⟩) (by rw[bN];simp)).trans (by rw[←hx1];simp)
 have c3:w1.cell? ⟨w.heap.size,3,none⟩=some (.string query):=(dV.cell (p:=⟨w.heap.size,3,none⟩) (by rw[bN];simp)).trans (by rw[←hx1];simp)
 have c4:w1.cell? ⟨w.heap.size,4,none⟩=some (.int .i64 page):=(dV.cell (p:=⟨w.heap.size,4,none⟩) (by rw[bN];simp)).trans (by rw[←hx1];simp)
 have c5:w1.cell? ⟨w.heap.size,5,none⟩=some (.string pointer):=(dV.cell (p:=⟨w.heap.size,5,none⟩) (by rw[bN];simp)).trans (by rw[←hx1];simp)
 have cr:w1.cell? ⟨w.heap.size+1,0,none⟩=some (.slice none 0 0):=by rw[←hw1,←bN];simp
 have fr:w1.frozen? ⟨w.heap.size+1,0,none⟩=false:=by rw[←hw1,←bN];simp
 have HB1:=hide (aJ dV bx1)
 have KEEP:Hid (∀X,Below w1.heap.size w1 X→X.cell? ⟨w.heap.size,0,none⟩=some (.int .i64 3)∧X.cell? ⟨w.heap.size,1,none⟩=some (.string control)∧X.cell? ⟨w.heap.size,2,none⟩=some (.string tag)∧X.cell? ⟨w.heap.size,3,none⟩=some (.string query)∧X.cell? ⟨w.heap.size,4,none⟩=some (.int .i64 page)∧X.cell? ⟨w.heap.size,5,none⟩=some (.string pointer)∧Below w1.heap.size w1 X):=fun X h=>⟨(h.cell (p:=⟨w.heap.size,0,none⟩) (by rw[dG];dsimp only;omega)).trans c0,(h.cell (p:=⟨w.heap.size,1,none⟩) (by rw[dG];dsimp only;omega)).trans c1,(h.cell (p:=⟨w.heap.size,2,none⟩) (by rw[dG];dsimp only;omega)).trans c2,(h.cell (p:=⟨w.heap.size,3,none⟩) (by rw[dG];dsimp only;omega)).trans c3,(h.cell (p:=⟨w.heap.size,4,none⟩) (by rw[dG];dsimp only;omega)).trans c4,(h.cell (p:=⟨w.heap.size,5,none⟩) (by rw[dG];dsimp only;omega)).trans c5,h⟩
 have jL:Hid (∀X,Below w1.heap.size w1 X→X.cell? ⟨w.heap.size+1,0,none⟩=some (.slice none 0 0)∧X.frozen? ⟨w.heap.size+1,0,none⟩=false∧w.heap.size+1<X.heap.size):=fun X h =>
  ⟨(h.cell (p:=⟨w.heap.size+1,0,none⟩) (by rw[dG];dsimp only;omega)).trans cr,(h.frozen (p:=⟨w.heap.size+1,0,none⟩) (by rw[dG];dsimp only;omega)).trans fr,by have:=h.size;omega⟩
 have HW1:Hid ((w.alloc (Obj.cells #[.int .i64 3,.string control,.string tag,.string query,.int .i64 page,.string pointer] 24)).alloc (Obj.cells #[.slice none 0 0] 28)=w1):=by rw[hx1];exact hw1
 have wZ:=hide dG
 clear hx1 hw1 bN bx1 dV dG c0 c1 c2 c3 c4 c5 cr fr
 by_cases jl:query.toList=[]
 rotate_left
 ·have Gl:(([]:List UInt8) == query.toList)=false:=by rw[beq_eq_false_iff_ne];exact fun h=>jl h.symm
  have abV:¬([]:List UInt8)=query.toList:=fun h=>jl h.symm
  have CK:(query.toList == [])=false:=by rw[beq_eq_false_iff_ne];exact jl
  clear hne jl
  go_enter Tryz.func5,Tryz.ntmps5
  go_wp2_with fail
  rw[HW1.out]
  refine(HR.out _).mono ?_
  rintro e w2 ⟨rfl,hb2⟩
  have hd:Below w1.heap.size w1 w2.drew:=hb2.drew
  go_wp2_with fail
  go_region_held3 (fun X=>X.cell? ⟨w.heap.size,0,none⟩=some (.int .i64 3)∧X.cell? ⟨w.heap.size,1,none⟩=some (.string control)∧X.cell? ⟨w.heap.size,2,none⟩=some (.string tag)∧X.cell? ⟨w.heap.size,3,none⟩=some (.string query)∧X.cell? ⟨w.heap.size,4,none⟩=some (.int .i64 page)∧X.cell? ⟨w.heap.size,5,none⟩=some (.string pointer)∧Below w1.heap.size w1 X)
   (first|with_reducible exact KEEP.out _ hd|with_reducible exact KEEP.out _ hb3)
   (first|(go_at_call 202;refine(iA control tag _).mono ?_;rintro e w3 ⟨rfl,dO⟩;dsimp only[bY];have hb3:=aj dO hd))
  obtain⟨r0,rf,rl⟩:=jL.out _ hb3
  have jH:Hid (∀x,Below w.heap.size w (w3.setCell ⟨w.heap.size+1,0,none⟩ x)):=fun x=>(aj hb3 HB1.out).setCell (p:=⟨w.heap.size+1,0,none⟩) (Nat.le_succ _) x
  go_wp2_with fail
  exact bodyPost_ret (v:=.agg #[.slice none 0 0]) (by simp[results,Tryz.results5,go_sem,r0,rl]) rfl (jg _ _ _ _ (jH.out _))
 by_cases iJ:page=0
 rotate_left
 ·have Gl:(([]:List UInt8) == query.toList)=true:=by rw[jl];rfl
  have CK:(query.toList == [])=true:=by rw[jl];rfl
  have Gm:((0:Int) == page)=false:=by rw[beq_eq_false_iff_ne];exact fun h=>iJ h.symm
  have VZ:¬(0:Int)=page:=fun h=>iJ h.symm
  have AX:(page == 0)=false:=by rw[beq_eq_false_iff_ne];exact iJ
  clear hne jl iJ
  go_enter Tryz.func5,Tryz.ntmps5
  go_wp2_with fail
  rw[HW1.out]
  refine(HR.out _).mono ?_
  rintro e w2 ⟨rfl,hb2⟩
  have hd:Below w1.heap.size w1 w2.drew:=hb2.drew
  go_wp2_with fail
  go_region_held3 (fun X=>X.cell? ⟨w.heap.size,0,none⟩=some (.int .i64 3)∧X.cell? ⟨w.heap.size,1,none⟩=some (.string control)∧X.cell? ⟨w.heap.size,2,none⟩=some (.string tag)∧X.cell? ⟨w.heap.size,3,none⟩=some (.string query)∧X.cell? ⟨w.heap.size,4,none⟩=some (.int .i64 page)∧X.cell? ⟨w.heap.size,5,none⟩=some (.string pointer)∧Below w1.heap.size w1 X)
   (first|with_reducible exact KEEP.out _ hd|with_reducible exact KEEP.out _ hb3)
   (first|(go_at_call 202;refine(iA control tag _).mono ?_;rintro e w3 ⟨rfl,dO⟩;dsimp only[bY];have hb3:=aj dO hd))
  obtain⟨r0,rf,rl⟩:=jL.out _ hb3
  have jH:Hid (∀x,Below w.heap.size w (w3.setCell ⟨w.heap.size+1,0,none⟩ x)):=fun x=>(aj hb3 HB1.out).setCell (p:=⟨w.heap.size+1,0,none⟩) (Nat.le_succ _) x
  go_wp2_with fail
  exact bodyPost_ret (v:=.agg #[.slice none 0 0]) (by simp[results,Tryz.results5,go_sem,r0,rl]) rfl (jg _ _ _ _ (jH.out _))
 have eD:¬pointer.toList=[]:=fun h=>hne ⟨jl,iJ,h⟩
 have Gl:(([]:List UInt8) == query.toList)=true:=by rw[jl];rfl
 have CK:(query.toList == [])=true:=by rw[jl];rfl
 have Gm:((0:Int) == page)=true:=by rw[iJ];rfl
 have AX:(page == 0)=true:=by rw[iJ];rfl
 have za:(([]:List UInt8) == pointer.toList)=false:=by rw[beq_eq_false_iff_ne];exact fun h=>eD h.symm
 have LC:¬([]:List UInt8)=pointer.toList:=fun h=>eD h.symm
 have wP:(pointer.toList == [])=false:=by rw[beq_eq_false_iff_ne];exact eD
 clear hne jl iJ eD
 go_enter Tryz.func5,Tryz.ntmps5
 go_wp2_with fail
 rw[HW1.out]
 refine(HR.out _).mono ?_
 rintro e w2 ⟨rfl,hb2⟩
 have hd:Below w1.heap.size w1 w2.drew:=hb2.drew
 go_wp2_with fail
 go_region_held3 (fun X=>X.cell? ⟨w.heap.size,0,none⟩=some (.int .i64 3)∧X.cell? ⟨w.heap.size,1,none⟩=some (.string control)∧X.cell? ⟨w.heap.size,2,none⟩=some (.string tag)∧X.cell? ⟨w.heap.size,3,none⟩=some (.string query)∧X.cell? ⟨w.heap.size,4,none⟩=some (.int .i64 page)∧X.cell? ⟨w.heap.size,5,none⟩=some (.string pointer)∧Below w1.heap.size w1 X)
  (first|with_reducible exact KEEP.out _ hd|with_reducible exact KEEP.out _ hb3)
  (first|(go_at_call 202;refine(iA control tag _).mono ?_;rintro e w3 ⟨rfl,dO⟩;dsimp only[bY];have hb3:=aj dO hd))
 obtain⟨r0,rf,rl⟩:=jL.out _ hb3
 have jH:Hid (∀x,Below w.heap.size w (w3.setCell ⟨w.heap.size+1,0,none⟩ x)):=fun x=>(aj hb3 HB1.out).setCell (p:=⟨w.heap.size+1,0,none⟩) (Nat.le_succ _) x
 go_wp2_with fail
 exact bodyPost_ret (v:=.agg #[.slice none 0 0]) (by simp[results,Tryz.results5,go_sem,r0,rl]) rfl (jg _ _ _ _ (jH.out _))
set_option maxRecDepth 100000 in
set_option maxHeartbeats 4000000 in
theorem vU (control tag query pointer:ByteArray) (page:Int) (xs:List Seg) (w:World) (jl:query.toList=[]) (iJ:page=0) (eD:pointer.toList=[]) (Uv:Hid (∀W,Calls Tryz.prog 22 #[.iface 100 (.agg #[.string control,.string tag])] W (fA W xs))) :
  Calls Tryz.prog 5 #[bY ⟨3,control,tag,query,page,pointer⟩] w (fA w xs):=by
 have HR:Hid (∀W,Calls Tryz.prog 21 #[.agg #[.int .i64 3,.string control,.string tag,.string query,.int .i64 page,.string pointer]] W fun e w'=>e=.returned (.iface 100 (.agg #[.string control,.string tag]))∧Below W.heap.size W w'):=fun W=>iI ⟨3,control,tag,query,page,pointer⟩ W
 have m1:=XE
 show Calls Tryz.prog 5 #[.agg #[.int .i64 3,.string control,.string tag,.string query,.int .i64 page,.string pointer]] w _
 obtain⟨x1,hx1⟩:∃x1,w.alloc (Obj.cells #[.int .i64 3,.string control,.string tag,.string query,.int .i64 page,.string pointer] 24)=x1:=⟨_,rfl⟩
 obtain⟨w1,hw1⟩:∃w1,x1.alloc (Obj.cells #[.slice none 0 0] 28)=w1:=⟨_,rfl⟩
 have bN:x1.heap.size=w.heap.size+1:=by rw[←hx1];simp
 have bx1:Below w.heap.size w x1:=by rw[←hx1];exact aO _ _
 have dV:Below x1.heap.size x1 w1:=by rw[←hw1];exact aO _ _
 have dG:w1.heap.size=w.heap.size+1+1:=by rw[←hw1];simp[bN]
 have c0:w1.cell? ⟨w.heap.size,0,none⟩=some (.int .i64 3):=(dV.cell (p:=⟨w.heap.size,0,none⟩) (by rw[bN];simp)).trans (by rw[←hx1];simp)
 have c1:w1.cell? ⟨w.heap.size,1,none⟩=some (.string control):=(dV.cell (p:=⟨w.heap.size,1,none⟩) (by rw[bN];simp)).trans (by rw[←hx1];simp)
 have c2:w1.cell? ⟨w.heap.size,2,none⟩=some (.string tag):=(dV.cell (p:=⟨w.heap.size,2,none⟩) (by rw[bN];simp)).trans (by rw[←hx1];simp)
 have c3:w1.cell? ⟨w.heap.size,3,none⟩=some (.string query):=(dV.cell (p:=⟨w.heap.size,3,none⟩) (by rw[bN];simp)).trans (by rw[←hx1];simp)
 have c4:w1.cell? ⟨w.heap.size,4,none⟩=some (.int .i64 page):=(dV.cell (p:=⟨w.heap.size,4,none⟩) (by rw[bN];simp)).trans (by rw[←hx1];simp)
 have c5:w1.cell? ⟨w.heap.size,5,none⟩=some (.string pointer):=(dV.cell (p:=⟨w.heap.size,5,none⟩) (by rw[bN];simp)).trans (by rw[←hx1];simp)
 have cr:w1.cell? ⟨w.heap.size+1,0,none⟩=some (.slice none 0 0):=by rw[←hw1,←bN];simp
 have fr:w1.frozen? ⟨w.heap.size+1,0,none⟩=false:=by rw[←hw1,←bN];simp
 have HB1:=hide (aJ dV bx1)
 have KEEP:Hid (∀X,Below w1.heap.size w1 X→X.cell? ⟨w.heap.size,0,none⟩=some (.int .i64 3)∧X.cell? ⟨w.heap.size,1,none⟩=some (.string control)∧X.cell? ⟨w.heap.size,2,none⟩=some (.string tag)∧X.cell? ⟨w.heap.size,3,none⟩=some (.string query)∧X.cell? ⟨w.heap.size,4,none⟩=some (.int .i64 page)∧X.cell? ⟨w.heap.size,5,none⟩=some (.string pointer)∧Below w1.heap.size w1 X):=fun X h=>⟨(h.cell (p:=⟨w.heap.size,0,none⟩) (by rw[dG];dsimp only;omega)).trans c0,(h.cell (p:=⟨w.heap.size,1,none⟩) (by rw[dG];dsimp only;omega)).trans c1,(h.cell (p:=⟨w.heap.size,2,none⟩) (by rw[dG];dsimp only;omega)).trans c2,(h.cell (p:=⟨w.heap.size,3,none⟩) (by rw[dG];dsimp only;omega)).trans c3,(h.cell (p:=⟨w.heap.size,4,none⟩) (by rw[dG];dsimp only;omega)).trans c4,(h.cell (p:=⟨w.heap.size,5,none⟩) (by rw[dG];dsimp only;omega)).trans c5,h⟩
 have jL:Hid (∀X,Below w1.heap.size w1 X→X.cell? ⟨w.heap.size+1,0,none⟩=some (.slice none 0 0)∧X.frozen? ⟨w.heap.size+1,0,none⟩=false∧w.heap.size+1<X.heap.size):=fun X h =>
  ⟨(h.cell (p:=⟨w.heap.size+1,0,none⟩) (by rw[dG];dsimp only;omega)).trans cr,(h.frozen (p:=⟨w.heap.size+1,0,none⟩) (by rw[dG];dsimp only;omega)).trans fr,by have:=h.size;omega⟩
 have HW1:Hid ((w.alloc (Obj.cells #[.int .i64 3,.string control,.string tag,.string query,.int .i64 page,.string pointer] 24)).alloc (Obj.cells #[.slice none 0 0] 28)=w1):=by rw[hx1];exact hw1
 have wZ:=hide dG
 clear hx1 hw1 bN bx1 dV dG c0 c1 c2 c3 c4 c5 cr fr
 have Gl:(([]:List UInt8) == query.toList)=true:=by rw[jl];rfl
 have CK:(query.toList == [])=true:=by rw[jl];rfl
 have Gm:((0:Int) == page)=true:=by rw[iJ];rfl
 have AX:(page == 0)=true:=by rw[iJ];rfl
 have za:(([]:List UInt8) == pointer.toList)=true:=by rw[eD];rfl
 have wP:(pointer.toList == [])=true:=by rw[eD];rfl
 clear jl iJ eD
 go_enter Tryz.func5,Tryz.ntmps5
 go_wp2_with fail
 rw[HW1.out]
 refine(HR.out _).mono ?_
 rintro e w2 ⟨rfl,hb2⟩
 have hd:Below w1.heap.size w1 w2.drew:=hb2.drew
 go_wp2_with fail
 go_region_held3 (fun X=>X.cell? ⟨w.heap.size,0,none⟩=some (.int .i64 3)∧X.cell? ⟨w.heap.size,1,none⟩=some (.string control)∧X.cell? ⟨w.heap.size,2,none⟩=some (.string tag)∧X.cell? ⟨w.heap.size,3,none⟩=some (.string query)∧X.cell? ⟨w.heap.size,4,none⟩=some (.int .i64 page)∧X.cell? ⟨w.heap.size,5,none⟩=some (.string pointer)∧Below w1.heap.size w1 X)
  (first|with_reducible exact KEEP.out _ hd|with_reducible exact KEEP.out _ hb3)
  (first|(go_at_call 202;refine(iA control tag _).mono ?_;rintro e w3 ⟨rfl,dO⟩;dsimp only[bY];have hb3:=aj dO hd))
 obtain⟨r0,rf,rl⟩:=jL.out _ hb3
 have hl3:=hb3.size
 have HB3:=hide hb3
 have HSL:=hide (show w.heap.size+1<w3.heap.size from rl)
 go_wp2_with fail
 refine(Uv.out _).mono ?_
 rintro e w4 ⟨u,rfl,bs,hO,hN,hF,hb4⟩
 obtain⟨a,c,rfl⟩:=rW hO
 have hB4:=aj hb4 hb3
 obtain⟨s0,sf,sl⟩:=jL.out _ hB4
 have GY:Hid (∀x,pV (w4.setCell ⟨w.heap.size+1,0,none⟩ x) (.slice a xs.length c) xs bs):=fun x=>bS.kept iR hO (by rw[Deep.nblk_setCell];exact aS _) fun d hd=>Deep.blk_setCell_other _ ⟨w.heap.size+1,0,none⟩ _ d (by have:=hF d hd;have:=HSL.out;dsimp only;omega)
 have sQ:Hid (∀b∈bs,w.heap.size≤b):=fun b hb=>by have:=hF b hb;have:=HSL.out;omega
 have jH:Hid (∀x,Below w.heap.size w (w4.setCell ⟨w.heap.size+1,0,none⟩ x)):=fun x=>(aj hB4 HB1.out).setCell (p:=⟨w.heap.size+1,0,none⟩) (Nat.le_succ _) x
 have HN:=hide hN
 go_wp2_with fail
 exact bodyPost_ret (v:=.agg #[.slice a xs.length c]) (by simp[results,Tryz.results5,go_sem,s0,sl]) rfl ⟨_,rfl,bs,GY.out _,HN.out,sQ.out,jH.out _⟩
theorem XF (a b c d:Value) (w:World):(Go.method 350 98 (.agg #[a,b,c,d]) "loop.example/s01639/impl.request").run Tryz.prog w=.ok (199,.agg #[a,b,c,d]) w:=by kernel_rfl
set_option maxRecDepth 100000 in
set_option maxHeartbeats 4000000 in
theorem Gn (control tag query pointer:ByteArray) (page:Int) (w:World) (hne:¬(page=0)) :
  Calls Tryz.prog 5 #[bY ⟨2,control,tag,query,page,pointer⟩] w (fA w []):=by
 have HR:Hid (∀W,Calls Tryz.prog 21 #[.agg #[.int .i64 2,.string control,.string tag,.string query,.int .i64 page,.string pointer]] W fun e w'=>e=.returned (.iface 98 (.agg #[.string control,.string tag,.string query,.string pointer]))∧Below W.heap.size W w'):=fun W=>iI ⟨2,control,tag,query,page,pointer⟩ W
 have m1:=XF
 show Calls Tryz.prog 5 #[.agg #[.int .i64 2,.string control,.string tag,.string query,.int .i64 page,.string pointer]] w _
 obtain⟨x1,hx1⟩:∃x1,w.alloc (Obj.cells #[.int .i64 2,.string control,.string tag,.string query,.int .i64 page,.string pointer] 24)=x1:=⟨_,rfl⟩
 obtain⟨w1,hw1⟩:∃w1,x1.alloc (Obj.cells #[.slice none 0 0] 28)=w1:=⟨_,rfl⟩
 have bN:x1.heap.size=w.heap.size+1:=by rw[←hx1];simp
 have bx1:Below w.heap.size w x1:=by rw[←hx1];exact aO _ _
 have dV:Below x1.heap.size x1 w1:=by rw[←hw1];exact aO _ _
 have dG:w1.heap.size=w.heap.size+1+1:=by rw[←hw1];simp[bN]
 have c0:w1.cell? ⟨w.heap.size,0,none⟩=some (.int .i64 2):=(dV.cell (p:=⟨w.heap.size,0,none⟩) (by rw[bN];simp)).trans (by rw[←hx1];simp)
 have c1:w1.cell? ⟨w.heap.size,1,none⟩=some (.string control):=(dV.cell (p:=⟨w.heap.size,1,none⟩) (by rw[bN];simp)).trans (by rw[←hx1];simp)
 have c2:w1.cell? ⟨w.heap.size,2,none⟩=some (.string tag):=(dV.cell (p:=⟨w.heap.size,2,none⟩) (by rw[bN];simp)).trans (by rw[←hx1];simp)
 have c3:w1.cell? ⟨w.heap.size,3,none⟩=some (.string query):=(dV.cell (p:=⟨w.heap.size,3,none⟩) (by rw[bN];simp)).trans (by rw[←hx1];simp)
 have c4:w1.cell? ⟨w.heap.size,4,none⟩=some (.int .i64 page):=(dV.cell (p:=⟨w.heap.size,4,none⟩) (by rw[bN];simp)).trans (by rw[←hx1];simp)
 have c5:w1.cell? ⟨w.heap.size,5,none⟩=some (.string pointer):=(dV.cell (p:=⟨w.heap.size,5,none⟩) (by rw[bN];simp)).trans (by rw[←hx1];simp)
 have cr:w1.cell? ⟨w.heap.size+1,0,none⟩=some (.slice none 0 0):=by rw[←hw1,←bN];simp
 have fr:w1.frozen? ⟨w.heap.size+1,0,none⟩=false:=by rw[←hw1,←bN];simp
 have HB1:=hide (aJ dV bx1)
 have KEEP:Hid (∀X,Below w1.heap.size w1 X→X.cell? ⟨w.heap.size,0,none⟩=some (.int .i64 2)∧X.cell? ⟨w.heap.size,1,none⟩=some (.string control)∧X.cell? ⟨w.heap.size,2,none⟩=some (.string tag)∧X.cell? ⟨w.heap.size,3,none⟩=some (.string query)∧X.cell? ⟨w.heap.size,4,none⟩=some (.int .i64 page)∧X.cell? ⟨w.heap.size,5,none⟩=some (.string pointer)∧Below w1.heap.size w1 X):=fun X h=>⟨(h.cell (p:=⟨w.heap.size,0,none⟩) (by rw[dG];dsimp only;omega)).trans c0,(h.cell (p:=⟨w.heap.size,1,none⟩) (by rw[dG];dsimp only;omega)).trans c1,(h.cell (p:=⟨w.heap.size,2,none⟩) (by rw[dG];dsimp only;omega)).trans c2,(h.cell (p:=⟨w.heap.size,3,none⟩) (by rw[dG];dsimp only;omega)).trans c3,(h.cell (p:=⟨w.heap.size,4,none⟩) (by rw[dG];dsimp only;omega)).trans c4,(h.cell (p:=⟨w.heap.size,5,none⟩) (by rw[dG];dsimp only;omega)).trans c5,h⟩
 have jL:Hid (∀X,Below w1.heap.size w1 X→X.cell? ⟨w.heap.size+1,0,none⟩=some (.slice none 0 0)∧X.frozen? ⟨w.heap.size+1,0,none⟩=false∧w.heap.size+1<X.heap.size):=fun X h =>
  ⟨(h.cell (p:=⟨w.heap.size+1,0,none⟩) (by rw[dG];dsimp only;omega)).trans cr,(h.frozen (p:=⟨w.heap.size+1,0,none⟩) (by rw[dG];dsimp only;omega)).trans fr,by have:=h.size;omega⟩
 have HW1:Hid ((w.alloc (Obj.cells #[.int .i64 2,.string control,.string tag,.string query,.int .i64 page,.string pointer] 24)).alloc (Obj.cells #[.slice none 0 0] 28)=w1):=by rw[hx1];exact hw1
 have wZ:=hide dG
 clear hx1 hw1 bN bx1 dV dG c0 c1 c2 c3 c4 c5 cr fr
 have iJ:¬page=0:=fun h=>hne h
 have Gm:((0:Int) == page)=false:=by rw[beq_eq_false_iff_ne];exact fun h=>iJ h.symm
 have VZ:¬(0:Int)=page:=fun h=>iJ h.symm
 have AX:(page == 0)=false:=by rw[beq_eq_false_iff_ne];exact iJ
 clear hne iJ
 go_enter Tryz.func5,Tryz.ntmps5
 go_wp2_with fail
 rw[HW1.out]
 refine(HR.out _).mono ?_
 rintro e w2 ⟨rfl,hb2⟩
 have hd:Below w1.heap.size w1 w2.drew:=hb2.drew
 go_wp2_with fail
 go_region_held3 (fun X=>X.cell? ⟨w.heap.size,0,none⟩=some (.int .i64 2)∧X.cell? ⟨w.heap.size,1,none⟩=some (.string control)∧X.cell? ⟨w.heap.size,2,none⟩=some (.string tag)∧X.cell? ⟨w.heap.size,3,none⟩=some (.string query)∧X.cell? ⟨w.heap.size,4,none⟩=some (.int .i64 page)∧X.cell? ⟨w.heap.size,5,none⟩=some (.string pointer)∧Below w1.heap.size w1 X)
  (first|with_reducible exact KEEP.out _ hd|with_reducible exact KEEP.out _ hb3)
  (first|(go_at_call 199;refine(nS control tag query pointer _).mono ?_;rintro e w3 ⟨rfl,dO⟩;dsimp only[bY];have hb3:=aj dO hd))
 obtain⟨r0,rf,rl⟩:=jL.out _ hb3
 have jH:Hid (∀x,Below w.heap.size w (w3.setCell ⟨w.heap.size+1,0,none⟩ x)):=fun x=>(aj hb3 HB1.out).setCell (p:=⟨w.heap.size+1,0,none⟩) (Nat.le_succ _) x
 go_wp2_with fail
 exact bodyPost_ret (v:=.agg #[.slice none 0 0]) (by simp[results,Tryz.results5,go_sem,r0,rl]) rfl (jg _ _ _ _ (jH.out _))
set_option maxRecDepth 100000 in
set_option maxHeartbeats 4000000 in
theorem vV (control tag query pointer:ByteArray) (page:Int) (xs:List Seg) (w:World) (iJ:page=0) (Uv:Hid (∀W,Calls Tryz.prog 22 #[.iface 98 (.agg #[.string control,.string tag,.string query,.string pointer])] W (fA W xs))) :
  Calls Tryz.prog 5 #[bY ⟨2,control,tag,query,page,pointer⟩] w (fA w xs):=by
 have HR:Hid (∀W,Calls Tryz.prog 21 #[.agg #[.int .i64 2,.string control,.string tag,.string query,.int .i64 page,.string pointer]] W fun e w'=>e=.returned (.iface 98 (.agg #[.string control,.string tag,.string query,.string pointer]))∧Below W.heap.size W w'):=fun W=>iI ⟨2,control,tag,query,page,pointer⟩ W
 have m1:=XF
 show Calls Tryz.prog 5 #[.agg #[.int .i64 2,.string control,.string tag,.string query,.int .i64 page,.string pointer]] w _
 obtain⟨x1,hx1⟩:∃x1,w.alloc (Obj.cells #[.int .i64 2,.string control,.string tag,.string query,.int .i64 page,.string pointer] 24)=x1:=⟨_,rfl⟩
 obtain⟨w1,hw1⟩:∃w1,x1.alloc (Obj.cells #[.slice none 0 0] 28)=w1:=⟨_,rfl⟩
 have bN:x1.heap.size=w.heap.size+1:=by rw[←hx1];simp
 have bx1:Below w.heap.size w x1:=by rw[←hx1];exact aO _ _
 have dV:Below x1.heap.size x1 w1:=by rw[←hw1];exact aO _ _
 have dG:w1.heap.size=w.heap.size+1+1:=by rw[←hw1];simp[bN]
 have c0:w1.cell? ⟨w.heap.size,0,none⟩=some (.int .i64 2):=(dV.cell (p:=⟨w.heap.size,0,none⟩) (by rw[bN];simp)).trans (by rw[←hx1];simp)
 have c1:w1.cell? ⟨w.heap.size,1,none⟩=some (.string control):=(dV.cell (p:=⟨w.heap.size,1,none⟩) (by rw[bN];simp)).trans (by rw[←hx1];simp)
 have c2:w1.cell? ⟨w.heap.size,2,none⟩=some (.string tag):=(dV.cell (p:=⟨w.heap.size,2,none⟩) (by rw[bN];simp)).trans (by rw[←hx1];simp)
 have c3:w1.cell? ⟨w.heap.size,3,none⟩=some (.string query):=(dV.cell (p:=⟨w.heap.size,3,none⟩) (by rw[bN];simp)).trans (by rw[←hx1];simp)
 have c4:w1.cell? ⟨w.heap.size,4,none⟩=some (.int .i64 page):=(dV.cell (p:=⟨w.heap.size,4,none⟩) (by rw[bN];simp)).trans (by rw[←hx1];simp)
 have c5:w1.cell? ⟨w.heap.size,5,none⟩=some (.string pointer):=(dV.cell (p:=⟨w.heap.size,5,none⟩) (by rw[bN];simp)).trans (by rw[←hx1];simp)
 have cr:w1.cell? ⟨w.heap.size+1,0,none⟩=some (.slice none 0 0):=by rw[←hw1,←bN];simp
 have fr:w1.frozen? ⟨w.heap.size+1,0,none⟩=false:=by rw[←hw1,←bN];simp
 have HB1:=hide (aJ dV bx1)
 have KEEP:Hid (∀X,Below w1.heap.size w1 X→X.cell? ⟨w.heap.size,0,none⟩=some (.int .i64 2)∧X.cell? ⟨w.heap.size,1,none⟩=some (.string control)∧X.cell? ⟨w.heap.size,2,none⟩=some (.string tag)∧X.cell? ⟨w.heap.size,3,none⟩=some (.string query)∧X.cell? ⟨w.heap.size,4,none⟩=some (.int .i64 page)∧X.cell? ⟨w.heap.size,5,none⟩=some (.string pointer)∧Below w1.heap.size w1 X):=fun X h=>⟨(h.cell (p:=⟨w.heap.size,0,none⟩) (by rw[dG];dsimp only;omega)).trans c0,(h.cell (p:=⟨w.heap.size,1,none⟩) (by rw[dG];dsimp only;omega)).trans c1,(h.cell (p:=⟨w.heap.size,2,none⟩) (by rw[dG];dsimp only;omega)).trans c2,(h.cell (p:=⟨w.heap.size,3,none⟩) (by rw[dG];dsimp only;omega)).trans c3,(h.cell (p:=⟨w.heap.size,4,none⟩) (by rw[dG];dsimp only;omega)).trans c4,(h.cell (p:=⟨w.heap.size,5,none⟩) (by rw[dG];dsimp only;omega)).trans c5,h⟩
 have jL:Hid (∀X,Below w1.heap.size w1 X→X.cell? ⟨w.heap.size+1,0,none⟩=some (.slice none 0 0)∧X.frozen? ⟨w.heap.size+1,0,none⟩=false∧w.heap.size+1<X.heap.size):=fun X h =>
  ⟨(h.cell (p:=⟨w.heap.size+1,0,none⟩) (by rw[dG];dsimp only;omega)).trans cr,(h.frozen (p:=⟨w.heap.size+1,0,none⟩) (by rw[dG];dsimp only;omega)).trans fr,by have:=h.size;omega⟩
 have HW1:Hid ((w.alloc (Obj.cells #[.int .i64 2,.string control,.string tag,.string query,.int .i64 page,.string pointer] 24)).alloc (Obj.cells #[.slice none 0 0] 28)=w1):=by rw[hx1];exact hw1
 have wZ:=hide dG
 clear hx1 hw1 bN bx1 dV dG c0 c1 c2 c3 c4 c5 cr fr
 have Gm:((0:Int) == page)=true:=by rw[iJ];rfl
 have AX:(page == 0)=true:=by rw[iJ];rfl
 clear iJ
 go_enter Tryz.func5,Tryz.ntmps5
 go_wp2_with fail
 rw[HW1.out]
 refine(HR.out _).mono ?_
 rintro e w2 ⟨rfl,hb2⟩
 have hd:Below w1.heap.size w1 w2.drew:=hb2.drew
 go_wp2_with fail
 go_region_held3 (fun X=>X.cell? ⟨w.heap.size,0,none⟩=some (.int .i64 2)∧X.cell? ⟨w.heap.size,1,none⟩=some (.string control)∧X.cell? ⟨w.heap.size,2,none⟩=some (.string tag)∧X.cell? ⟨w.heap.size,3,none⟩=some (.string query)∧X.cell? ⟨w.heap.size,4,none⟩=some (.int .i64 page)∧X.cell? ⟨w.heap.size,5,none⟩=some (.string pointer)∧Below w1.heap.size w1 X)
  (first|with_reducible exact KEEP.out _ hd|with_reducible exact KEEP.out _ hb3)
  (first|(go_at_call 199;refine(nS control tag query pointer _).mono ?_;rintro e w3 ⟨rfl,dO⟩;dsimp only[bY];have hb3:=aj dO hd))
 obtain⟨r0,rf,rl⟩:=jL.out _ hb3
 have hl3:=hb3.size
 have HB3:=hide hb3
 have HSL:=hide (show w.heap.size+1<w3.heap.size from rl)
 go_wp2_with fail
 refine(Uv.out _).mono ?_
 rintro e w4 ⟨u,rfl,bs,hO,hN,hF,hb4⟩
 obtain⟨a,c,rfl⟩:=rW hO
 have hB4:=aj hb4 hb3
 obtain⟨s0,sf,sl⟩:=jL.out _ hB4
 have GY:Hid (∀x,pV (w4.setCell ⟨w.heap.size+1,0,none⟩ x) (.slice a xs.length c) xs bs):=fun x=>bS.kept iR hO (by rw[Deep.nblk_setCell];exact aS _) fun d hd=>Deep.blk_setCell_other _ ⟨w.heap.size+1,0,none⟩ _ d (by have:=hF d hd;have:=HSL.out;dsimp only;omega)
 have sQ:Hid (∀b∈bs,w.heap.size≤b):=fun b hb=>by have:=hF b hb;have:=HSL.out;omega
 have jH:Hid (∀x,Below w.heap.size w (w4.setCell ⟨w.heap.size+1,0,none⟩ x)):=fun x=>(aj hB4 HB1.out).setCell (p:=⟨w.heap.size+1,0,none⟩) (Nat.le_succ _) x
 have HN:=hide hN
 go_wp2_with fail
 exact bodyPost_ret (v:=.agg #[.slice a xs.length c]) (by simp[results,Tryz.results5,go_sem,s0,sl]) rfl ⟨_,rfl,bs,GY.out _,HN.out,sQ.out,jH.out _⟩
theorem XG (a b c d:Value) (w:World):(Go.method 350 96 (.agg #[a,b,c,d]) "loop.example/s01639/impl.request").run Tryz.prog w=.ok (191,.agg #[a,b,c,d]) w:=by kernel_rfl
set_option maxRecDepth 100000 in
set_option maxHeartbeats 4000000 in
theorem Gp (control tag query pointer:ByteArray) (page:Int) (w:World) (hne:¬(pointer.toList=[])) :
  Calls Tryz.prog 5 #[bY ⟨1,control,tag,query,page,pointer⟩] w (fA w []):=by
 have HR:Hid (∀W,Calls Tryz.prog 21 #[.agg #[.int .i64 1,.string control,.string tag,.string query,.int .i64 page,.string pointer]] W fun e w'=>e=.returned (.iface 96 (.agg #[.string control,.string tag,.string query,.int .i64 page]))∧Below W.heap.size W w'):=fun W=>iI ⟨1,control,tag,query,page,pointer⟩ W
 have m1:=XG
 show Calls Tryz.prog 5 #[.agg #[.int .i64 1,.string control,.string tag,.string query,.int .i64 page,.string pointer]] w _
 obtain⟨x1,hx1⟩:∃x1,w.alloc (Obj.cells #[.int .i64 1,.string control,.string tag,.string query,.int .i64 page,.string pointer] 24)=x1:=⟨_,rfl⟩
 obtain⟨w1,hw1⟩:∃w1,x1.alloc (Obj.cells #[.slice none 0 0] 28)=w1:=⟨_,rfl⟩
 have bN:x1.heap.size=w.heap.size+1:=by rw[←hx1];simp
 have bx1:Below w.heap.size w x1:=by rw[←hx1];exact aO _ _
 have dV:Below x1.heap.size x1 w1:=by rw[←hw1];exact aO _ _
 have dG:w1.heap.size=w.heap.size+1+1:=by rw[←hw1];simp[bN]
 have c0:w1.cell? ⟨w.heap.size,0,none⟩=some (.int .i64 1):=(dV.cell (p:=⟨w.heap.size,0,none⟩) (by rw[bN];simp)).trans (by rw[←hx1];simp)
 have c1:w1.cell? ⟨w.heap.size,1,none⟩=some (.string control):=(dV.cell (p:=⟨w.heap.size,1,none⟩) (by rw[bN];simp)).trans (by rw[←hx1];simp)
 have c2:w1.cell? ⟨w.heap.size,2,none⟩=some (.string tag):=(dV.cell (p:=⟨w.heap.size,2,none⟩) (by rw[bN];simp)).trans (by rw[←hx1];simp)
 have c3:w1.cell? ⟨w.heap.size,3,none⟩=some (.string query):=(dV.cell (p:=⟨w.heap.size,3,none⟩) (by rw[bN];simp)).trans (by rw[←hx1];simp)
 have c4:w1.cell? ⟨w.heap.size,4,none⟩=some (.int .i64 page):=(dV.cell (p:=⟨w.heap.size,4,none⟩) (by rw[bN];simp)).trans (by rw[←hx1];simp)
 have c5:w1.cell? ⟨w.heap.size,5,none⟩=some (.string pointer):=(dV.cell (p:=⟨w.heap.size,5,none⟩) (by rw[bN];simp)).trans (by rw[←hx1];simp)
 have cr:w1.cell? ⟨w.heap.size+1,0,none⟩=some (.slice none 0 0):=by rw[←hw1,←bN];simp
 have fr:w1.frozen? ⟨w.heap.size+1,0,none⟩=false:=by rw[←hw1,←bN];simp
 have HB1:=hide (aJ dV bx1)
 have KEEP:Hid (∀X,Below w1.heap.size w1 X→X.cell? ⟨w.heap.size,0,none⟩=some (.int .i64 1)∧X.cell? ⟨w.heap.size,1,none⟩=some (.string control)∧X.cell? ⟨w.heap.size,2,none⟩=some (.string tag)∧X.cell? ⟨w.heap.size,3,none⟩=some (.string query)∧X.cell? ⟨w.heap.size,4,none⟩=some (.int .i64 page)∧X.cell? ⟨w.heap.size,5,none⟩=some (.string pointer)∧Below w1.heap.size w1 X):=fun X h=>⟨(h.cell (p:=⟨w.heap.size,0,none⟩) (by rw[dG];dsimp only;omega)).trans c0,(h.cell (p:=⟨w.heap.size,1,none⟩) (by rw[dG];dsimp only;omega)).trans c1,(h.cell (p:=⟨w.heap.size,2,none⟩) (by rw[dG];dsimp only;omega)).trans c2,(h.cell (p:=⟨w.heap.size,3,none⟩) (by rw[dG];dsimp only;omega)).trans c3,(h.cell (p:=⟨w.heap.size,4,none⟩) (by rw[dG];dsimp only;omega)).trans c4,(h.cell (p:=⟨w.heap.size,5,none⟩) (by rw[dG];dsimp only;omega)).trans c5,h⟩
 have jL:Hid (∀X,Below w1.heap.size w1 X→X.cell? ⟨w.heap.size+1,0,none⟩=some (.slice none 0 0)∧X.frozen? ⟨w.heap.size+1,0,none⟩=false∧w.heap.size+1<X.heap.size):=fun X h =>
  ⟨(h.cell (p:=⟨w.heap.size+1,0,none⟩) (by rw[dG];dsimp only;omega)).trans cr,(h.frozen (p:=⟨w.heap.size+1,0,none⟩) (by rw[dG];dsimp only;omega)).trans fr,by have:=h.size;omega⟩
 have HW1:Hid ((w.alloc (Obj.cells #[.int .i64 1,.string control,.string tag,.string query,.int .i64 page,.string pointer] 24)).alloc (Obj.cells #[.slice none 0 0] 28)=w1):=by rw[hx1];exact hw1
 have wZ:=hide dG
 clear hx1 hw1 bN bx1 dV dG c0 c1 c2 c3 c4 c5 cr fr
 have eD:¬pointer.toList=[]:=fun h=>hne h
 have za:(([]:List UInt8) == pointer.toList)=false:=by rw[beq_eq_false_iff_ne];exact fun h=>eD h.symm
 have LC:¬([]:List UInt8)=pointer.toList:=fun h=>eD h.symm
 have wP:(pointer.toList == [])=false:=by rw[beq_eq_false_iff_ne];exact eD
 clear hne eD
 go_enter Tryz.func5,Tryz.ntmps5
 go_wp2_with fail
 rw[HW1.out]
 refine(HR.out _).mono ?_
 rintro e w2 ⟨rfl,hb2⟩
 have hd:Below w1.heap.size w1 w2.drew:=hb2.drew
 go_wp2_with fail
 go_region_held3 (fun X=>X.cell? ⟨w.heap.size,0,none⟩=some (.int .i64 1)∧X.cell? ⟨w.heap.size,1,none⟩=some (.string control)∧X.cell? ⟨w.heap.size,2,none⟩=some (.string tag)∧X.cell? ⟨w.heap.size,3,none⟩=some (.string query)∧X.cell? ⟨w.heap.size,4,none⟩=some (.int .i64 page)∧X.cell? ⟨w.heap.size,5,none⟩=some (.string pointer)∧Below w1.heap.size w1 X)
  (first|with_reducible exact KEEP.out _ hd|with_reducible exact KEEP.out _ hb3)
  (first|(go_at_call 191;refine(oU control tag query page _).mono ?_;rintro e w3 ⟨rfl,dO⟩;dsimp only[bY];have hb3:=aj dO hd))
 obtain⟨r0,rf,rl⟩:=jL.out _ hb3
 have jH:Hid (∀x,Below w.heap.size w (w3.setCell ⟨w.heap.size+1,0,none⟩ x)):=fun x=>(aj hb3 HB1.out).setCell (p:=⟨w.heap.size+1,0,none⟩) (Nat.le_succ _) x
 go_wp2_with fail
 exact bodyPost_ret (v:=.agg #[.slice none 0 0]) (by simp[results,Tryz.results5,go_sem,r0,rl]) rfl (jg _ _ _ _ (jH.out _))
set_option maxRecDepth 100000 in
set_option maxHeartbeats 4000000 in
theorem vW (control tag query pointer:ByteArray) (page:Int) (xs:List Seg) (w:World) (eD:pointer.toList=[]) (Uv:Hid (∀W,Calls Tryz.prog 22 #[.iface 96 (.agg #[.string control,.string tag,.string query,.int .i64 page])] W (fA W xs))) :
  Calls Tryz.prog 5 #[bY ⟨1,control,tag,query,page,pointer⟩] w (fA w xs):=by
 have HR:Hid (∀W,Calls Tryz.prog 21 #[.agg #[.int .i64 1,.string control,.string tag,.string query,.int .i64 page,.string pointer]] W fun e w'=>e=.returned (.iface 96 (.agg #[.string control,.string tag,.string query,.int .i64 page]))∧Below W.heap.size W w'):=fun W=>iI ⟨1,control,tag,query,page,pointer⟩ W
 have m1:=XG
 show Calls Tryz.prog 5 #[.agg #[.int .i64 1,.string control,.string tag,.string query,.int .i64 page,.string pointer]] w _
 obtain⟨x1,hx1⟩:∃x1,w.alloc (Obj.cells #[.int .i64 1,.string control,.string tag,.string query,.int .i64 page,.string pointer] 24)=x1:=⟨_,rfl⟩
 obtain⟨w1,hw1⟩:∃w1,x1.alloc (Obj.cells #[.slice none 0 0] 28)=w1:=⟨_,rfl⟩
 have bN:x1.heap.size=w.heap.size+1:=by rw[←hx1];simp
 have bx1:Below w.heap.size w x1:=by rw[←hx1];exact aO _ _
 have dV:Below x1.heap.size x1 w1:=by rw[←hw1];exact aO _ _
 have dG:w1.heap.size=w.heap.size+1+1:=by rw[←hw1];simp[bN]
 have c0:w1.cell? ⟨w.heap.size,0,none⟩=some (.int .i64 1):=(dV.cell (p:=⟨w.heap.size,0,none⟩) (by rw[bN];simp)).trans (by rw[←hx1];simp)
 have c1:w1.cell? ⟨w.heap.size,1,none⟩=some (.string control):=(dV.cell (p:=⟨w.heap.size,1,none⟩) (by rw[bN];simp)).trans (by rw[←hx1];simp)
 have c2:w1.cell? ⟨w.heap.size,2,none⟩=some (.string tag):=(dV.cell (p:=⟨w.heap.size,2,none⟩) (by rw[bN];simp)).trans (by rw[←hx1];simp)
 have c3:w1.cell? ⟨w.heap.size,3,none⟩=some (.string query):=(dV.cell (p:=⟨w.heap.size,3,none⟩) (by rw[bN];simp)).trans (by rw[←hx1];simp)
 have c4:w1.cell? ⟨w.heap.size,4,none⟩=some (.int .i64 page):=(dV.cell (p:=⟨w.heap.size,4,none⟩) (by rw[bN];simp)).trans (by rw[←hx1];simp)
 have c5:w1.cell? ⟨w.heap.size,5,none⟩=some (.string pointer):=(dV.cell (p:=⟨w.heap.size,5,none⟩) (by rw[bN];simp)).trans (by rw[←hx1];simp)
 have cr:w1.cell? ⟨w.heap.size+1,0,none⟩=some (.slice none 0 0):=by rw[←hw1,←bN];simp
 have fr:w1.frozen? ⟨w.heap.size+1,0,none⟩=false:=by rw[←hw1,←bN];simp
 have HB1:=hide (aJ dV bx1)
 have KEEP:Hid (∀X,Below w1.heap.size w1 X→X.cell? ⟨w.heap.size,0,none⟩=some (.int .i64 1)∧X.cell? ⟨w.heap.size,1,none⟩=some (.string control)∧X.cell? ⟨w.heap.size,2,none⟩=some (.string tag)∧X.cell? ⟨w.heap.size,3,none⟩=some (.string query)∧X.cell? ⟨w.heap.size,4,none⟩=some (.int .i64 page)∧X.cell? ⟨w.heap.size,5,none⟩=some (.string pointer)∧Below w1.heap.size w1 X):=fun X h=>⟨(h.cell (p:=⟨w.heap.size,0,none⟩) (by rw[dG];dsimp only;omega)).trans c0,(h.cell (p:=⟨w.heap.size,1,none⟩) (by rw[dG];dsimp only;omega)).trans c1,(h.cell (p:=⟨w.heap.size,2,none⟩) (by rw[dG];dsimp only;omega)).trans c2,(h.cell (p:=⟨w.heap.size,3,none⟩) (by rw[dG];dsimp only;omega)).trans c3,(h.cell (p:=⟨w.heap.size,4,none⟩) (by rw[dG];dsimp only;omega)).trans c4,(h.cell (p:=⟨w.heap.size,5,none⟩) (by rw[dG];dsimp only;omega)).trans c5,h⟩
 have jL:Hid (∀X,Below w1.heap.size w1 X→X.cell? ⟨w.heap.size+1,0,none⟩=some (.slice none 0 0)∧X.frozen? ⟨w.heap.size+1,0,none⟩=false∧w.heap.size+1<X.heap.size):=fun X h =>
  ⟨(h.cell (p:=⟨w.heap.size+1,0,none⟩) (by rw[dG];dsimp only;omega)).trans cr,(h.frozen (p:=⟨w.heap.size+1,0,none⟩) (by rw[dG];dsimp only;omega)).trans fr,by have:=h.size;omega⟩
 have HW1:Hid ((w.alloc (Obj.cells #[.int .i64 1,.string control,.string tag,.string query,.int .i64 page,.string pointer] 24)).alloc (Obj.cells #[.slice none 0 0] 28)=w1):=by rw[hx1];exact hw1
 have wZ:=hide dG
 clear hx1 hw1 bN bx1 dV dG c0 c1 c2 c3 c4 c5 cr fr
 have za:(([]:List UInt8) == pointer.toList)=true:=by rw[eD];rfl
 have wP:(pointer.toList == [])=true:=by rw[eD];rfl
 clear eD
 go_enter Tryz.func5,Tryz.ntmps5
 go_wp2_with fail
 rw[HW1.out]
 refine(HR.out _).mono ?_
 rintro e w2 ⟨rfl,hb2⟩
 have hd:Below w1.heap.size w1 w2.drew:=hb2.drew
 go_wp2_with fail
 go_region_held3 (fun X=>X.cell? ⟨w.heap.size,0,none⟩=some (.int .i64 1)∧X.cell? ⟨w.heap.size,1,none⟩=some (.string control)∧X.cell? ⟨w.heap.size,2,none⟩=some (.string tag)∧X.cell? ⟨w.heap.size,3,none⟩=some (.string query)∧X.cell? ⟨w.heap.size,4,none⟩=some (.int .i64 page)∧X.cell? ⟨w.heap.size,5,none⟩=some (.string pointer)∧Below w1.heap.size w1 X)
  (first|with_reducible exact KEEP.out _ hd|with_reducible exact KEEP.out _ hb3)
  (first|(go_at_call 191;refine(oU control tag query page _).mono ?_;rintro e w3 ⟨rfl,dO⟩;dsimp only[bY];have hb3:=aj dO hd))
 obtain⟨r0,rf,rl⟩:=jL.out _ hb3
 have hl3:=hb3.size
 have HB3:=hide hb3
 have HSL:=hide (show w.heap.size+1<w3.heap.size from rl)
 go_wp2_with fail
 refine(Uv.out _).mono ?_
 rintro e w4 ⟨u,rfl,bs,hO,hN,hF,hb4⟩
 obtain⟨a,c,rfl⟩:=rW hO
 have hB4:=aj hb4 hb3
 obtain⟨s0,sf,sl⟩:=jL.out _ hB4
 have GY:Hid (∀x,pV (w4.setCell ⟨w.heap.size+1,0,none⟩ x) (.slice a xs.length c) xs bs):=fun x=>bS.kept iR hO (by rw[Deep.nblk_setCell];exact aS _) fun d hd=>Deep.blk_setCell_other _ ⟨w.heap.size+1,0,none⟩ _ d (by have:=hF d hd;have:=HSL.out;dsimp only;omega)
 have sQ:Hid (∀b∈bs,w.heap.size≤b):=fun b hb=>by have:=hF b hb;have:=HSL.out;omega
 have jH:Hid (∀x,Below w.heap.size w (w4.setCell ⟨w.heap.size+1,0,none⟩ x)):=fun x=>(aj hB4 HB1.out).setCell (p:=⟨w.heap.size+1,0,none⟩) (Nat.le_succ _) x
 have HN:=hide hN
 go_wp2_with fail
 exact bodyPost_ret (v:=.agg #[.slice a xs.length c]) (by simp[results,Tryz.results5,go_sem,s0,sl]) rfl ⟨_,rfl,bs,GY.out _,HN.out,sQ.out,jH.out _⟩
end Go.Proofs.YtfdihjnlgdiioaaGreatDoor.dB
