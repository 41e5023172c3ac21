import Derived.Test.YtfdihjnlgdiioaaGreatDoorG15
import Derived.Deep.RegionHeld3
import Derived.BigQuiet
namespace Go.Proofs.YtfdihjnlgdiioaaGreatDoor.dB
open Go.ChangeShapes Go.WideShapes Go.ChangeAt Go.RowKit
set_option linter.unusedVariables false
set_option linter.unusedSimpArgs false
def nM (r:pK):Bool:=aL r.control && (fH r.tag && (if r.kind=1 then aW r.query && (decide (1≤r.page) && (decide (r.page≤50) && decide (r.pointer.size=0)))
 else if r.kind=2 then aW r.query && (decide (r.page=0) && (decide (0<r.pointer.size) && aW r.pointer))
 else decide (r.kind=3) && (decide (r.query.size=0) && (decide (r.page=0) && decide (r.pointer.size=0)))))
set_option maxRecDepth 100000 in
set_option maxHeartbeats 1000000 in
theorem Rz (kind page:Int) (control tag query pointer:ByteArray) (w:World) (h1:control.size≤9223372036854775807) (h2:tag.size≤9223372036854775807) (hb:(aL control && fH tag)=false) :
  Calls Tryz.prog 24 #[.agg #[.int .i64 kind,.string control,.string tag,.string query,.int .i64 page,.string pointer]] w fun e w'=>e=.returned (.bool false)∧Below w.heap.size w w':=by
 have HB:=hide ((Below.refl w.heap.size w).alloc (aS _) (Obj.cells #[.int .i64 kind,.string control,.string tag,.string query,.int .i64 page,.string pointer] 24))
 cases hc:aL control
 ·have ht:fH tag=fH tag:=rfl
  go_enter Tryz.func24,Tryz.ntmps24
  go_wp2_with (first|(go_at_call 45;refine(aD control _ h1).mono ?_;rintro e w' ⟨rfl,hw'⟩;rw[hw',hc];clear hw' w')|(go_at_call 46;refine(bg tag _ h2).mono ?_;rintro e w' ⟨rfl,hw'⟩;rw[hw',ht];clear hw' w'))
  go_ret
  exact⟨rfl,HB.out⟩
 ·have ht:fH tag=false:=by rw[hc] at hb;simpa using hb
  go_enter Tryz.func24,Tryz.ntmps24
  go_wp2_with (first|(go_at_call 45;refine(aD control _ h1).mono ?_;rintro e w' ⟨rfl,hw'⟩;rw[hw',hc];clear hw' w')|(go_at_call 46;refine(bg tag _ h2).mono ?_;rintro e w' ⟨rfl,hw'⟩;rw[hw',ht];clear hw' w'))
  go_ret
  exact⟨rfl,HB.out⟩
set_option maxRecDepth 100000 in
set_option maxHeartbeats 4000000 in
theorem Oz (kind page:Int) (control tag query pointer:ByteArray) (w:World) (h1:control.size≤9223372036854775807) (h2:tag.size≤9223372036854775807) (h3:query.size≤9223372036854775807) (h4:pointer.size≤9223372036854775807) (hc:aL control=true) (ht:fH tag=true) :
  Calls Tryz.prog 24 #[.agg #[.int .i64 kind,.string control,.string tag,.string query,.int .i64 page,.string pointer]] w fun e w'=>e=.returned (.bool (nM ⟨kind,control,tag,query,page,pointer⟩))∧Below w.heap.size w w':=by
 have HB:=hide ((Below.refl w.heap.size w).alloc (aS _) (Obj.cells #[.int .i64 kind,.string control,.string tag,.string query,.int .i64 page,.string pointer] 24))
 by_cases k1:kind=1
 ·have g1:(kind == 1)=true:=by simp[k1]
  have hp:aW pointer=aW pointer:=rfl
  cases hq:aW query
  ·have HX:=hide (show nM ⟨kind,control,tag,query,page,pointer⟩=false by simp[nM,hc,ht,k1,hq])
   clear k1
   go_enter Tryz.func24,Tryz.ntmps24
   go_wp2_with (first|(go_at_call 45;refine(aD control _ h1).mono ?_;rintro e w' ⟨rfl,hw'⟩;rw[hw',hc];clear hw' w')|(go_at_call 46;refine(bg tag _ h2).mono ?_;rintro e w' ⟨rfl,hw'⟩;rw[hw',ht];clear hw' w')|(go_at_call 47;refine(bC _ _ (by first|exact h3|exact h4)).mono ?_;rintro e w' ⟨rfl,hw'⟩;rw[hw'];clear hw' w';first|rw[hq]|rw[hp]))
   go_ret
   exact⟨aA HX.out.symm,HB.out⟩
  by_cases p1:1≤page
  rotate_left
  ·have HX:=hide (show nM ⟨kind,control,tag,query,page,pointer⟩=false by simp[nM,hc,ht,k1,hq,p1])
   clear k1
   go_enter Tryz.func24,Tryz.ntmps24
   go_wp2_with (first|(go_at_call 45;refine(aD control _ h1).mono ?_;rintro e w' ⟨rfl,hw'⟩;rw[hw',hc];clear hw' w')|(go_at_call 46;refine(bg tag _ h2).mono ?_;rintro e w' ⟨rfl,hw'⟩;rw[hw',ht];clear hw' w')|(go_at_call 47;refine(bC _ _ (by first|exact h3|exact h4)).mono ?_;rintro e w' ⟨rfl,hw'⟩;rw[hw'];clear hw' w';first|rw[hq]|rw[hp]))
   go_ret
   exact⟨aA HX.out.symm,HB.out⟩
  by_cases p2:page≤50
  rotate_left
  ·have HX:=hide (show nM ⟨kind,control,tag,query,page,pointer⟩=false by simp[nM,hc,ht,k1,hq,p1,p2])
   clear k1
   go_enter Tryz.func24,Tryz.ntmps24
   go_wp2_with (first|(go_at_call 45;refine(aD control _ h1).mono ?_;rintro e w' ⟨rfl,hw'⟩;rw[hw',hc];clear hw' w')|(go_at_call 46;refine(bg tag _ h2).mono ?_;rintro e w' ⟨rfl,hw'⟩;rw[hw',ht];clear hw' w')|(go_at_call 47;refine(bC _ _ (by first|exact h3|exact h4)).mono ?_;rintro e w' ⟨rfl,hw'⟩;rw[hw'];clear hw' w';first|rw[hq]|rw[hp]))
   go_ret
   exact⟨aA HX.out.symm,HB.out⟩
  by_cases p3:pointer.size=0
  ·have g3:((pointer.size:Int) == 0)=true:=by rw[p3];rfl
   have HX:=hide (show nM ⟨kind,control,tag,query,page,pointer⟩=true by simp[nM,hc,ht,k1,hq,p1,p2,p3])
   clear k1 p3
   go_enter Tryz.func24,Tryz.ntmps24
   go_wp2_with (first|(go_at_call 45;refine(aD control _ h1).mono ?_;rintro e w' ⟨rfl,hw'⟩;rw[hw',hc];clear hw' w')|(go_at_call 46;refine(bg tag _ h2).mono ?_;rintro e w' ⟨rfl,hw'⟩;rw[hw',ht];clear hw' w')|(go_at_call 47;refine(bC _ _ (by first|exact h3|exact h4)).mono ?_;rintro e w' ⟨rfl,hw'⟩;rw[hw'];clear hw' w';first|rw[hq]|rw[hp]))
   go_ret
   exact⟨aA HX.out.symm,HB.out⟩
  ·have g3:((pointer.size:Int) == 0)=false:=by rw[beq_eq_false_iff_ne];omega
   have HX:=hide (show nM ⟨kind,control,tag,query,page,pointer⟩=false by simp[nM,hc,ht,k1,hq,p1,p2,p3])
   clear k1
   go_enter Tryz.func24,Tryz.ntmps24
   go_wp2_with (first|(go_at_call 45;refine(aD control _ h1).mono ?_;rintro e w' ⟨rfl,hw'⟩;rw[hw',hc];clear hw' w')|(go_at_call 46;refine(bg tag _ h2).mono ?_;rintro e w' ⟨rfl,hw'⟩;rw[hw',ht];clear hw' w')|(go_at_call 47;refine(bC _ _ (by first|exact h3|exact h4)).mono ?_;rintro e w' ⟨rfl,hw'⟩;rw[hw'];clear hw' w';first|rw[hq]|rw[hp]))
   go_ret
   exact⟨aA HX.out.symm,HB.out⟩
 have g1:(kind == 1)=false:=by simp[k1]
 by_cases k2:kind=2
 ·have g2:(kind == 2)=true:=by simp[k2]
  cases hq:aW query
  ·have hp:aW pointer=aW pointer:=rfl
   have HX:=hide (show nM ⟨kind,control,tag,query,page,pointer⟩=false by simp[nM,hc,ht,k1,k2,hq])
   clear k2
   go_enter Tryz.func24,Tryz.ntmps24
   go_wp2_with (first|(go_at_call 45;refine(aD control _ h1).mono ?_;rintro e w' ⟨rfl,hw'⟩;rw[hw',hc];clear hw' w')|(go_at_call 46;refine(bg tag _ h2).mono ?_;rintro e w' ⟨rfl,hw'⟩;rw[hw',ht];clear hw' w')|(go_at_call 47;refine(bC _ _ (by first|exact h3|exact h4)).mono ?_;rintro e w' ⟨rfl,hw'⟩;rw[hw'];clear hw' w';first|rw[hq]|rw[hp]))
   go_ret
   exact⟨aA HX.out.symm,HB.out⟩
  by_cases p1:page=0
  rotate_left
  ·have g3:(page == 0)=false:=by rw[beq_eq_false_iff_ne];exact p1
   have hp:aW pointer=aW pointer:=rfl
   have HX:=hide (show nM ⟨kind,control,tag,query,page,pointer⟩=false by simp[nM,hc,ht,k1,k2,hq,p1])
   clear k2
   go_enter Tryz.func24,Tryz.ntmps24
   go_wp2_with (first|(go_at_call 45;refine(aD control _ h1).mono ?_;rintro e w' ⟨rfl,hw'⟩;rw[hw',hc];clear hw' w')|(go_at_call 46;refine(bg tag _ h2).mono ?_;rintro e w' ⟨rfl,hw'⟩;rw[hw',ht];clear hw' w')|(go_at_call 47;refine(bC _ _ (by first|exact h3|exact h4)).mono ?_;rintro e w' ⟨rfl,hw'⟩;rw[hw'];clear hw' w';first|rw[hq]|rw[hp]))
   go_ret
   exact⟨aA HX.out.symm,HB.out⟩
  have g3:(page == 0)=true:=by rw[p1];rfl
  by_cases p2:0<pointer.size
  rotate_left
  ·have p2':¬(0:Int)<(pointer.size:Int):=by omega
   have hp:aW pointer=aW pointer:=rfl
   have HX:=hide (show nM ⟨kind,control,tag,query,page,pointer⟩=false by simp[nM,hc,ht,k1,k2,hq,p1,p2])
   clear k2 p1
   go_enter Tryz.func24,Tryz.ntmps24
   go_wp2_with (first|(go_at_call 45;refine(aD control _ h1).mono ?_;rintro e w' ⟨rfl,hw'⟩;rw[hw',hc];clear hw' w')|(go_at_call 46;refine(bg tag _ h2).mono ?_;rintro e w' ⟨rfl,hw'⟩;rw[hw',ht];clear hw' w')|(go_at_call 47;refine(bC _ _ (by first|exact h3|exact h4)).mono ?_;rintro e w' ⟨rfl,hw'⟩;rw[hw'];clear hw' w';first|rw[hq]|rw[hp]))
   go_ret
   exact⟨aA HX.out.symm,HB.out⟩
  have p2':(0:Int)<(pointer.size:Int):=by omega
  cases hp:aW pointer
  ·have HX:=hide (show nM ⟨kind,control,tag,query,page,pointer⟩=false by simp[nM,hc,ht,k1,k2,hq,p1,p2,hp])
   clear k2 p1
   go_enter Tryz.func24,Tryz.ntmps24
   go_wp2_with (first|(go_at_call 45;refine(aD control _ h1).mono ?_;rintro e w' ⟨rfl,hw'⟩;rw[hw',hc];clear hw' w')|(go_at_call 46;refine(bg tag _ h2).mono ?_;rintro e w' ⟨rfl,hw'⟩;rw[hw',ht];clear hw' w')|(go_at_call 47;refine(bC _ _ (by first|exact h3|exact h4)).mono ?_;rintro e w' ⟨rfl,hw'⟩;rw[hw'];clear hw' w';first|rw[hq]|rw[hp]))
   go_ret
   exact⟨aA HX.out.symm,HB.out⟩
  ·have HX:=hide (show nM ⟨kind,control,tag,query,page,pointer⟩=true by simp[nM,hc,ht,k1,k2,hq,p1,p2,hp])
   clear k2 p1
   go_enter Tryz.func24,Tryz.ntmps24
   go_wp2_with (first|(go_at_call 45;refine(aD control _ h1).mono ?_;rintro e w' ⟨rfl,hw'⟩;rw[hw',hc];clear hw' w')|(go_at_call 46;refine(bg tag _ h2).mono ?_;rintro e w' ⟨rfl,hw'⟩;rw[hw',ht];clear hw' w')|(go_at_call 47;refine(bC _ _ (by first|exact h3|exact h4)).mono ?_;rintro e w' ⟨rfl,hw'⟩;rw[hw'];clear hw' w';first|rw[hq]|rw[hp]))
   go_ret
   exact⟨aA HX.out.symm,HB.out⟩
 have g2:(kind == 2)=false:=by simp[k2]
 have hq:aW query=aW query:=rfl
 have hp:aW pointer=aW pointer:=rfl
 by_cases k3:kind=3
 rotate_left
 ·have g3:(kind == 3)=false:=by simp[k3]
  have HX:=hide (show nM ⟨kind,control,tag,query,page,pointer⟩=false by simp[nM,hc,ht,k1,k2,k3])
  go_enter Tryz.func24,Tryz.ntmps24
  go_wp2_with (first|(go_at_call 45;refine(aD control _ h1).mono ?_;rintro e w' ⟨rfl,hw'⟩;rw[hw',hc];clear hw' w')|(go_at_call 46;refine(bg tag _ h2).mono ?_;rintro e w' ⟨rfl,hw'⟩;rw[hw',ht];clear hw' w')|(go_at_call 47;refine(bC _ _ (by first|exact h3|exact h4)).mono ?_;rintro e w' ⟨rfl,hw'⟩;rw[hw'];clear hw' w';first|rw[hq]|rw[hp]))
  go_ret
  exact⟨aA HX.out.symm,HB.out⟩
 have g3:(kind == 3)=true:=by simp[k3]
 by_cases p1:query.size=0
 rotate_left
 ·have e1:((query.size:Int) == 0)=false:=by rw[beq_eq_false_iff_ne];omega
  have HX:=hide (show nM ⟨kind,control,tag,query,page,pointer⟩=false by simp[nM,hc,ht,k1,k2,k3,p1])
  clear k3
  go_enter Tryz.func24,Tryz.ntmps24
  go_wp2_with (first|(go_at_call 45;refine(aD control _ h1).mono ?_;rintro e w' ⟨rfl,hw'⟩;rw[hw',hc];clear hw' w')|(go_at_call 46;refine(bg tag _ h2).mono ?_;rintro e w' ⟨rfl,hw'⟩;rw[hw',ht];clear hw' w')|(go_at_call 47;refine(bC _ _ (by first|exact h3|exact h4)).mono ?_;rintro e w' ⟨rfl,hw'⟩;rw[hw'];clear hw' w';first|rw[hq]|rw[hp]))
  go_ret
  exact⟨aA HX.out.symm,HB.out⟩
 have e1:((query.size:Int) == 0)=true:=by rw[p1];rfl
 by_cases p2:page=0
 rotate_left
 ·have e2:(page == 0)=false:=by rw[beq_eq_false_iff_ne];exact p2
  have HX:=hide (show nM ⟨kind,control,tag,query,page,pointer⟩=false by simp[nM,hc,ht,k1,k2,k3,p1,p2])
  clear k3 p1
  go_enter Tryz.func24,Tryz.ntmps24
  go_wp2_with (first|(go_at_call 45;refine(aD control _ h1).mono ?_;rintro e w' ⟨rfl,hw'⟩;rw[hw',hc];clear hw' w')|(go_at_call 46;refine(bg tag _ h2).mono ?_;rintro e w' ⟨rfl,hw'⟩;rw[hw',ht];clear hw' w')|(go_at_call 47;refine(bC _ _ (by first|exact h3|exact h4)).mono ?_;rintro e w' ⟨rfl,hw'⟩;rw[hw'];clear hw' w';first|rw[hq]|rw[hp]))
  go_ret
  exact⟨aA HX.out.symm,HB.out⟩
 have e2:(page == 0)=true:=by rw[p2];rfl
 by_cases p3:pointer.size=0
 ·have e3:((pointer.size:Int) == 0)=true:=by rw[p3];rfl
  have HX:=hide (show nM ⟨kind,control,tag,query,page,pointer⟩=true by simp[nM,hc,ht,k1,k2,k3,p1,p2,p3])
  clear k3 p1 p2 p3
  go_enter Tryz.func24,Tryz.ntmps24
  go_wp2_with (first|(go_at_call 45;refine(aD control _ h1).mono ?_;rintro e w' ⟨rfl,hw'⟩;rw[hw',hc];clear hw' w')|(go_at_call 46;refine(bg tag _ h2).mono ?_;rintro e w' ⟨rfl,hw'⟩;rw[hw',ht];clear hw' w')|(go_at_call 47;refine(bC _ _ (by first|exact h3|exact h4)).mono ?_;rintro e w' ⟨rfl,hw'⟩;rw[hw'];clear hw' w';first|rw[hq]|rw[hp]))
  go_ret
  exact⟨aA HX.out.symm,HB.out⟩
 ·have e3:((pointer.size:Int) == 0)=false:=by rw[beq_eq_false_iff_ne];omega
  have HX:=hide (show nM ⟨kind,control,tag,query,page,pointer⟩=false by simp[nM,hc,ht,k1,k2,k3,p1,p2,p3])
  clear k3 p1 p2
  go_enter Tryz.func24,Tryz.ntmps24
  go_wp2_with (first|(go_at_call 45;refine(aD control _ h1).mono ?_;rintro e w' ⟨rfl,hw'⟩;rw[hw',hc];clear hw' w')|(go_at_call 46;refine(bg tag _ h2).mono ?_;rintro e w' ⟨rfl,hw'⟩;rw[hw',ht];clear hw' w')|(go_at_call 47;refine(bC _ _ (by first|exact h3|exact h4)).mono ?_;rintro e w' ⟨rfl,hw'⟩;rw[hw'];clear hw' w';first|rw[hq]|rw[hp]))
  go_ret
  exact⟨aA HX.out.symm,HB.out⟩
theorem xR (r:pK) (w:World) (h1:r.control.size≤9223372036854775807) (h2:r.tag.size≤9223372036854775807) (h3:r.query.size≤9223372036854775807) (h4:r.pointer.size≤9223372036854775807) :
  Calls Tryz.prog 24 #[bY r] w fun e w'=>e=.returned (.bool (nM r))∧Below w.heap.size w w':=by
 obtain⟨kind,control,tag,query,page,pointer⟩:=r
 cases hb:(aL control && fH tag)
 ·refine(Rz kind page control tag query pointer w h1 h2 hb).mono ?_
  rintro e w' ⟨rfl,h⟩
  refine⟨aA ?_,h⟩
  unfold nM
  rw[←Bool.and_assoc]
  simp only[hb,Bool.false_and]
 ·rw[Bool.and_eq_true] at hb
  exact Oz kind page control tag query pointer w h1 h2 h3 h4 hb.1 hb.2
end Go.Proofs.YtfdihjnlgdiioaaGreatDoor.dB
