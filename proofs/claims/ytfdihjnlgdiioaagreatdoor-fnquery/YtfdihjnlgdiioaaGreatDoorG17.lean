import Derived.Test.YtfdihjnlgdiioaaGreatDoorG15
namespace Go.Proofs.YtfdihjnlgdiioaaGreatDoor.dB
open Go.ChangeShapes Go.WideShapes Go.ChangeAt Go.RowKit
set_option linter.unusedVariables false
set_option linter.unusedSimpArgs false
def sD (c:Int):Value:=.iface 76 (.agg #[.int .i64 c])
def ku (c:Option Int):Value:=match c with
 | none=>.nilIface
 | some c=>sD c
set_option maxHeartbeats 1000000 in
theorem nR (control tag:ByteArray) (w:World) (h1:control.size≤9223372036854775807) (h2:tag.size≤9223372036854775807) :
  Calls Tryz.prog 201 #[.agg #[.string control,.string tag]] w fun e w'=>e=.returned (ku (if aL control && fH tag then none else some 101))∧Below w.heap.size w w':=by
 have hb:=(Below.refl w.heap.size w).alloc (aS _) (Obj.cells #[.string control,.string tag] 100)
 cases hc:aL control <;> cases ht:fH tag
 all_goals
  go_enter Tryz.func201,Tryz.ntmps201
  go_wp2_with (first|(go_at_call 69;refine(bW control _ h1).mono ?_;rintro e w' ⟨rfl,rfl⟩;rw[hc])|(go_at_call 193;refine(gT tag _ h2).mono ?_;rintro e w' ⟨rfl,rfl⟩;rw[ht]))
  go_ret
  first
  | exact⟨rfl,hb⟩
  | exact⟨rfl,hb.alloc hb.size _⟩
def newL (control tag query:ByteArray) (page:Int):Option Int:=if aL control && fH tag then (if aW query && (decide (1≤page) && decide (page≤50)) then none else some 102) else some 101
def gJ (control tag query pointer:ByteArray):Option Int:=if aL control && fH tag then (if aW query && (aW pointer && decide (0<pointer.size)) then none else some 102) else some 101
theorem fq {a b:Option Int} (h:a=b):Ending.returned (ku a)=.returned (ku b):=by rw[h]
set_option maxHeartbeats 2000000 in
theorem rQ (control tag query:ByteArray) (page:Int) (w:World) (h1:control.size≤9223372036854775807) (h2:tag.size≤9223372036854775807) (h3:query.size≤9223372036854775807) :
  Calls Tryz.prog 190 #[.agg #[.string control,.string tag,.string query,.int .i64 page]] w fun e w'=>e=.returned (ku (newL control tag query page))∧Below w.heap.size w w':=by
 have hb:=(Below.refl w.heap.size w).alloc (aS _) (Obj.cells #[.string control,.string tag,.string query,.int .i64 page] 96)
 cases hc:aL control
 ·have ht:fH tag=fH tag:=rfl
  have hq:aW query=aW query:=rfl
  have HX:Hid (newL control tag query page=some 101):=by unfold newL;rw[hc];rfl
  go_enter Tryz.func190,Tryz.ntmps190
  go_wp2_with (first|(go_at_call 69;refine(bW control _ h1).mono ?_;rintro e w' ⟨rfl,rfl⟩;rw[hc])|(go_at_call 193;refine(gT tag _ h2).mono ?_;rintro e w' ⟨rfl,rfl⟩;rw[ht])|(go_at_call 194;refine(fP query _ h3).mono ?_;rintro e w' ⟨rfl,rfl⟩;rw[hq]))
  go_ret
  exact⟨fq (a:=some 101) HX.out.symm,by first|exact hb|exact hb.alloc hb.size _⟩
 cases ht:fH tag
 ·have hq:aW query=aW query:=rfl
  have HX:Hid (newL control tag query page=some 101):=by unfold newL;rw[hc,ht];rfl
  go_enter Tryz.func190,Tryz.ntmps190
  go_wp2_with (first|(go_at_call 69;refine(bW control _ h1).mono ?_;rintro e w' ⟨rfl,rfl⟩;rw[hc])|(go_at_call 193;refine(gT tag _ h2).mono ?_;rintro e w' ⟨rfl,rfl⟩;rw[ht])|(go_at_call 194;refine(fP query _ h3).mono ?_;rintro e w' ⟨rfl,rfl⟩;rw[hq]))
  go_ret
  exact⟨fq (a:=some 101) HX.out.symm,by first|exact hb|exact hb.alloc hb.size _⟩
 cases hq:aW query
 ·have HX:Hid (newL control tag query page=some 102):=by unfold newL;rw[hc,ht,hq];rfl
  go_enter Tryz.func190,Tryz.ntmps190
  go_wp2_with (first|(go_at_call 69;refine(bW control _ h1).mono ?_;rintro e w' ⟨rfl,rfl⟩;rw[hc])|(go_at_call 193;refine(gT tag _ h2).mono ?_;rintro e w' ⟨rfl,rfl⟩;rw[ht])|(go_at_call 194;refine(fP query _ h3).mono ?_;rintro e w' ⟨rfl,rfl⟩;rw[hq]))
  go_ret
  exact⟨fq (a:=some 102) HX.out.symm,by first|exact hb|exact hb.alloc hb.size _⟩
 cases hp:zQ page
 ·have hp':(decide (1≤page) && decide (page≤50))=false:=hp
  have HX:Hid (newL control tag query page=some 102):=by unfold newL;rw[hc,ht,hq,hp'];rfl
  clear hp'
  go_enter Tryz.func190,Tryz.ntmps190
  go_wp2_with (first|(go_at_call 69;refine(bW control _ h1).mono ?_;rintro e w' ⟨rfl,rfl⟩;rw[hc])|(go_at_call 193;refine(gT tag _ h2).mono ?_;rintro e w' ⟨rfl,rfl⟩;rw[ht])|(go_at_call 194;refine(fP query _ h3).mono ?_;rintro e w' ⟨rfl,rfl⟩;rw[hq])|(go_at_call 195;refine(BZ page _).mono ?_;rintro e w' ⟨rfl,rfl⟩;rw[hp]))
  go_ret
  exact⟨fq (a:=some 102) HX.out.symm,by first|exact hb|exact hb.alloc hb.size _⟩
 have hp':(decide (1≤page) && decide (page≤50))=true:=hp
 have HX:Hid (newL control tag query page=none):=by unfold newL;rw[hc,ht,hq,hp'];rfl
 clear hp'
 go_enter Tryz.func190,Tryz.ntmps190
 go_wp2_with (first|(go_at_call 69;refine(bW control _ h1).mono ?_;rintro e w' ⟨rfl,rfl⟩;rw[hc])|(go_at_call 193;refine(gT tag _ h2).mono ?_;rintro e w' ⟨rfl,rfl⟩;rw[ht])|(go_at_call 194;refine(fP query _ h3).mono ?_;rintro e w' ⟨rfl,rfl⟩;rw[hq])|(go_at_call 195;refine(BZ page _).mono ?_;rintro e w' ⟨rfl,rfl⟩;rw[hp]))
 go_ret
 exact⟨fq (a:=none) HX.out.symm,by first|exact hb|exact hb.alloc hb.size _⟩
set_option maxRecDepth 100000 in
set_option maxHeartbeats 2000000 in
theorem qo (control tag query pointer:ByteArray) (w:World) (h1:control.size≤9223372036854775807) (h2:tag.size≤9223372036854775807) (h3:query.size≤9223372036854775807) (h4:pointer.size≤9223372036854775807) :
  Calls Tryz.prog 198 #[.agg #[.string control,.string tag,.string query,.string pointer]] w fun e w'=>e=.returned (ku (gJ control tag query pointer))∧Below w.heap.size w w':=by
 have hb:=(Below.refl w.heap.size w).alloc (aS _) (Obj.cells #[.string control,.string tag,.string query,.string pointer] 98)
 cases hc:aL control
 ·have ht:fH tag=fH tag:=rfl
  have hq:aW query=aW query:=rfl
  have hp:aW pointer=aW pointer:=rfl
  have HX:Hid (gJ control tag query pointer=some 101):=by unfold gJ;rw[hc];rfl
  go_enter Tryz.func198,Tryz.ntmps198
  go_wp2_with (first|(go_at_call 69;refine(bW control _ h1).mono ?_;rintro e w' ⟨rfl,rfl⟩;rw[hc])|(go_at_call 193;refine(gT tag _ h2).mono ?_;rintro e w' ⟨rfl,rfl⟩;rw[ht])|(go_at_call 194;refine(fP _ _ (by first|exact h3|exact h4)).mono ?_;rintro e w' ⟨rfl,rfl⟩;first|rw[hq]|rw[hp]))
  go_ret
  exact⟨fq (a:=some 101) HX.out.symm,by first|exact hb|exact hb.alloc hb.size _⟩
 cases ht:fH tag
 ·have hq:aW query=aW query:=rfl
  have hp:aW pointer=aW pointer:=rfl
  have HX:Hid (gJ control tag query pointer=some 101):=by unfold gJ;rw[hc,ht];rfl
  go_enter Tryz.func198,Tryz.ntmps198
  go_wp2_with (first|(go_at_call 69;refine(bW control _ h1).mono ?_;rintro e w' ⟨rfl,rfl⟩;rw[hc])|(go_at_call 193;refine(gT tag _ h2).mono ?_;rintro e w' ⟨rfl,rfl⟩;rw[ht])|(go_at_call 194;refine(fP _ _ (by first|exact h3|exact h4)).mono ?_;rintro e w' ⟨rfl,rfl⟩;first|rw[hq]|rw[hp]))
  go_ret
  exact⟨fq (a:=some 101) HX.out.symm,by first|exact hb|exact hb.alloc hb.size _⟩
 cases hq:aW query
 ·have hp:aW pointer=aW pointer:=rfl
  have HX:Hid (gJ control tag query pointer=some 102):=by unfold gJ;rw[hc,ht,hq];rfl
  go_enter Tryz.func198,Tryz.ntmps198
  go_wp2_with (first|(go_at_call 69;refine(bW control _ h1).mono ?_;rintro e w' ⟨rfl,rfl⟩;rw[hc])|(go_at_call 193;refine(gT tag _ h2).mono ?_;rintro e w' ⟨rfl,rfl⟩;rw[ht])|(go_at_call 194;refine(fP _ _ (by first|exact h3|exact h4)).mono ?_;rintro e w' ⟨rfl,rfl⟩;first|rw[hq]|rw[hp]))
  go_ret
  exact⟨fq (a:=some 102) HX.out.symm,by first|exact hb|exact hb.alloc hb.size _⟩
 cases hp:aW pointer
 ·have HX:Hid (gJ control tag query pointer=some 102):=by unfold gJ;rw[hc,ht,hq,hp];rfl
  go_enter Tryz.func198,Tryz.ntmps198
  go_wp2_with (first|(go_at_call 69;refine(bW control _ h1).mono ?_;rintro e w' ⟨rfl,rfl⟩;rw[hc])|(go_at_call 193;refine(gT tag _ h2).mono ?_;rintro e w' ⟨rfl,rfl⟩;rw[ht])|(go_at_call 194;refine(fP _ _ (by first|exact h3|exact h4)).mono ?_;rintro e w' ⟨rfl,rfl⟩;first|rw[hq]|rw[hp]))
  go_ret
  exact⟨fq (a:=some 102) HX.out.symm,by first|exact hb|exact hb.alloc hb.size _⟩
 by_cases p1:pointer.size=0
 ·have e1:pointer=⟨#[]⟩:=by
   apply ByteArray.ext
   exact Array.eq_empty_of_size_eq_zero p1
  have e2:(pointer.toList == [])=true:=by rw[e1,ByteArray.toList_eq];rfl
  have HX:Hid (gJ control tag query pointer=some 102):=by unfold gJ;rw[hc,ht,hq,hp,decide_eq_false (p:=0<pointer.size) (by omega)];rfl
  clear e1 p1
  go_enter Tryz.func198,Tryz.ntmps198
  go_wp2_with (first|(go_at_call 69;refine(bW control _ h1).mono ?_;rintro e w' ⟨rfl,rfl⟩;rw[hc])|(go_at_call 193;refine(gT tag _ h2).mono ?_;rintro e w' ⟨rfl,rfl⟩;rw[ht])|(go_at_call 194;refine(fP _ _ (by first|exact h3|exact h4)).mono ?_;rintro e w' ⟨rfl,rfl⟩;first|rw[hq]|rw[hp]))
  go_ret
  exact⟨fq (a:=some 102) HX.out.symm,by first|exact hb|exact hb.alloc hb.size _⟩
 have e2:(pointer.toList == [])=false:=by
  rw[beq_eq_false_iff_ne,ByteArray.toList_eq]
  intro h
  apply p1
  have:=congrArg List.length h
  simpa using this
 have HX:Hid (gJ control tag query pointer=none):=by unfold gJ;rw[hc,ht,hq,hp,decide_eq_true (p:=0<pointer.size) (by omega)];rfl
 clear p1
 go_enter Tryz.func198,Tryz.ntmps198
 go_wp2_with (first|(go_at_call 69;refine(bW control _ h1).mono ?_;rintro e w' ⟨rfl,rfl⟩;rw[hc])|(go_at_call 193;refine(gT tag _ h2).mono ?_;rintro e w' ⟨rfl,rfl⟩;rw[ht])|(go_at_call 194;refine(fP _ _ (by first|exact h3|exact h4)).mono ?_;rintro e w' ⟨rfl,rfl⟩;first|rw[hq]|rw[hp]))
 go_ret
 exact⟨fq (a:=none) HX.out.symm,by first|exact hb|exact hb.alloc hb.size _⟩
set_option maxHeartbeats 400000 in
theorem oU (control tag query:ByteArray) (page:Int) (w:World) :
  Calls Tryz.prog 191 #[.agg #[.string control,.string tag,.string query,.int .i64 page]] w fun e w'=>e=.returned (bY ⟨1,control,tag,query,page,⟨#[]⟩⟩)∧Below w.heap.size w w':=by
 have hb:=(Below.refl w.heap.size w).alloc (aS _) (Obj.cells #[.string control,.string tag,.string query,.int .i64 page] 96)
 go_enter Tryz.func191,Tryz.ntmps191
 go_wp2_with fail
 exact bodyPost_ret (v:=bY ⟨1,control,tag,query,page,⟨#[]⟩⟩) (by simp[results,Tryz.results191,go_sem,bY]) rfl ⟨rfl,hb.alloc hb.size _⟩
set_option maxHeartbeats 400000 in
theorem nS (control tag query pointer:ByteArray) (w:World) :
  Calls Tryz.prog 199 #[.agg #[.string control,.string tag,.string query,.string pointer]] w fun e w'=>e=.returned (bY ⟨2,control,tag,query,0,pointer⟩)∧Below w.heap.size w w':=by
 have hb:=(Below.refl w.heap.size w).alloc (aS _) (Obj.cells #[.string control,.string tag,.string query,.string pointer] 98)
 go_enter Tryz.func199,Tryz.ntmps199
 go_wp2_with fail
 exact bodyPost_ret (v:=bY ⟨2,control,tag,query,0,pointer⟩) (by simp[results,Tryz.results199,go_sem,bY]) rfl ⟨rfl,hb.alloc hb.size _⟩
set_option maxHeartbeats 400000 in
theorem iA (control tag:ByteArray) (w:World) :
  Calls Tryz.prog 202 #[.agg #[.string control,.string tag]] w fun e w'=>e=.returned (bY ⟨3,control,tag,⟨#[]⟩,0,⟨#[]⟩⟩)∧Below w.heap.size w w':=by
 have hb:=(Below.refl w.heap.size w).alloc (aS _) (Obj.cells #[.string control,.string tag] 100)
 go_enter Tryz.func202,Tryz.ntmps202
 go_wp2_with fail
 exact bodyPost_ret (v:=bY ⟨3,control,tag,⟨#[]⟩,0,⟨#[]⟩⟩) (by simp[results,Tryz.results202,go_sem,bY]) rfl ⟨rfl,hb.alloc hb.size _⟩
end Go.Proofs.YtfdihjnlgdiioaaGreatDoor.dB
