import Derived.Test.YtglcdcekkglmiaaGreatDoorG23
import Derived.Test.YtglcdcekkglmiaaGreatDoorG34
import Derived.Test.YtglcdcekkglmiaaGreatDoorG14
namespace Go.Proofs.YtglcdcekkglmiaaGreatDoor.Msg
open Go.ChangeShapes Go.WideShapes Go.ChangeAt Go.RowKit
set_option linter.unusedVariables false
set_option linter.unusedSimpArgs false
theorem chg_sizes {c:Chg} (h:chgB c=true):c.tag.size≤16∧c.query.size≤200:=by
 refine⟨tagB_size (chgB_tag h),?_⟩
 rcases chgB_cases h with⟨_,h,_⟩|⟨_,h,_⟩|⟨_,h,_⟩|⟨_,h,_⟩ <;> omega
def RcPost (w:World) (img:ByteArray) (e:Ending) (w':World):Prop:=∃u,e=.returned (.agg #[u])∧(∃ps,TE w.heap.size w' u ps∧ps.map Prod.fst=recovP img)∧Below w.heap.size w w'
end Go.Proofs.YtglcdcekkglmiaaGreatDoor.Msg
