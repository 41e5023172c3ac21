import Derived.Test.YtcebhdhppjinaabRowEncode
import Derived.Test.YtcebhdhppjinaabImplEncode
namespace Go.Proofs.Ytcebhdhppjinaab
theorem fnExactEncode_holds : Rows.FnExactEncodeSaid :=
  rowEncode.over fun xs v w _ hsz hv => Msg.encodeImpl_any xs v w hsz hv
#print axioms fnExactEncode_holds
end Go.Proofs.Ytcebhdhppjinaab
