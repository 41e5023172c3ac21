import Derived.Test.YtlgobalcegapmabRowEncode
import Derived.Test.YtlgobalcegapmabImplEncode
namespace Go.Proofs.Ytlgobalcegapmab
theorem fnExactEncode_holds : Rows.FnExactEncodeSaid :=
  rowEncode.over fun xs v w _ hsz hv => Msg.encodeImpl_any xs v w hsz hv
#print axioms fnExactEncode_holds
end Go.Proofs.Ytlgobalcegapmab
