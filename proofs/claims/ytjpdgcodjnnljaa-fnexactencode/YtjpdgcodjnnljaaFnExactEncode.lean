import Derived.Test.YtjpdgcodjnnljaaRowEncode
import Derived.Test.YtjpdgcodjnnljaaImplEncode
namespace Go.Proofs.Ytjpdgcodjnnljaa
theorem fnExactEncode_holds : Rows.FnExactEncodeSaid :=
  rowEncode.over fun xs v w _ hsz hv => Msg.encodeImpl_any xs v w hsz hv
#print axioms fnExactEncode_holds
end Go.Proofs.Ytjpdgcodjnnljaa
