import Derived.Test.YtpbedpgikkkfcabRowEncode
import Derived.Test.YtpbedpgikkkfcabImplEncode
namespace Go.Proofs.Ytpbedpgikkkfcab
theorem fnExactEncode_holds : Rows.FnExactEncodeSaid :=
  rowEncode.over fun xs v w _ hsz hv => Msg.encodeImpl_any xs v w hsz hv
#print axioms fnExactEncode_holds
end Go.Proofs.Ytpbedpgikkkfcab
