import Derived.Test.YtjpdgcodjnnljaaRowGet
import Derived.Test.YtjpdgcodjnnljaaImplGet
namespace Go.Proofs.Ytjpdgcodjnnljaa
theorem fnExactGet_holds : Rows.FnExactGetSaid :=
  rowGet.over fun xs name field comp v w _ hsz hn hf hc hv => Msg.getImpl_any xs name field comp v w (by omega) (by unfold Msg.msgSz Msg.lenSum at hsz; omega) hf.1 hf.2 hc.1 hc.2 hv hsz
#print axioms fnExactGet_holds
end Go.Proofs.Ytjpdgcodjnnljaa
