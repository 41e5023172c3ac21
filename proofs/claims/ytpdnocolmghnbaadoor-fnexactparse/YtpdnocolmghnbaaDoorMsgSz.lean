import Derived.Test.YtpdnocolmghnbaaDoorMsgData
namespace Go.Proofs.YtpdnocolmghnbaaDoor.Msg
open Go.ChangeShapes Go.WideShapes Go.ChangeAt Go.RowKit

end Go.Proofs.YtpdnocolmghnbaaDoor.Msg
