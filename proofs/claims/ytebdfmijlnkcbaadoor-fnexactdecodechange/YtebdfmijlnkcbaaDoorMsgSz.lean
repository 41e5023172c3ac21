import Derived.Test.YtebdfmijlnkcbaaDoorMsgData
namespace Go.Proofs.YtebdfmijlnkcbaaDoor.Msg
open Go.ChangeShapes Go.WideShapes Go.ChangeAt Go.RowKit

end Go.Proofs.YtebdfmijlnkcbaaDoor.Msg
