import Derived.Test.YthjilkclppfpdacMsgData
namespace Go.Proofs.Ythjilkclppfpdac.Msg
open Go.ChangeShapes Go.WideShapes Go.ChangeAt Go.RowKit

end Go.Proofs.Ythjilkclppfpdac.Msg
