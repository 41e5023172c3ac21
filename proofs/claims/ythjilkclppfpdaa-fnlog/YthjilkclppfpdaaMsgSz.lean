import Derived.Test.YthjilkclppfpdaaMsgData
namespace Go.Proofs.Ythjilkclppfpdaa.Msg
open Go.ChangeShapes Go.WideShapes Go.ChangeAt Go.RowKit

end Go.Proofs.Ythjilkclppfpdaa.Msg
