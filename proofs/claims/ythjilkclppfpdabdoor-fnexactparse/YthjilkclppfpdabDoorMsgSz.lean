import Derived.Test.YthjilkclppfpdabDoorMsgData
namespace Go.Proofs.YthjilkclppfpdabDoor.Msg
open Go.ChangeShapes Go.WideShapes Go.ChangeAt Go.RowKit

end Go.Proofs.YthjilkclppfpdabDoor.Msg
