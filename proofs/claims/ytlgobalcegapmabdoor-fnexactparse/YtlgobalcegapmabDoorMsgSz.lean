import Derived.Test.YtlgobalcegapmabDoorMsgData
namespace Go.Proofs.YtlgobalcegapmabDoor.Msg
open Go.ChangeShapes Go.WideShapes Go.ChangeAt Go.RowKit

end Go.Proofs.YtlgobalcegapmabDoor.Msg
