import Derived.Test.YtcebhdhppjinaabDoorMsgData
namespace Go.Proofs.YtcebhdhppjinaabDoor.Msg
open Go.ChangeShapes Go.WideShapes Go.ChangeAt Go.RowKit

end Go.Proofs.YtcebhdhppjinaabDoor.Msg
