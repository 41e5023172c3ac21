import Derived.Test.YtjhgjfkjhoigjabDoorMsgData
namespace Go.Proofs.YtjhgjfkjhoigjabDoor.Msg
open Go.ChangeShapes Go.WideShapes Go.ChangeAt Go.RowKit

end Go.Proofs.YtjhgjfkjhoigjabDoor.Msg
