import Derived.Test.YtpbedpgikkkfcabDoorMsgData
namespace Go.Proofs.YtpbedpgikkkfcabDoor.Msg
open Go.ChangeShapes Go.WideShapes Go.ChangeAt Go.RowKit

end Go.Proofs.YtpbedpgikkkfcabDoor.Msg
