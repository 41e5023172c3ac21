import Derived.Test.YtpbedpgikkkfcaaMsgData
namespace Go.Proofs.Ytpbedpgikkkfcaa.Msg
open Go.ChangeShapes Go.WideShapes Go.ChangeAt Go.RowKit

end Go.Proofs.Ytpbedpgikkkfcaa.Msg
