import Derived.Test.YtfeccdhadgpnkaaMsgData
namespace Go.Proofs.Ytfeccdhadgpnkaa.Msg
open Go.ChangeShapes Go.WideShapes Go.ChangeAt Go.RowKit

end Go.Proofs.Ytfeccdhadgpnkaa.Msg
