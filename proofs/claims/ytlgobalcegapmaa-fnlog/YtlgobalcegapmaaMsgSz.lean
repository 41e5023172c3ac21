import Derived.Test.YtlgobalcegapmaaMsgData
namespace Go.Proofs.Ytlgobalcegapmaa.Msg
open Go.ChangeShapes Go.WideShapes Go.ChangeAt Go.RowKit

end Go.Proofs.Ytlgobalcegapmaa.Msg
