import Derived.Test.YtodpipjfdaapaaaImplSegInwithMsgOk2
namespace Go.Proofs.Ytodpipjfdaapaaa.Msg
open Go.ChangeShapes Go.WideShapes Go.ChangeAt Go.RowKit
set_option linter.unusedVariables false
set_option linter.unusedSimpArgs false

end Go.Proofs.Ytodpipjfdaapaaa.Msg

namespace Go.Proofs.Ytodpipjfdaapaaa.Msg
open Go.ChangeShapes Go.WideShapes Go.ChangeAt Go.RowKit
set_option linter.unusedVariables false
set_option linter.unusedSimpArgs false

end Go.Proofs.Ytodpipjfdaapaaa.Msg
