import Derived.Test.YtpbedpgikkkfcabCrashFns
namespace Go.Proofs.Ytpbedpgikkkfcab.Msg
open Go.ChangeShapes Go.WideShapes Go.ChangeAt Go.RowKit
set_option linter.unusedVariables false
set_option linter.unusedSimpArgs false

end Go.Proofs.Ytpbedpgikkkfcab.Msg
