/- The text of a time: the program's and the reference's. -/
import Derived.Test.YtdcbmjihpjnbbaaDoorStpA
import Derived.BigQuiet
import Derived.Deep.QuietTactic
set_option linter.unusedVariables false
set_option maxRecDepth 100000
namespace Go.Proofs.YtdcbmjihpjnbbaaDoor
open Go.RowKit
open Go.OpenShut
end Go.Proofs.YtdcbmjihpjnbbaaDoor
