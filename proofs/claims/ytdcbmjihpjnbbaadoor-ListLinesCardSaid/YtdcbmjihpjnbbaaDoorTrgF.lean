/- Copies of trees: tree.Copy, and the reference's. -/
import Derived.Test.YtdcbmjihpjnbbaaDoorTrgE
import Derived.Deep.DeepCutAuto
set_option linter.unusedVariables false
set_option maxRecDepth 100000
namespace Go.Proofs.YtdcbmjihpjnbbaaDoor
open Go.RowKit
open Go.OpenShut
end Go.Proofs.YtdcbmjihpjnbbaaDoor
