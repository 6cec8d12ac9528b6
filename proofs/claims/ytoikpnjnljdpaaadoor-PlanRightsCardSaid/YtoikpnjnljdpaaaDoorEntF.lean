/- Trees that are the same. -/
import Derived.Test.YtoikpnjnljdpaaaDoorEntE
import Derived.Deep.DeepCutAuto
set_option linter.unusedVariables false
set_option maxRecDepth 100000
namespace Go.Proofs.YtoikpnjnljdpaaaDoor
open Go.RowKit
open Go.OpenShut
end Go.Proofs.YtoikpnjnljdpaaaDoor
