/- Nodes that are the same. -/
import Derived.Test.YtoikpnjnljdpaaaDoorEntD
import Derived.Test.YtoikpnjnljdpaaaDoorNodE
set_option linter.unusedVariables false
set_option maxRecDepth 100000
namespace Go.Proofs.YtoikpnjnljdpaaaDoor
open Go.RowKit
open Go.OpenShut
end Go.Proofs.YtoikpnjnljdpaaaDoor
