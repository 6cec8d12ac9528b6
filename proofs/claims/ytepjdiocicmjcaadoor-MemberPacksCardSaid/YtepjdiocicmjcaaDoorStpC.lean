/- Package stamp's reading. -/
import Derived.Test.YtepjdiocicmjcaaDoorStpB
set_option linter.unusedVariables false
set_option maxRecDepth 100000
namespace Go.Proofs.YtepjdiocicmjcaaDoor
open Go.RowKit
open Go.OpenShut
end Go.Proofs.YtepjdiocicmjcaaDoor
