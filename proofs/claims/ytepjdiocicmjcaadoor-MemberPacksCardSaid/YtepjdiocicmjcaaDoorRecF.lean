/- The reference's reading of a record. -/
import Derived.Test.YtepjdiocicmjcaaDoorRca
import Derived.Test.YtepjdiocicmjcaaDoorRcd
set_option linter.unusedVariables false
set_option maxRecDepth 100000
namespace Go.Proofs.YtepjdiocicmjcaaDoor
open Go.RowKit
open Go.OpenShut
end Go.Proofs.YtepjdiocicmjcaaDoor
