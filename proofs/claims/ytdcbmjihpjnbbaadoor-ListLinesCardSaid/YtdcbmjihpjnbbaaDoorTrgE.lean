/- Copies of nodes and of trees: tree.Copy, and the reference's. -/
import Derived.Test.YtdcbmjihpjnbbaaDoorNod
import Derived.Test.YtdcbmjihpjnbbaaDoorFld
import Derived.Laws.MakeOwn
import Derived.Below
set_option linter.unusedVariables false
set_option maxRecDepth 100000
namespace Go.Proofs.YtdcbmjihpjnbbaaDoor
open Go.RowKit
open Go.OpenShut
open Go.Deep
end Go.Proofs.YtdcbmjihpjnbbaaDoor
