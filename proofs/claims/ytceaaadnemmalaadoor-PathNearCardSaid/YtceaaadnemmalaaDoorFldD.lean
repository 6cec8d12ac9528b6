/- Package field's reading. -/
import Derived.Test.YtceaaadnemmalaaDoorFldA
import Derived.Test.YtceaaadnemmalaaDoorShelf
set_option linter.unusedVariables false
set_option maxRecDepth 100000
namespace Go.Proofs.YtceaaadnemmalaaDoor
open Go.RowKit
open Go.OpenShut
end Go.Proofs.YtceaaadnemmalaaDoor
