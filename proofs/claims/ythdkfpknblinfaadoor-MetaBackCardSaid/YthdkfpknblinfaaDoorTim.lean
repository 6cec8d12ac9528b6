/- Package stamp: what times are in range. -/
import Derived.Test.YthdkfpknblinfaaDoorTiM
import Derived.WalkSmall
set_option linter.unusedVariables false
set_option maxRecDepth 100000
namespace Go.Proofs.YthdkfpknblinfaaDoor
open Go.RowKit
open Go.OpenShut
end Go.Proofs.YthdkfpknblinfaaDoor
