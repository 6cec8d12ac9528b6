/- Trees alike: creelkeep.Alike. -/
import Derived.Test.YtoplcelimdkjeaaDoorMth
import Derived.Test.YtoplcelimdkjeaaDoorLnkP
import Derived.Test.YtoplcelimdkjeaaDoorKep
set_option linter.unusedVariables false
set_option maxRecDepth 100000
namespace Go.Proofs.YtoplcelimdkjeaaDoor
open Go.RowKit
open Go.OpenShut
end Go.Proofs.YtoplcelimdkjeaaDoor
