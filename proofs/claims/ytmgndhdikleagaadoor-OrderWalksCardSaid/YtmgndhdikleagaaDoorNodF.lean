/- Trees that are the same. -/
import Derived.Test.YtmgndhdikleagaaDoorNodE
import Derived.Deep.DeepCutAuto
set_option linter.unusedVariables false
set_option maxRecDepth 100000
namespace Go.Proofs.YtmgndhdikleagaaDoor
open Go.RowKit
open Go.OpenShut
end Go.Proofs.YtmgndhdikleagaaDoor
