/- The place of a path, by halving. -/
import Derived.Test.YtmgndhdikleagaaTrgD
import Derived.Test.YtmgndhdikleagaaTrgF
import Derived.Deep.DeepCutAuto
set_option linter.unusedVariables false
set_option maxRecDepth 100000
namespace Go.Proofs.Ytmgndhdikleagaa
open Go.RowKit
open Go.OpenShut
end Go.Proofs.Ytmgndhdikleagaa
