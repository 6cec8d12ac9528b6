/- The reference's fault of a tree. -/
import Derived.Test.YtmgndhdikleagaaNodG
import Derived.Test.YtmgndhdikleagaaNodD
import Derived.Test.YtmgndhdikleagaaPrtA
import Derived.Test.YtmgndhdikleagaaNodE
import Derived.Deep.RegionHeld3
import Derived.Deep.DeepCutAuto
import Derived.Deep.QuietTactic
import Derived.BigQuiet
set_option linter.unusedVariables false
set_option maxRecDepth 100000
namespace Go.Proofs.Ytmgndhdikleagaa
open Go.RowKit
open Go.OpenShut
end Go.Proofs.Ytmgndhdikleagaa
