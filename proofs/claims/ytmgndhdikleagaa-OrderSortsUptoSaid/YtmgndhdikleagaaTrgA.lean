/- tree.Right: a node by itself. -/
import Derived.Test.YtmgndhdikleagaaNodD
import Derived.Test.YtmgndhdikleagaaSplA
import Derived.Test.YtmgndhdikleagaaMetA
set_option linter.unusedVariables false
set_option maxRecDepth 100000
namespace Go.Proofs.Ytmgndhdikleagaa
open Go.RowKit
open Go.OpenShut
end Go.Proofs.Ytmgndhdikleagaa
