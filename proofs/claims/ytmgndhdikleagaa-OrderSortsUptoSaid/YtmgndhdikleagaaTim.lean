/- Package stamp: what times are in range. -/
import Derived.Test.YtmgndhdikleagaaMth
import Derived.WalkSmall
set_option linter.unusedVariables false
set_option maxRecDepth 100000
namespace Go.Proofs.Ytmgndhdikleagaa
open Go.RowKit
open Go.OpenShut
end Go.Proofs.Ytmgndhdikleagaa
