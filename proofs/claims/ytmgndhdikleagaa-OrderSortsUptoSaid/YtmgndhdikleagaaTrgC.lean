/- Maps of files by their numbers; isSameFile. -/
import Derived.Test.YtmgndhdikleagaaNodE
import Derived.Test.YtmgndhdikleagaaOwb
import Derived.MapKept
import Derived.Carry
set_option linter.unusedVariables false
set_option maxRecDepth 100000
namespace Go.Proofs.Ytmgndhdikleagaa
open Go.RowKit
open Go.OpenShut
end Go.Proofs.Ytmgndhdikleagaa
