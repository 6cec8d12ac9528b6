/- Contracts of the reference's string fields. -/
import Derived.Test.YtmgndhdikleagaaGreatDoorMth
import Derived.BigQuiet
import Derived.Deep.QuietTactic
import Derived.WalkSmall
import Derived.WalkLawsBesides
set_option linter.unusedVariables false
set_option maxRecDepth 100000
namespace Go.Proofs.YtmgndhdikleagaaGreatDoor
open Go.RowKit
open Go.OpenShut
end Go.Proofs.YtmgndhdikleagaaGreatDoor
