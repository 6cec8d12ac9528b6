/- Contracts of the reference's string fields. -/
import Derived.Test.YtoplcelimdkjeaaGreatDoorMth
import Derived.BigQuiet
import Derived.Deep.QuietTactic
import Derived.WalkSmall
import Derived.WalkLawsBesides
set_option linter.unusedVariables false
set_option maxRecDepth 100000
namespace Go.Proofs.YtoplcelimdkjeaaGreatDoor
open Go.RowKit
open Go.OpenShut
end Go.Proofs.YtoplcelimdkjeaaGreatDoor
