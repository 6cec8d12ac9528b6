/- The reference's fault of a tree. -/
import Derived.Test.YtoplcelimdkjeaaGreatDoorNodG
import Derived.Test.YtoplcelimdkjeaaGreatDoorNodD
import Derived.Test.YtoplcelimdkjeaaGreatDoorPrtA
import Derived.Test.YtoplcelimdkjeaaGreatDoorNodE
import Derived.Deep.RegionHeld3
import Derived.Deep.DeepCutAuto
import Derived.Deep.QuietTactic
import Derived.BigQuiet
set_option linter.unusedVariables false
set_option maxRecDepth 100000
namespace Go.Proofs.YtoplcelimdkjeaaGreatDoor
open Go.RowKit
open Go.OpenShut
end Go.Proofs.YtoplcelimdkjeaaGreatDoor
