/- The reference's fault of a tree. -/
import Derived.Test.YtmgndhdikleagaaGreatDoorNodG
import Derived.Test.YtmgndhdikleagaaGreatDoorNodD
import Derived.Test.YtmgndhdikleagaaGreatDoorPrtA
import Derived.Test.YtmgndhdikleagaaGreatDoorNodE
import Derived.Deep.RegionHeld3
import Derived.Deep.DeepCutAuto
import Derived.Deep.QuietTactic
import Derived.BigQuiet
set_option linter.unusedVariables false
set_option maxRecDepth 100000
namespace Go.Proofs.YtmgndhdikleagaaGreatDoor
open Go.RowKit
open Go.OpenShut
end Go.Proofs.YtmgndhdikleagaaGreatDoor
