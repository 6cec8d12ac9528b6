/- The walk of the law on package pax's reading. -/
import Derived.Test.YtldffnmoafhidaaGreatDoorPxa
import Derived.Test.YtldffnmoafhidaaGreatDoorLaid
import Derived.BigQuiet
set_option linter.unusedVariables false
set_option maxRecDepth 100000
namespace Go.Proofs.YtldffnmoafhidaaGreatDoor
open Go.RowKit
open Go.OpenShut
end Go.Proofs.YtldffnmoafhidaaGreatDoor
