/- Texts of one kind, in one file: MemD, MemW, StpD, MemT. -/
import Derived.Test.YtldffnmoafhidaaGreatDoorMcv
import Derived.Test.YtldffnmoafhidaaGreatDoorMgh
import Derived.Test.YtldffnmoafhidaaGreatDoorHdo
import Derived.Test.YtldffnmoafhidaaGreatDoorPda
import Derived.Deep.RegionHeld3
import Derived.Deep.RegionWith
import Derived.Test.YtldffnmoafhidaaGreatDoorMth
import Derived.Test.YtldffnmoafhidaaGreatDoorHdp
import Derived.Lib.MinMax
import Derived.Test.YtldffnmoafhidaaGreatDoorRca
import Derived.Test.YtldffnmoafhidaaGreatDoorEna
/- The reference's first block of bytes: first. (Stage 17, ahead.) -/
set_option linter.unusedVariables false
set_option maxRecDepth 100000
namespace Go.Proofs.YtldffnmoafhidaaGreatDoor
open Go.RowKit
open Go.OpenShut
end Go.Proofs.YtldffnmoafhidaaGreatDoor
/- Package member: decode. -/
set_option linter.unusedVariables false
set_option maxRecDepth 100000
namespace Go.Proofs.YtldffnmoafhidaaGreatDoor
open Go.RowKit
open Go.OpenShut
end Go.Proofs.YtldffnmoafhidaaGreatDoor
/- Package stamp's Parse. -/
set_option linter.unusedVariables false
set_option maxRecDepth 100000
namespace Go.Proofs.YtldffnmoafhidaaGreatDoor
open Go.RowKit
open Go.OpenShut
end Go.Proofs.YtldffnmoafhidaaGreatDoor
/- Package member: take. -/
set_option linter.unusedVariables false
set_option maxRecDepth 100000
namespace Go.Proofs.YtldffnmoafhidaaGreatDoor
open Go.RowKit
open Go.OpenShut
end Go.Proofs.YtldffnmoafhidaaGreatDoor
