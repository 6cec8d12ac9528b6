/- creelkeep.SameEntry; creelkeep.written: what every law on members asks first. -/
import Derived.Test.YtapgoifimhnbdaaGreatDoorEna
import Derived.Test.YtapgoifimhnbdaaGreatDoorMcv
import Derived.Test.YtapgoifimhnbdaaGreatDoorMer
set_option linter.unusedVariables false
set_option maxRecDepth 100000
namespace Go.Proofs.YtapgoifimhnbdaaGreatDoor
open Go.RowKit
open Go.OpenShut
def oneX:EntV:=⟨[97],1, [],⟨0,0,0, [], [],0,0⟩, [120]⟩
end Go.Proofs.YtapgoifimhnbdaaGreatDoor
