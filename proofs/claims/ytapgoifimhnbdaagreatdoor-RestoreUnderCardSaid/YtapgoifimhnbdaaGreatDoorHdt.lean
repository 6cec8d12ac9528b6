/- qaX of one kind, in one file: HedR, HedT. -/
import Derived.Test.YtapgoifimhnbdaaGreatDoorHdb
import Derived.Test.YtapgoifimhnbdaaGreatDoorFld
import Derived.Test.YtapgoifimhnbdaaGreatDoorOct
import Derived.StillTailTactics
import Derived.Deep.DeepCutAuto
import Derived.Lib.ConvBytes
set_option linter.unusedVariables false
set_option maxRecDepth 100000
namespace Go.Proofs.YtapgoifimhnbdaaGreatDoor
open Go.RowKit
open Go.OpenShut
def Rt (g:Nat) (h:HeadV) (u:World) (er:Int) (l:List UInt8) (n:Nat) (w:World):Prop:=
 w.heap[g]?=some (.cells (qaN h) 152 (0,0))∧w.heap[g+1]?=some (.cells #[.int .i64 er] 24 (0,0))∧w.heap[g+1+1]?=some (.cells #[.string (bs l)] 9 (0,0))∧Below g u w∧l.length≤512*n
end Go.Proofs.YtapgoifimhnbdaaGreatDoor
