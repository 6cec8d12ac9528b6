/- qaX of one kind, in one file: HedO, HedZ. -/
import Derived.Test.YtapgoifimhnbdaaGreatDoorHdp
import Derived.Test.YtapgoifimhnbdaaGreatDoorHdt
import Derived.Test.YtapgoifimhnbdaaGreatDoorFld
import Derived.Test.YtapgoifimhnbdaaGreatDoorOct
import Derived.Deep.DeepCutAuto
import Derived.Laws.EntriesVeiled
set_option linter.unusedVariables false
set_option maxRecDepth 100000
namespace Go.Proofs.YtapgoifimhnbdaaGreatDoor
open Go.RowKit
open Go.OpenShut
def Ro (a:Nat) (s:ByteArray) (er:Int) (hv:HeadV) (u w:World):Prop:=
 w.heap[a]?=some (.cells #[.string s] 9 (0,0))∧w.heap[a+1]?=some (.cells (qaN qbE) 152 (0,0))∧w.heap[a+1+1]?=some (.cells #[.int .i64 er] 24 (0,0))∧
 w.heap[a+1+1+1]?=some (.cells #[.func (.func 254) #[] #[.pointer (some ⟨a+1+1,0,none⟩)]] 257 (0,0))∧w.heap[a+1+1+1+1]?=some (.cells (qaN hv) 152 (0,0))∧Below a u w
def Bx (a r:Nat) (u w:World):Prop:=a≤r∧Below a u w
def w5 (w:World) (s:ByteArray):World:=((((w.alloc (.cells #[.string s] 9)).alloc (.cells (qaN qbE) 152)).alloc (.cells #[.int .i64 0] 24)).alloc (.cells #[.func (.func 254) #[] #[.pointer (some ⟨w.heap.size+1+1,0,none⟩)]] 257)).alloc (.cells (qaN qbE) 152)
end Go.Proofs.YtapgoifimhnbdaaGreatDoor
