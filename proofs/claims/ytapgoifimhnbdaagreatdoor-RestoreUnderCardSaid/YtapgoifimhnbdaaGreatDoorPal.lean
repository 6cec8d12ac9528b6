/- qaX of one kind, in one file: PatL, Pat, GlqN. -/
import Derived.Test.YtapgoifimhnbdaaGreatDoorFlb
import Derived.Test.YtapgoifimhnbdaaGreatDoorMth
import Derived.Test.YtapgoifimhnbdaaGreatDoorGlq
import Derived.Test.YtapgoifimhnbdaaGreatDoorGlb
set_option linter.unusedVariables false
namespace Go.Proofs.YtapgoifimhnbdaaGreatDoor
open Go.RowKit
def patsL:List (List UInt8):= [[97], [42,42], [42], [97,47,42,42], [42,42,47,98], [63], [91,97,45,98,93], [91,33,97,93,42], [42,42,47,42,46,116,120,116], [120,42], [97,98,47,42], [42,42,47,110,42]]
def ruleT (r:RawV):qb1:=(decide (pick r.kind 2=0),patsL.getD (pick r.a 12).toNat [])
def partsP:List (List UInt8)→Int
 | []=>0
 |s::l=>if s= []then 9 else if (pieceF s).isNone then 3 else partsP l
def plainB (d:List UInt8):Bool:=d.all fun c=>decide (c≠42) &&decide (c≠63) &&decide (c≠91)
end Go.Proofs.YtapgoifimhnbdaaGreatDoor
