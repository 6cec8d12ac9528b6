/- qaX of one kind, in one file: Str. -/
import Derived.Test.YtapgoifimhnbdaaGreatDoorMth
import Derived.BigQuiet
import Derived.Deep.QuietTactic
set_option linter.unusedVariables false
namespace Go.Proofs.YtapgoifimhnbdaaGreatDoor
open Go.RowKit
def hasPre (s p:ByteArray):Bool:=decide (p.data.toList<+:s.data.toList)
theorem qlK (s:ByteArray) (a b:Nat):(s.extract a b).data.toList=(s.data.toList.take b).drop a:=by
 rw [ByteArray.data_extract,Array.toList_extract];simp [List.extract,List.drop_take]
end Go.Proofs.YtapgoifimhnbdaaGreatDoor
