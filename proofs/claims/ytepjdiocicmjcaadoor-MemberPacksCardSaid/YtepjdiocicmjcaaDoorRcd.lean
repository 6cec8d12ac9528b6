/- Texts of one kind, in one file: RecD, RecE. -/
import Derived.Test.YtepjdiocicmjcaaDoorRca
import Derived.Test.YtepjdiocicmjcaaDoorMth
import Derived.BigRegion
import Derived.Deep.RegionWith
/- Package record's reading. -/
set_option linter.unusedVariables false
set_option maxRecDepth 100000
namespace Go.Proofs.YtepjdiocicmjcaaDoor
open Go.RowKit
open Go.OpenShut
def recZ : Array Value := #[.string ⟨#[]⟩, .string ⟨#[]⟩]
end Go.Proofs.YtepjdiocicmjcaaDoor
/- Package record: Read. -/
set_option linter.unusedVariables false
set_option maxRecDepth 100000
namespace Go.Proofs.YtepjdiocicmjcaaDoor
open Go.RowKit
open Go.OpenShut
/-- what a reading gives: the record, the rest, the error -/
def rdV (r : List UInt8 × List UInt8 × List UInt8 × Int) : Value := .tuple #[recV (bs r.1) (bs r.2.1), .string (bs r.2.2.1), .int .i64 r.2.2.2]
theorem rdV_no (c : Int) : rdV ([], [], [], c) = .tuple #[.agg #[.string ⟨#[]⟩, .string ⟨#[]⟩], .string ⟨#[]⟩, .int .i64 c] := rfl
theorem ext0_list (s : ByteArray) (k : Nat) : (s.extract 0 k).data.toList = s.data.toList.take k := by
  rw [ByteArray.data_extract, Array.toList_extract]; simp [List.extract]
end Go.Proofs.YtepjdiocicmjcaaDoor
