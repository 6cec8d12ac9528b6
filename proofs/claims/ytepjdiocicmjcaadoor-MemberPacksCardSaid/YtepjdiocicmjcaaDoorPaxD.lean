/- Package pax: the record that a text begins with. -/
import Derived.Test.YtepjdiocicmjcaaDoorPaxC
import Derived.Test.YtepjdiocicmjcaaDoorRecG
import Derived.Lib.MinMax
set_option linter.unusedVariables false
set_option maxRecDepth 100000
namespace Go.Proofs.YtepjdiocicmjcaaDoor
open Go.RowKit
open Go.OpenShut
/-- what 'first' gives: the record, the size of its encoding, the error -/
def frV (l : List UInt8) : Value := .tuple #[.agg #[.string (bs (recR l).1), .string (bs (recR l).2.1)], .int .i64 (szR l : Nat), .int .i64 (recR l).2.2.2]
theorem frV_no {l : List UInt8} (h : (recR l).2.2.2 ≠ 0) : frV l = .tuple #[.agg #[.string ⟨#[]⟩, .string ⟨#[]⟩], .int .i64 0, .int .i64 (recR l).2.2.2] := by
  have e := recR_no h
  unfold frV
  rw [szR_no h]
  generalize (recR l).2.2.2 = c at *
  rw [e]; rfl
end Go.Proofs.YtepjdiocicmjcaaDoor
