/- The reference's finding. -/
import Derived.Test.YtepjdiocicmjcaaDoorNodC
set_option linter.unusedVariables false
set_option maxRecDepth 100000
namespace Go.Proofs.YtepjdiocicmjcaaDoor
open Go.RowKit
open Go.OpenShut
theorem bs_eq {a b : List UInt8} : ((bs a).toList == (bs b).toList) = decide (a = b) := by
  rw [str_eq, Bool.eq_iff_iff, decide_eq_true_eq, decide_eq_true_eq]
  exact ⟨fun e => congrArg (fun s : ByteArray => s.data.toList) e, fun e => by rw [e]⟩
end Go.Proofs.YtepjdiocicmjcaaDoor
