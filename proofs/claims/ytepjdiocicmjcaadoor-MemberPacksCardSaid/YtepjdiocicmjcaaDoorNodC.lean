/- The reference's faults of nodes; finding. -/
import Derived.Test.YtepjdiocicmjcaaDoorNoa
import Derived.Test.YtepjdiocicmjcaaDoorMth
import Derived.Test.YtepjdiocicmjcaaDoorSpl
set_option linter.unusedVariables false
set_option maxRecDepth 100000
namespace Go.Proofs.YtepjdiocicmjcaaDoor
open Go.RowKit
open Go.OpenShut
/-- texts and data are no longer than memory -/
def NodeV.sz (x : NodeV) : Prop := (x.path.length ≤ 140737488351232 ∧ x.target.length ≤ 140737488351232 ∧ x.data.length ≤ 140737488351232) ∧ x.md.sz
theorem NodeV.wf.sz {x : NodeV} (h : x.wf) : x.sz := ⟨h.1, h.2.1.1⟩
theorem bs_nil_eq {l : List UInt8} : ((bs l).toList == []) = decide (l = []) := by
  rw [ByteArray.toList_eq, Bool.eq_iff_iff, beq_iff_eq, decide_eq_true_eq]; exact Iff.rfl
end Go.Proofs.YtepjdiocicmjcaaDoor
