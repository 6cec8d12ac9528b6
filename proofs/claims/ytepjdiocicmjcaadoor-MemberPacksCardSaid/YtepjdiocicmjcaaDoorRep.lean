/- strings.ReplaceAll of one byte by another one, at every length that can be read; the laws' 'clean'. -/
import Derived.Test.YtepjdiocicmjcaaDoorMth
import Derived.Test.YtepjdiocicmjcaaDoorShelf
import Derived.Deep.LoopGhost
set_option linter.unusedVariables false
namespace Go.Proofs.YtepjdiocicmjcaaDoor
open Go.RowKit
open Go.OpenShut
theorem ext0 (s : ByteArray) (k : Nat) : s.extract 0 k = ⟨(s.data.toList.take k).toArray⟩ := by
  apply ByteArray.ext; apply Array.toList_inj.1
  rw [ByteArray.data_extract, Array.toList_extract]; simp [List.extract]
end Go.Proofs.YtepjdiocicmjcaaDoor
