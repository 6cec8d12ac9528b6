/- Package meta: what is told of a node is checked. -/
import Derived.Test.YthdkfpknblinfaaDoorMetV
import Derived.Test.YthdkfpknblinfaaDoorTim
import Derived.Test.YthdkfpknblinfaaDoorFldA
import Derived.Test.YthdkfpknblinfaaDoorFldB
import Derived.Test.YthdkfpknblinfaaDoorBlk
import Derived.Below
set_option linter.unusedVariables false
set_option maxRecDepth 100000
namespace Go.Proofs.YthdkfpknblinfaaDoor
open Go.RowKit
open Go.OpenShut
set_option maxHeartbeats 400000 in
theorem isMode_any (n : Int) (w : World) : Calls Tryd.prog 13 #[.int .i64 n] w fun e w' => e = .returned (.bool (mdB n)) ∧ w = w' := by
  by_cases h0 : 0 ≤ n
  · by_cases h1 : n ≤ 4095
    · rw [mdB_yes ⟨h0, h1⟩]
      go_enter Tryd.func13, Tryd.ntmps13
      go_wp2
      go_ret
      exact ⟨rfl, rfl⟩
    · rw [mdB_no (by omega)]
      go_enter Tryd.func13, Tryd.ntmps13
      go_wp2
      go_ret
      exact ⟨rfl, rfl⟩
  · rw [mdB_no (by omega)]
    go_enter Tryd.func13, Tryd.ntmps13
    go_wp2
    go_ret
    exact ⟨rfl, rfl⟩
end Go.Proofs.YthdkfpknblinfaaDoor
