/- Package stamp: what times are in range. -/
import Derived.Test.YtoplcelimdkjeaaGreatDoorMth
import Derived.WalkSmall
set_option linter.unusedVariables false
set_option maxRecDepth 100000
namespace Go.Proofs.YtoplcelimdkjeaaGreatDoor
open Go.RowKit
open Go.OpenShut
set_option maxHeartbeats 400000 in
theorem tCheck_any (a b : Int) (w : World) : Calls Tryz.prog 98 #[.int .i64 a, .int .i64 b] w fun e w' => e = .returned (.int .i64 (if inT a b = true then 0 else 4)) ∧ w = w' := by
  by_cases h : -1099511627776 ≤ a ∧ a ≤ 1099511627776 ∧ 0 ≤ b ∧ b ≤ 999999999
  · rw [if_pos (inT_mk h)]
    obtain ⟨h1, h2, h3, h4⟩ := h
    go_enter Tryz.func98, Tryz.ntmps98
    go_wp2
    go_ret
    exact ⟨rfl, rfl⟩
  · rw [if_neg (by rw [inT_no h]; decide)]
    rcases (show a < -1099511627776 ∨ (¬ a < -1099511627776 ∧ 1099511627776 < a) ∨ (¬ a < -1099511627776 ∧ ¬ 1099511627776 < a ∧ b < 0) ∨ (¬ a < -1099511627776 ∧ ¬ 1099511627776 < a ∧ ¬ b < 0 ∧ 999999999 < b) by omega) with h1 | ⟨h1, h2⟩ | ⟨h1, h2, h3⟩ | ⟨h1, h2, h3, h4⟩
    all_goals
      clear h
      go_enter Tryz.func98, Tryz.ntmps98
      go_wp2
      go_ret
      exact ⟨rfl, rfl⟩
end Go.Proofs.YtoplcelimdkjeaaGreatDoor
