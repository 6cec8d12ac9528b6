/- Package stamp: what times are in range. -/
import Derived.Test.YtoikpnjnljdpaaaDoorMth
import Derived.WalkSmall
set_option linter.unusedVariables false
set_option maxRecDepth 100000
namespace Go.Proofs.YtoikpnjnljdpaaaDoor
open Go.RowKit
open Go.OpenShut
set_option maxHeartbeats 400000 in
theorem tCheck_any (a b : Int) (w : World) : Calls Tryd.prog 34 #[.int .i64 a, .int .i64 b] w fun e w' => e = .returned (.int .i64 (if inT a b = true then 0 else 4)) ∧ w = w' := by
  by_cases h : -1099511627776 ≤ a ∧ a ≤ 1099511627776 ∧ 0 ≤ b ∧ b ≤ 999999999
  · rw [if_pos (inT_mk h)]
    obtain ⟨h1, h2, h3, h4⟩ := h
    go_enter Tryd.func34, Tryd.ntmps34
    go_wp2
    go_ret
    exact ⟨rfl, rfl⟩
  · rw [if_neg (by rw [inT_no h]; decide)]
    rcases (show a < -1099511627776 ∨ (¬ a < -1099511627776 ∧ 1099511627776 < a) ∨ (¬ a < -1099511627776 ∧ ¬ 1099511627776 < a ∧ b < 0) ∨ (¬ a < -1099511627776 ∧ ¬ 1099511627776 < a ∧ ¬ b < 0 ∧ 999999999 < b) by omega) with h1 | ⟨h1, h2⟩ | ⟨h1, h2, h3⟩ | ⟨h1, h2, h3, h4⟩
    all_goals
      clear h
      go_enter Tryd.func34, Tryd.ntmps34
      go_wp2
      go_ret
      exact ⟨rfl, rfl⟩
set_option maxHeartbeats 400000 in
theorem rFault_time (a b : Int) (w : World) : Calls Tryd.prog 36 #[.int .i64 a, .int .i64 b] w fun e w' => e = .returned (.int .i64 (if inT a b = true then 0 else 4)) ∧ w = w' := by
  by_cases h : -1099511627776 ≤ a ∧ a ≤ 1099511627776 ∧ 0 ≤ b ∧ b ≤ 999999999
  · rw [if_pos (inT_mk h)]
    obtain ⟨h1, h2, h3, h4⟩ := h
    go_enter Tryd.func36, Tryd.ntmps36
    go_wp2
    go_ret
    exact ⟨rfl, rfl⟩
  · rw [if_neg (by rw [inT_no h]; decide)]
    rcases (show a < -1099511627776 ∨ (¬ a < -1099511627776 ∧ 1099511627776 < a) ∨ (¬ a < -1099511627776 ∧ ¬ 1099511627776 < a ∧ b < 0) ∨ (¬ a < -1099511627776 ∧ ¬ 1099511627776 < a ∧ ¬ b < 0 ∧ 1000000000 ≤ b) by omega) with h1 | ⟨h1, h2⟩ | ⟨h1, h2, h3⟩ | ⟨h1, h2, h3, h4⟩
    all_goals
      clear h
      go_enter Tryd.func36, Tryd.ntmps36
      go_wp2
      go_ret
      exact ⟨rfl, rfl⟩
end Go.Proofs.YtoikpnjnljdpaaaDoor
