import Derived.Test.YtepjdiocicmjcaaDoorNum
set_option linter.unusedVariables false
namespace Go.Proofs.YtepjdiocicmjcaaDoor
open Go.RowKit
open Go.OpenShut

set_option maxHeartbeats 400000 in
theorem isWidth_any (x : Int) (w : World) : Calls Tryd.prog 44 #[.int .i64 x] w fun e w' => e = .returned (.bool (wOk x)) ∧ w = w' := by
  by_cases h2 : 2 ≤ x
  · by_cases h12 : x ≤ 12
    · rw [wOk_mk ⟨h2, h12⟩]
      go_enter Tryd.func44, Tryd.ntmps44
      go_wp2
      go_ret
      exact ⟨rfl, rfl⟩
    · rw [wOk_no (by omega)]
      go_enter Tryd.func44, Tryd.ntmps44
      go_wp2
      go_ret
      exact ⟨rfl, rfl⟩
  · rw [wOk_no (by omega)]
    go_enter Tryd.func44, Tryd.ntmps44
    go_wp2
    go_ret
    exact ⟨rfl, rfl⟩

set_option maxHeartbeats 400000 in
theorem Most_no (x : Int) (w : World) (h : wOk x = false) : Calls Tryd.prog 30 #[.int .i64 x] w fun e w' => e = .returned (.tuple #[.int .i64 0, .int .i64 4]) ∧ w = w' := by
  go_enter Tryd.func30, Tryd.ntmps30
  go_wp2_with (go_at_call 44; refine (isWidth_any _ _).mono ?_; rintro e w' ⟨rfl, rfl⟩)
  go_ret2
  exact ⟨rfl, rfl⟩
set_option maxHeartbeats 400000 in
theorem Most_yes (x : Int) (w : World) (h : 2 ≤ x ∧ x ≤ 12) : Calls Tryd.prog 30 #[.int .i64 x] w fun e w' => e = .returned (.tuple #[.int .i64 (most x), .int .i64 0]) ∧ w = w' := by
  have hw := wOk_mk h
  rcases split12 h with rfl | rfl | rfl | rfl | rfl | rfl | rfl | rfl | rfl | rfl | rfl
  all_goals
    go_enter Tryd.func30, Tryd.ntmps30
    go_wp2_with (go_at_call 44; refine (isWidth_any _ _).mono ?_; rintro e w' ⟨rfl, rfl⟩)
    go_ret2
    exact ⟨rfl, rfl⟩

theorem Most_any (x : Int) (w : World) : Calls Tryd.prog 30 #[.int .i64 x] w fun e w' => e = .returned (.tuple #[.int .i64 (mostV x).1, .int .i64 (mostV x).2]) ∧ w = w' := by
  by_cases h : 2 ≤ x ∧ x ≤ 12
  · rw [show mostV x = (most x, 0) by simp [mostV, h]]; exact Most_yes x w h
  · rw [show mostV x = (0, 4) from if_neg h]; exact Most_no x w (wOk_no h)



end Go.Proofs.YtepjdiocicmjcaaDoor
