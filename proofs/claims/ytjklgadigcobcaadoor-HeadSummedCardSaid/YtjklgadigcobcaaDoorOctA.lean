import Derived.Test.YtjklgadigcobcaaDoorNum
set_option linter.unusedVariables false
namespace Go.Proofs.YtjklgadigcobcaaDoor
open Go.RowKit
open Go.OpenShut

set_option maxHeartbeats 400000 in
theorem isWidth_any (x : Int) (w : World) : Calls Tryd.prog 50 #[.int .i64 x] w fun e w' => e = .returned (.bool (wOk x)) ∧ w = w' := by
  by_cases h2 : 2 ≤ x
  · by_cases h12 : x ≤ 12
    · rw [wOk_mk ⟨h2, h12⟩]
      go_enter Tryd.func50, Tryd.ntmps50
      go_wp2
      go_ret
      exact ⟨rfl, rfl⟩
    · rw [wOk_no (by omega)]
      go_enter Tryd.func50, Tryd.ntmps50
      go_wp2
      go_ret
      exact ⟨rfl, rfl⟩
  · rw [wOk_no (by omega)]
    go_enter Tryd.func50, Tryd.ntmps50
    go_wp2
    go_ret
    exact ⟨rfl, rfl⟩

set_option maxHeartbeats 400000 in
theorem Most_no (x : Int) (w : World) (h : wOk x = false) : Calls Tryd.prog 38 #[.int .i64 x] w fun e w' => e = .returned (.tuple #[.int .i64 0, .int .i64 4]) ∧ w = w' := by
  go_enter Tryd.func38, Tryd.ntmps38
  go_wp2_with (go_at_call 50; refine (isWidth_any _ _).mono ?_; rintro e w' ⟨rfl, rfl⟩)
  go_ret2
  exact ⟨rfl, rfl⟩
set_option maxHeartbeats 400000 in
theorem Most_yes (x : Int) (w : World) (h : 2 ≤ x ∧ x ≤ 12) : Calls Tryd.prog 38 #[.int .i64 x] w fun e w' => e = .returned (.tuple #[.int .i64 (most x), .int .i64 0]) ∧ w = w' := by
  have hw := wOk_mk h
  rcases split12 h with rfl | rfl | rfl | rfl | rfl | rfl | rfl | rfl | rfl | rfl | rfl
  all_goals
    go_enter Tryd.func38, Tryd.ntmps38
    go_wp2_with (go_at_call 50; refine (isWidth_any _ _).mono ?_; rintro e w' ⟨rfl, rfl⟩)
    go_ret2
    exact ⟨rfl, rfl⟩

theorem Most_any (x : Int) (w : World) : Calls Tryd.prog 38 #[.int .i64 x] w fun e w' => e = .returned (.tuple #[.int .i64 (mostV x).1, .int .i64 (mostV x).2]) ∧ w = w' := by
  by_cases h : 2 ≤ x ∧ x ≤ 12
  · rw [show mostV x = (most x, 0) by simp [mostV, h]]; exact Most_yes x w h
  · rw [show mostV x = (0, 4) from if_neg h]; exact Most_no x w (wOk_no h)
def digB (c : Int) : Bool := decide (48 ≤ c ∧ c ≤ 55)
set_option maxHeartbeats 400000 in
theorem isDigit_any (c : Int) (w : World) : Calls Tryd.prog 53 #[.int .u8 c] w fun e w' => e = .returned (.bool (digB c)) ∧ w = w' := by
  by_cases h2 : 48 ≤ c
  · by_cases h12 : c ≤ 55
    · rw [show digB c = true by simp [digB, h2, h12]]
      go_enter Tryd.func53, Tryd.ntmps53
      go_wp2
      go_ret
      exact ⟨rfl, rfl⟩
    · rw [show digB c = false by simp [digB, h12]]
      go_enter Tryd.func53, Tryd.ntmps53
      go_wp2
      go_ret
      exact ⟨rfl, rfl⟩
  · rw [show digB c = false by simp [digB, h2]]
    go_enter Tryd.func53, Tryd.ntmps53
    go_wp2
    go_ret
    exact ⟨rfl, rfl⟩



set_option maxHeartbeats 400000 in
theorem picked_any (n m : Int) (w : World) (hn : (Lit.int .i64 n).wf = true) (hm : 1 ≤ m) : Calls Tryd.prog 10 #[.int .i64 n, .int .i64 m] w fun e w' => e = .returned (.int .i64 (pick n m)) ∧ w = w' := by
  obtain ⟨b1, b2⟩ := bounds_i64 hn
  clear hn
  by_cases h : n < 0
  · have h9 : 0 ≤ -(n + 1) := by omega
    go_enter Tryd.func10, Tryd.ntmps10
    go_wp2
    go_ret
    exact ⟨ret_int (by rw [pick, if_pos h, ← Int.neg_tmod, Int.tmod_eq_emod_of_nonneg h9]), rfl⟩
  · go_enter Tryd.func10, Tryd.ntmps10
    go_wp2
    go_ret
    exact ⟨ret_int (by rw [pick, if_neg (by omega)]), rfl⟩
end Go.Proofs.YtjklgadigcobcaaDoor
