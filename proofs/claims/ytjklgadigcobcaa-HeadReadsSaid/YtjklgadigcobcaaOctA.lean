import Derived.Test.YtjklgadigcobcaaNum
set_option linter.unusedVariables false
namespace Go.Proofs.Ytjklgadigcobcaa
open Go.RowKit
open Go.OpenShut

set_option maxHeartbeats 400000 in
theorem isWidth_any (x : Int) (w : World) : Calls Try.prog 58 #[.int .i64 x] w fun e w' => e = .returned (.bool (wOk x)) ∧ w = w' := by
  by_cases h2 : 2 ≤ x
  · by_cases h12 : x ≤ 12
    · rw [wOk_mk ⟨h2, h12⟩]
      go_enter Try.func58, Try.ntmps58
      go_wp2
      go_ret
      exact ⟨rfl, rfl⟩
    · rw [wOk_no (by omega)]
      go_enter Try.func58, Try.ntmps58
      go_wp2
      go_ret
      exact ⟨rfl, rfl⟩
  · rw [wOk_no (by omega)]
    go_enter Try.func58, Try.ntmps58
    go_wp2
    go_ret
    exact ⟨rfl, rfl⟩

set_option maxHeartbeats 400000 in
theorem Most_no (x : Int) (w : World) (h : wOk x = false) : Calls Try.prog 49 #[.int .i64 x] w fun e w' => e = .returned (.tuple #[.int .i64 0, .int .i64 4]) ∧ w = w' := by
  go_enter Try.func49, Try.ntmps49
  go_wp2_with (go_at_call 58; refine (isWidth_any _ _).mono ?_; rintro e w' ⟨rfl, rfl⟩)
  go_ret2
  exact ⟨rfl, rfl⟩
set_option maxHeartbeats 400000 in
theorem Most_yes (x : Int) (w : World) (h : 2 ≤ x ∧ x ≤ 12) : Calls Try.prog 49 #[.int .i64 x] w fun e w' => e = .returned (.tuple #[.int .i64 (most x), .int .i64 0]) ∧ w = w' := by
  have hw := wOk_mk h
  rcases split12 h with rfl | rfl | rfl | rfl | rfl | rfl | rfl | rfl | rfl | rfl | rfl
  all_goals
    go_enter Try.func49, Try.ntmps49
    go_wp2_with (go_at_call 58; refine (isWidth_any _ _).mono ?_; rintro e w' ⟨rfl, rfl⟩)
    go_ret2
    exact ⟨rfl, rfl⟩

theorem Most_any (x : Int) (w : World) : Calls Try.prog 49 #[.int .i64 x] w fun e w' => e = .returned (.tuple #[.int .i64 (mostV x).1, .int .i64 (mostV x).2]) ∧ w = w' := by
  by_cases h : 2 ≤ x ∧ x ≤ 12
  · rw [show mostV x = (most x, 0) by simp [mostV, h]]; exact Most_yes x w h
  · rw [show mostV x = (0, 4) from if_neg h]; exact Most_no x w (wOk_no h)
def digB (c : Int) : Bool := decide (48 ≤ c ∧ c ≤ 55)
set_option maxHeartbeats 400000 in
theorem isDigit_any (c : Int) (w : World) : Calls Try.prog 61 #[.int .u8 c] w fun e w' => e = .returned (.bool (digB c)) ∧ w = w' := by
  by_cases h2 : 48 ≤ c
  · by_cases h12 : c ≤ 55
    · rw [show digB c = true by simp [digB, h2, h12]]
      go_enter Try.func61, Try.ntmps61
      go_wp2
      go_ret
      exact ⟨rfl, rfl⟩
    · rw [show digB c = false by simp [digB, h12]]
      go_enter Try.func61, Try.ntmps61
      go_wp2
      go_ret
      exact ⟨rfl, rfl⟩
  · rw [show digB c = false by simp [digB, h2]]
    go_enter Try.func61, Try.ntmps61
    go_wp2
    go_ret
    exact ⟨rfl, rfl⟩

set_option maxHeartbeats 400000 in
theorem power_any (x : Int) (w : World) (h0 : 0 ≤ x) (h1 : x ≤ 11) : Calls Try.prog 43 #[.int .i64 x] w fun e w' => e = .returned (.int .i64 (8 ^ x.toNat)) ∧ w = w' := by
  obtain ⟨n, rfl⟩ := Int.eq_ofNat_of_zero_le h0
  rw [Int.toNat_natCast]
  have hn : n ≤ 11 := by omega
  go_enter Try.func43, Try.ntmps43
  go_wp2
  go_loop [3, 4] (fun o i => ∃ k : Nat, k ≤ n ∧ i = .int .i64 k ∧ o = .int .i64 (8 ^ k)) (fun _ i => n - (intOf i).toNat)
  case atStart => exact ⟨0, Nat.zero_le _, rfl, rfl⟩
  case round =>
    obtain ⟨k, hk, rfl, rfl⟩ := hrel
    have hp1 := pow8_pos k
    by_cases hlt : k < n
    · have hp := pow8_le k (by omega)
      go_wp2
      go_round
      case rel => exact ⟨k + 1, by omega, by go_num, by rw [Int.pow_succ]⟩
      case measure => simp [intOf]; omega
    · have : k = n := by omega
      subst this
      go_wp2
      go_ret
      exact ⟨rfl, rfl⟩

set_option maxHeartbeats 400000 in
theorem rMost_no (x : Int) (w : World) (h : ¬ (2 ≤ x ∧ x ≤ 12)) : Calls Try.prog 38 #[.int .i64 x] w fun e w' => e = .returned (.tuple #[.int .i64 0, .int .i64 4]) ∧ w = w' := by
  by_cases h2 : x < 2
  · go_enter Try.func38, Try.ntmps38
    go_wp2
    go_ret2
    exact ⟨rfl, rfl⟩
  · have h3 : 12 < x := by omega
    go_enter Try.func38, Try.ntmps38
    go_wp2
    go_ret2
    exact ⟨rfl, rfl⟩
set_option maxHeartbeats 400000 in
theorem rMost_yes (x : Int) (w : World) (h : 2 ≤ x ∧ x ≤ 12) : Calls Try.prog 38 #[.int .i64 x] w fun e w' => e = .returned (.tuple #[.int .i64 (most x), .int .i64 0]) ∧ w = w' := by
  obtain ⟨h2, h3⟩ := h
  have hp := pow8_pos (x.toNat - 1)
  have hq := pow8_le (x.toNat - 1) (by omega)
  go_enter Try.func38, Try.ntmps38
  go_wp2_with (go_at_call 43; refine (power_any _ _ (by omega) (by omega)).mono ?_; rintro e w' ⟨rfl, rfl⟩)
  go_ret2
  exact ⟨rfl, rfl⟩

theorem rMost_any (x : Int) (w : World) : Calls Try.prog 38 #[.int .i64 x] w fun e w' => e = .returned (.tuple #[.int .i64 (mostV x).1, .int .i64 (mostV x).2]) ∧ w = w' := by
  by_cases h : 2 ≤ x ∧ x ≤ 12
  · rw [show mostV x = (most x, 0) by simp [mostV, h]]; exact rMost_yes x w h
  · rw [show mostV x = (0, 4) from if_neg h]; exact rMost_no x w h
end Go.Proofs.Ytjklgadigcobcaa
