import Derived.Test.YtldffnmoafhidaaNum
set_option linter.unusedVariables false
namespace Go.Proofs.Ytldffnmoafhidaa
open Go.RowKit
open Go.OpenShut






set_option maxHeartbeats 400000 in
theorem picked_any (n m : Int) (w : World) (hn : (Lit.int .i64 n).wf = true) (hm : 1 ≤ m) : Calls Try.prog 9 #[.int .i64 n, .int .i64 m] w fun e w' => e = .returned (.int .i64 (pick n m)) ∧ w = w' := by
  obtain ⟨b1, b2⟩ := bounds_i64 hn
  clear hn
  by_cases h : n < 0
  · have h9 : 0 ≤ -(n + 1) := by omega
    go_enter Try.func9, Try.ntmps9
    go_wp2
    go_ret
    exact ⟨ret_int (by rw [pick, if_pos h, ← Int.neg_tmod, Int.tmod_eq_emod_of_nonneg h9]), rfl⟩
  · go_enter Try.func9, Try.ntmps9
    go_wp2
    go_ret
    exact ⟨ret_int (by rw [pick, if_neg (by omega)]), rfl⟩
end Go.Proofs.Ytldffnmoafhidaa
