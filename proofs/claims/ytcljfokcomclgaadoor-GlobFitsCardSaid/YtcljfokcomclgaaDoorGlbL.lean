/- The laws of globs: GlobChecks, GlobFits. -/
import Derived.Test.YtcljfokcomclgaaDoorGlbP
import Derived.Test.YtcljfokcomclgaaDoorGlbE
set_option linter.unusedVariables false
set_option maxRecDepth 100000
namespace Go.Proofs.YtcljfokcomclgaaDoor
open Go.RowKit
open Go.OpenShut
theorem GlobChecks_walk (a0 : ByteArray) (w0 : a0.size ≤ maxLen) (w : World) : Calls Tryd.prog 3 #[.string a0] w fun e w' => e = .returned (.bool true) ∧ Below w.heap.size w w' := by
  go_enter Tryd.func3, Tryd.ntmps3
  go_wp2_with fail
  refine (gCheck_any a0 _ w0).mono ?_; rintro e w1 ⟨rfl, hB1⟩
  go_wp2_with fail
  refine (GlobFault_any a0 _ w0).mono ?_; rintro e w2 ⟨rfl, hB2⟩
  go_wp2_with fail
  go_ret
  exact ⟨rfl, hB1.trans (hB2.mono hB1.size)⟩
theorem GlobFits_walk (a0 a1 : ByteArray) (w0 : a0.size ≤ maxLen) (w1 : a1.size ≤ maxLen) (w : World) : Calls Tryd.prog 4 #[.string a0, .string a1] w fun e w' => e = .returned (.bool true) ∧ Below w.heap.size w w' := by
  go_enter Tryd.func4, Tryd.ntmps4
  go_wp2_with fail
  refine (gFits_any a0 a1 _ w0 w1).mono ?_; rintro e w2 ⟨rfl, hB1⟩
  go_wp2_with fail
  refine (GlobFits_any a0 a1 _ w0 w1).mono ?_; rintro e w3 ⟨rfl, hB2⟩
  go_wp2_with fail
  go_ret
  exact ⟨by simp, hB1.trans (hB2.mono hB1.size)⟩
end Go.Proofs.YtcljfokcomclgaaDoor
