/- The law of the comparing of paths against the reference. -/
import Derived.Test.YtjnbplilkcbioaaPrtA
set_option linter.unusedVariables false
namespace Go.Proofs.Ytjnbplilkcbioaa
open Go.RowKit
open Go.OpenShut
set_option maxHeartbeats 400000 in
theorem PathCompares_walk (a0 a1 : ByteArray) (w0 : a0.size ≤ maxLen) (w1 : a1.size ≤ maxLen) (hb : a0.data.toList.length + 1 + (a1.data.toList.length + 1 + 0) ≤ 1048576) (w : World) :
    Calls Try.prog 3 #[.string a0, .string a1] w fun e w' => e = .returned (.bool true) ∧ Below w.heap.size w w' := by
  simp at hb
  go_enter Try.func3, Try.ntmps3
  go_wp2_with fail
  refine (In_any _ _ _ w0 w1).mono ?_; rintro e w' ⟨rfl, rfl⟩
  go_wp2_with fail
  refine (Compare_any _ _ _ w0 w1).mono ?_; rintro e w' ⟨rfl, n1, rfl⟩
  go_wp2_with fail
  refine (rIn_any _ _ _ w0 w1).mono ?_; rintro e w' ⟨rfl, rfl⟩
  go_wp2_with fail
  refine (rOrder_any _ _ _ (by omega) (by omega)).mono ?_; rintro e w2 ⟨rfl, hB⟩
  have HB := Lib.hid hB
  clear hB
  go_wp2_with fail
  go_ret
  exact ⟨rfl, (drewN_below (Below.refl _ _) _).trans HB.out⟩
end Go.Proofs.Ytjnbplilkcbioaa
