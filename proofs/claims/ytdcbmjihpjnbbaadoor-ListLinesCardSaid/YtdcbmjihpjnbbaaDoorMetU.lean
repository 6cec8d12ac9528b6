/- The laws on modes. -/
import Derived.Test.YtdcbmjihpjnbbaaDoorMetS
set_option linter.unusedVariables false
set_option maxRecDepth 100000
namespace Go.Proofs.YtdcbmjihpjnbbaaDoor
open Go.RowKit
open Go.OpenShut
theorem mdW_text {n : Nat} (h : n < 4096) : mdW (n : Int) = (bs (mdL n), 0) := by rw [mdW_ok ⟨by omega, by omega⟩, Int.toNat_natCast]
theorem metUText_any (n : Int) (w : World) (T : Thirds w) : Calls Tryd.prog 17 #[.int .i64 n] w fun e w' => e = .returned (.tuple #[.string (mdW n).1, .int .i64 (mdW n).2]) ∧ Below w.heap.size w w' := by
  rcases h : mdB n with _ | _
  · rw [mdW_no (mdB_off h)]
    exact (Text_no n w h).mono fun e w' ⟨he, hw⟩ => ⟨he, by rw [← hw]; exact Below.refl _ _⟩
  · obtain ⟨h1, h2⟩ := mdB_of h
    obtain ⟨m, rfl⟩ := Int.eq_ofNat_of_zero_le h1
    rw [mdW_text (by omega)]
    exact Text_yes m w T (by omega)
theorem metURText_any (n : Int) (w : World) : Calls Tryd.prog 34 #[.int .i64 n] w fun e w' => e = .returned (.tuple #[.string (mdW n).1, .int .i64 (mdW n).2]) ∧ Below w.heap.size w w' := by
  rcases h : mdB n with _ | _
  · rw [mdW_no (mdB_off h)]
    exact (rText_no n w h).mono fun e w' ⟨he, hw⟩ => ⟨he, by rw [← hw]; exact Below.refl _ _⟩
  · obtain ⟨h1, h2⟩ := mdB_of h
    obtain ⟨m, rfl⟩ := Int.eq_ofNat_of_zero_le h1
    rw [mdW_text (by omega)]
    exact rText_yes m w (by omega)
end Go.Proofs.YtdcbmjihpjnbbaaDoor
