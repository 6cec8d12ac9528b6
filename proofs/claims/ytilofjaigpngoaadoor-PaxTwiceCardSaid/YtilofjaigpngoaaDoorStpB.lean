/- The text of a time: the program's and the reference's. -/
import Derived.Test.YtilofjaigpngoaaDoorStpA
import Derived.BigQuiet
import Derived.Deep.QuietTactic
set_option linter.unusedVariables false
set_option maxRecDepth 100000
namespace Go.Proofs.YtilofjaigpngoaaDoor
open Go.RowKit
open Go.OpenShut
theorem tText_yes {a b : Int} (h : inT a b = true) : tText a b = (bs (textL a b), 0) := if_pos h
theorem tText_no {a b : Int} (h : inT a b = false) : tText a b = (⟨#[]⟩, 4) := if_neg (by rw [h]; decide)
theorem dec_size (m : Nat) (h : m < 10 ^ 14) : (bs (Lib.decDigits m)).size ≤ 14 := by rw [bs_size]; exact decDigits_len m 13 h
theorem frac_size (n : Nat) : (bs (fracL n)).size ≤ 10 := by rw [bs_size]; exact fracL_len n
end Go.Proofs.YtilofjaigpngoaaDoor
