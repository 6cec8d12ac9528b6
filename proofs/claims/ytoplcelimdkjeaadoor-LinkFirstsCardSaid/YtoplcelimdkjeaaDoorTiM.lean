/- The range of times; nothing of the program. -/
import Derived.Test.YtoplcelimdkjeaaDoorFldM
set_option linter.unusedVariables false
namespace Go.Proofs.YtoplcelimdkjeaaDoor
open Go.RowKit
def inT (a b : Int) : Bool := decide (-1099511627776 ≤ a ∧ a ≤ 1099511627776 ∧ 0 ≤ b ∧ b ≤ 999999999)
theorem inT_mk {a b : Int} (h : -1099511627776 ≤ a ∧ a ≤ 1099511627776 ∧ 0 ≤ b ∧ b ≤ 999999999) : inT a b = true := decide_eq_true h
theorem inT_no {a b : Int} (h : ¬ (-1099511627776 ≤ a ∧ a ≤ 1099511627776 ∧ 0 ≤ b ∧ b ≤ 999999999)) : inT a b = false := decide_eq_false h
theorem inT_of {a b : Int} (h : inT a b = true) : -1099511627776 ≤ a ∧ a ≤ 1099511627776 ∧ 0 ≤ b ∧ b ≤ 999999999 := of_decide_eq_true h
end Go.Proofs.YtoplcelimdkjeaaDoor
