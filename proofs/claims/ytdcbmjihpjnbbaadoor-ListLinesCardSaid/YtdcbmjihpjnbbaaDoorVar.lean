/- Package variables under calls that make memory. -/
import Derived.Test.YtdcbmjihpjnbbaaDoorNum
import Derived.Below
set_option linter.unusedVariables false
namespace Go.Proofs.YtdcbmjihpjnbbaaDoor
open Go.RowKit
theorem lt_of_var {P : Program} {w : World} {n : String} {g : Nat} {cs : Array Value} (hg : P.globalNamed n = some g) (h : w.var? P n = some cs) : g < w.heap.size := by
  unfold World.var? at h
  rw [hg] at h
  rcases Nat.lt_or_ge g w.heap.size with h' | h'
  · exact h'
  · simp [Array.getElem?_eq_none h'] at h
theorem var_below {P : Program} {w w' : World} {n : String} {g : Nat} {cs : Array Value} (hg : P.globalNamed n = some g) (h : w.var? P n = some cs) (hb : Below w.heap.size w w') : w'.var? P n = some cs := by
  have hl := lt_of_var hg h
  unfold World.var? at h ⊢
  rw [hg] at h ⊢
  simp only [Option.bind_some] at h ⊢
  rw [hb.block g hl]; exact h
end Go.Proofs.YtdcbmjihpjnbbaaDoor
