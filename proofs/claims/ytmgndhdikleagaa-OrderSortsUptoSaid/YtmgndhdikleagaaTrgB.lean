/- Finding by a closure: slices.IndexFunc, slices.ContainsFunc, tree.Find. -/
import Derived.Test.YtmgndhdikleagaaNodE
import Derived.Test.YtmgndhdikleagaaNodD
import Derived.Test.YtmgndhdikleagaaPthA
import Derived.Deep.DeepCutAuto
set_option linter.unusedVariables false
set_option maxRecDepth 100000
namespace Go.Proofs.Ytmgndhdikleagaa
open Go.RowKit
open Go.OpenShut
theorem idx_stop {P : NodeV → Bool} {l : List NodeV} {k : Nat} (hk : k < l.length) (h : k ≤ l.findIdx P) (hp : P l[k] = true) : l.findIdx P = k := by
  rcases Nat.lt_or_eq_of_le h with h' | h'
  · exact absurd hp (by simpa using List.not_of_lt_findIdx h')
  · exact h'.symm
theorem idx_step {P : NodeV → Bool} {l : List NodeV} {k : Nat} (hk : k < l.length) (h : k ≤ l.findIdx P) (hp : P l[k] = false) : k + 1 ≤ l.findIdx P := by
  rcases Nat.lt_or_eq_of_le h with h' | h'
  · exact h'
  · have h1 : l.findIdx P < l.length := by omega
    have := List.findIdx_getElem (w := h1)
    simp only [← h'] at this
    rw [hp] at this; cases this
theorem idx_le (P : NodeV → Bool) (l : List NodeV) : l.findIdx P ≤ l.length := List.findIdx_le_length
/-- the place of the first, or -1 -/
def idxI (P : NodeV → Bool) (l : List NodeV) : Int := if l.findIdx P < l.length then (l.findIdx P : Int) else -1
theorem idxI_yes {P : NodeV → Bool} {l : List NodeV} (h : l.findIdx P < l.length) : idxI P l = (l.findIdx P : Nat) := if_pos h
theorem idxI_no {P : NodeV → Bool} {l : List NodeV} (h : l.findIdx P = l.length) : idxI P l = -1 := if_neg (by omega)
theorem idxI_any (P : NodeV → Bool) (l : List NodeV) : decide (0 ≤ idxI P l) = l.any P := by
  unfold idxI
  rw [Bool.eq_iff_iff, decide_eq_true_eq, List.any_eq_true, ← List.findIdx_lt_length]
  split
  · rename_i h; exact ⟨fun _ => h, fun _ => by omega⟩
  · rename_i h; exact ⟨fun e => absurd e (by omega), fun e => absurd e h⟩
theorem findL_idx (l : List NodeV) (s : List UInt8) : findL l s = l.findIdx fun n => decide (n.path = s) := by
  induction l with
  | nil => rfl
  | cons a l ih =>
    rw [List.findIdx_cons]
    unfold findL at *
    rw [List.takeWhile_cons]
    by_cases e : a.path = s
    · simp [e]
    · simp [e, ih]
end Go.Proofs.Ytmgndhdikleagaa
