/- What the last rule that fits says: mathematics of package filter. -/
import Derived.Test.YtilmfnlhpnbngaaGreatDoorFltA
set_option linter.unusedVariables false
set_option maxRecDepth 100000
namespace Go.Proofs.YtilmfnlhpnbngaaGreatDoor
open Go.RowKit
open Go.OpenShut
/-- what has come when the indexes n - 1, .., k are over -/
def downF {α : Type} (f : Nat → α) (n k : Nat) : List α := (List.range (n - k)).map fun t => f (n - 1 - t)
theorem downF_full {α : Type} (f : Nat → α) (n : Nat) : downF f n n = [] := by simp [downF]
theorem downF_step {α : Type} (f : Nat → α) {n k : Nat} (h : k < n) : downF f n k = downF f n (k + 1) ++ [f k] := by
  unfold downF
  rw [show n - k = (n - (k + 1)) + 1 by omega, List.range_succ, List.map_append, List.map_singleton, show n - 1 - (n - (k + 1)) = k by omega]
theorem downF_len {α : Type} (f : Nat → α) (n k : Nat) : (downF f n k).length = n - k := by simp [downF]
theorem downF_mem {α : Type} {f : Nat → α} {n k : Nat} {x : α} : x ∈ downF f n k ↔ ∃ j, k ≤ j ∧ j < n ∧ x = f j := by
  unfold downF
  rw [List.mem_map]
  constructor
  · rintro ⟨t, ht, rfl⟩
    rw [List.mem_range] at ht
    exact ⟨n - 1 - t, by omega, by omega, rfl⟩
  · rintro ⟨j, h1, h2, rfl⟩
    exact ⟨n - 1 - j, List.mem_range.2 (by omega), by rw [show n - 1 - (n - 1 - j) = j by omega]⟩
theorem takenG_app (is : Bool) (a b : List RuleV) (s : List UInt8) : takenG is (a ++ b) s = takenG (takenG is a s) b s := by
  induction a generalizing is with
  | nil => rfl
  | cons r a ih => rw [List.cons_append, takenG_cons, ih, takenG_cons]
theorem takenG_no (is : Bool) (l : List RuleV) (s : List UInt8) (h : ∀ r ∈ l, fitsB r.2 s = false) : takenG is l s = is := by
  induction l with
  | nil => rfl
  | cons r l ih =>
    rw [takenG_cons, if_neg (by rw [h r List.mem_cons_self]; decide)]
    exact ih fun x hx => h x (List.mem_cons_of_mem _ hx)
theorem takenF_none {qs : List RuleV} {s : List UInt8} (h : ∀ r ∈ qs, fitsB r.2 s = false) : takenF qs s = true := takenG_no true qs s h
theorem takenF_last {qs : List RuleV} {s : List UInt8} (k : Nat) (hk : k < qs.length) (hf : fitsB qs[k].2 s = true) (h : ∀ j (hj : j < qs.length), k < j → fitsB qs[j].2 s = false) : takenF qs s = qs[k].1 := by
  have he : qs = qs.take k ++ qs[k] :: qs.drop (k + 1) := by rw [← List.drop_eq_getElem_cons hk, List.take_append_drop]
  unfold takenF
  conv => lhs; rw [he]
  rw [takenG_app, takenG_cons, if_pos hf]
  refine takenG_no _ _ _ fun r hr => ?_
  obtain ⟨j, hj, rfl⟩ := List.mem_iff_getElem.1 hr
  rw [List.getElem_drop]
  exact h _ _ (by omega)
end Go.Proofs.YtilmfnlhpnbngaaGreatDoor
