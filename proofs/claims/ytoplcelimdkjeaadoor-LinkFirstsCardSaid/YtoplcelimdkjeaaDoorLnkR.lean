/- What a map of the files seen so far holds, and the counts of names. Nothing of the program. -/
import Derived.Test.YtoplcelimdkjeaaDoorLnkN
set_option linter.unusedVariables false
namespace Go.Proofs.YtoplcelimdkjeaaDoor
open Go.RowKit
/-- the file of number s, if one of the first i nodes is of it: the place of the first one -/
def seenF (t : List NodeV) (i : Nat) (s : Int) : Option Int := if 0 < s then ((List.range i).find? fun k => decide (sameAt t k = s)).map fun k => (k : Int) else none
theorem seenF_zero (t : List NodeV) : seenF t 0 = fun _ => none := by
  funext s; unfold seenF; split <;> rfl
theorem seenF_at {t : List NodeV} {i : Nat} (h0 : 0 ≤ sameAt t i) : firstF t i = ((seenF t i (sameAt t i)).getD (i : Int)) := by
  unfold seenF firstF
  by_cases h : 0 < sameAt t i
  · rw [if_pos h]
    have e : (fun k => eqF t k i) = fun k => decide (sameAt t k = sameAt t i) := by
      funext k; unfold eqF
      rw [Bool.eq_iff_iff, decide_eq_true_eq, decide_eq_true_eq]
      exact ⟨fun h => h.2, fun h' => ⟨by omega, h'⟩⟩
    rw [e]
    cases (List.range i).find? fun k => decide (sameAt t k = sameAt t i) with
    | none => rfl
    | some m => rfl
  · rw [if_neg h]
    have e : (fun k => eqF t k i) = fun _ => false := by
      funext k; unfold eqF
      exact decide_eq_false fun h' => h'.1 (by omega)
    rw [e]
    have : (List.range i).find? (fun _ => false) = none := by rw [List.find?_eq_none]; intro x _; simp
    rw [this]; rfl
theorem seenF_none {t : List NodeV} {i : Nat} (h0 : 0 ≤ sameAt t i) (h : seenF t i (sameAt t i) = none) : firstF t i = i := by
  have := seenF_at h0
  rw [h, Option.getD_none] at this
  omega
theorem seenF_some {t : List NodeV} {i : Nat} {v : Int} (h0 : 0 ≤ sameAt t i) (h : seenF t i (sameAt t i) = some v) : v = firstF t i := by
  have := seenF_at h0
  rw [h, Option.getD_some] at this
  exact this.symm
theorem seenF_step (t : List NodeV) (i : Nat) (s : Int) : seenF t (i + 1) s = if 0 < s ∧ seenF t i s = none ∧ sameAt t i = s then some (i : Int) else seenF t i s := by
  unfold seenF
  by_cases h : 0 < s
  · rw [if_pos h, if_pos h, List.range_succ, List.find?_append]
    cases (List.range i).find? fun k => decide (sameAt t k = s) with
    | some m => simp
    | none =>
      by_cases he : sameAt t i = s
      · simp [he, h]
      · simp [he]
  · rw [if_neg h, if_neg h, if_neg fun h' => h h'.1]
theorem seenF_skip {t : List NodeV} {i : Nat} (h : ¬ 0 < sameAt t i) : seenF t (i + 1) = seenF t i := by
  funext s
  rw [seenF_step, if_neg]
  rintro ⟨h1, -, h2⟩
  omega
theorem seenF_put {t : List NodeV} {i : Nat} (h : 0 < sameAt t i) : seenF t (i + 1) = fun s => if s = sameAt t i then some ((firstF t i : Nat) : Int) else seenF t i s := by
  funext s
  rw [seenF_step]
  have h0 : 0 ≤ sameAt t i := by omega
  by_cases hs : s = sameAt t i
  · subst hs
    rw [if_pos rfl]
    cases hn : seenF t i (sameAt t i) with
    | none => rw [if_pos ⟨h, rfl, rfl⟩, seenF_none h0 hn]
    | some v => rw [if_neg (by rintro ⟨-, h2, -⟩; cases h2), seenF_some h0 hn]
  · rw [if_neg hs, if_neg]
    rintro ⟨-, -, h2⟩
    exact hs h2.symm
/-- a node without a number is its file's first one -/
theorem firstF_zero {t : List NodeV} {i : Nat} (h : ¬ 0 < sameAt t i) (h0 : 0 ≤ sameAt t i) : firstF t i = i := by
  refine seenF_none h0 ?_
  unfold seenF
  rw [if_neg h]
/-- how many of the first k nodes have their first one at j -/
def cntF (t : List NodeV) (k j : Nat) : Nat := (List.range k).countP fun m => decide (firstF t m = j)
theorem cntF_le (t : List NodeV) (k j : Nat) : cntF t k j ≤ k := by
  have := List.countP_le_length (p := fun m => decide (firstF t m = j)) (l := List.range k)
  rw [List.length_range] at this; exact this
theorem cntF_step (t : List NodeV) (k j : Nat) : cntF t (k + 1) j = cntF t k j + if firstF t k = j then 1 else 0 := by
  unfold cntF
  rw [List.range_succ, List.countP_append, List.countP_singleton]
  by_cases h : firstF t k = j
  · simp [h]
  · simp [h]
def cntL (t : List NodeV) (n k : Nat) : List Int := (List.range n).map fun j => ((cntF t k j : Nat) : Int)
theorem cntL_len (t : List NodeV) (n k : Nat) : (cntL t n k).length = n := by unfold cntL; rw [List.length_map, List.length_range]
theorem cntL_zero (t : List NodeV) (n : Nat) : cntL t n 0 = List.replicate n 0 := by
  apply List.ext_getElem
  · rw [cntL_len, List.length_replicate]
  · intro i h1 h2
    unfold cntL cntF
    simp
theorem cntL_at (t : List NodeV) (n k j : Nat) (h : j < (cntL t n k).length) : (cntL t n k)[j] = ((cntF t k j : Nat) : Int) := by
  have key : ∀ h : j < ((List.range n).map fun j => ((cntF t k j : Nat) : Int)).length, ((List.range n).map fun j => ((cntF t k j : Nat) : Int))[j] = ((cntF t k j : Nat) : Int) := fun h => by rw [List.getElem_map, List.getElem_range]
  exact key h
theorem cntL_step (t : List NodeV) (n k : Nat) : (cntL t n k).set (firstF t k) (((cntF t k (firstF t k) : Nat) : Int) + 1) = cntL t n (k + 1) := by
  apply List.ext_getElem
  · rw [List.length_set, cntL_len, cntL_len]
  · intro i h1 h2
    rw [List.getElem_set, cntL_at _ _ _ _ h2, cntF_step]
    by_cases h : firstF t k = i
    · rw [if_pos h, if_pos h, h]; omega
    · rw [if_neg h, if_neg h, cntL_at _ _ _ _ (by rw [List.length_set] at h1; exact h1)]; omega
theorem cntF_names {t : List NodeV} (h0 : ∀ i, 0 ≤ sameAt t i) (i : Nat) : cntF t t.length (firstF t i) = namesF t i := (namesF_first h0 i).symm
theorem firstF_lt {t : List NodeV} {i n : Nat} (h : i < n) : firstF t i < n := by
  have := (firstF_spec t i).1
  omega
end Go.Proofs.YtoplcelimdkjeaaDoor
