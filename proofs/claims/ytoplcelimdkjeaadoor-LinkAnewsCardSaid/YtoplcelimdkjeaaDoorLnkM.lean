/- Plain mathematics of hard links: the first name of a file, how many it has, numbers given anew. Nothing of the program. -/
import Derived.Test.YtoplcelimdkjeaaDoorNodN
set_option linter.unusedVariables false
namespace Go.Proofs.YtoplcelimdkjeaaDoor
open Go.RowKit
/-- which file a node is -/
def sameAt (t : List NodeV) (i : Nat) : Int := (t[i]?.map NodeV.same).getD 0
theorem sameAt_at {t : List NodeV} {i : Nat} (h : i < t.length) : sameAt t i = t[i].same := by unfold sameAt; rw [List.getElem?_eq_getElem h]; rfl
/-- is the k-th node another name of the i-th one's file? -/
def eqF (t : List NodeV) (k i : Nat) : Bool := decide (sameAt t i ≠ 0 ∧ sameAt t k = sameAt t i)
/-- the first node that is the i-th one's file -/
def firstF (t : List NodeV) (i : Nat) : Nat := ((List.range i).find? fun k => eqF t k i).getD i
theorem firstF_spec (t : List NodeV) (i : Nat) : firstF t i ≤ i ∧ (firstF t i < i → eqF t (firstF t i) i = true) ∧ ∀ k, k < firstF t i → eqF t k i = false := by
  unfold firstF
  cases h : (List.range i).find? fun k => eqF t k i with
  | none =>
    rw [Option.getD_none]
    refine ⟨Nat.le_refl _, fun h => absurd h (Nat.lt_irrefl _), fun k hk => ?_⟩
    have := List.find?_eq_none.1 h k (List.mem_range.2 hk)
    simpa using this
  | some m =>
    rw [Option.getD_some]
    have hm := List.find?_some h
    have hmem := List.mem_range.1 (List.mem_of_find?_eq_some h)
    refine ⟨Nat.le_of_lt hmem, fun _ => hm, fun k hk => ?_⟩
    obtain ⟨h1, la, lb, h2, h3⟩ := List.find?_eq_some_iff_append.1 h
    have hk2 : k ∈ la := by
      have hl : la.length = m := by
        have e1 : (List.range i)[la.length]? = some m := by rw [h2]; simp
        have e2 : la.length < i := by
          have := congrArg List.length h2
          simp at this; omega
        rw [List.getElem?_range e2] at e1
        simpa using e1
      have e3 : (List.range i)[k]? = some k := List.getElem?_range (by omega)
      rw [h2, List.getElem?_append_left (by omega)] at e3
      exact List.mem_of_getElem? e3
    have := h3 k hk2
    simpa using this
theorem firstF_stop {t : List NodeV} {i k : Nat} (hk : k ≤ i) (h : ∀ j, j < k → eqF t j i = false) (he : k = i ∨ eqF t k i = true) : firstF t i = k := by
  obtain ⟨h1, h2, h3⟩ := firstF_spec t i
  rcases Nat.lt_trichotomy (firstF t i) k with hl | hl | hl
  · have := h _ hl
    rw [h2 (by omega)] at this; cases this
  · exact hl
  · rcases he with e | e
    · omega
    · rw [h3 k hl] at e; cases e
/-- does a node count as a name of the i-th one's file? -/
def isF (t : List NodeV) (i k : Nat) : Bool := decide (k = i) || (decide (0 < sameAt t i) && decide (sameAt t k = sameAt t i))
def namesF (t : List NodeV) (i : Nat) : Nat := (List.range t.length).countP (isF t i)
theorem firstF_first (t : List NodeV) (i : Nat) : firstF t (firstF t i) = firstF t i := by
  obtain ⟨h1, h2, h3⟩ := firstF_spec t i
  refine firstF_stop (Nat.le_refl _) (fun j hj => ?_) (.inl rfl)
  rcases Nat.lt_or_eq_of_le h1 with hl | hl
  · have e := h2 hl
    have f := h3 j hj
    unfold eqF at e f ⊢
    obtain ⟨e1, e2⟩ := of_decide_eq_true e
    rw [e2]; exact f
  · rw [hl] at hj ⊢; exact h3 j (by rw [hl]; exact hj)
/-- two nodes have the same first one just if they are one file -/
theorem firstF_eq {t : List NodeV} (h0 : ∀ i, 0 ≤ sameAt t i) (i j : Nat) : firstF t j = firstF t i ↔ isF t i j = true := by
  obtain ⟨i1, i2, i3⟩ := firstF_spec t i
  obtain ⟨j1, j2, j3⟩ := firstF_spec t j
  unfold isF
  rw [Bool.or_eq_true, decide_eq_true_eq, Bool.and_eq_true, decide_eq_true_eq, decide_eq_true_eq]
  constructor
  · intro h
    by_cases hij : j = i
    · exact .inl hij
    · right
      rw [h] at j1 j2
      have hi : firstF t i < i → sameAt t i ≠ 0 ∧ sameAt t (firstF t i) = sameAt t i := fun hl => of_decide_eq_true (i2 hl)
      have hj : firstF t i < j → sameAt t j ≠ 0 ∧ sameAt t (firstF t i) = sameAt t j := fun hl => of_decide_eq_true (j2 hl)
      have hi0 := h0 i
      have hj0 := h0 j
      rcases Nat.lt_or_eq_of_le i1 with a | a
      · obtain ⟨a1, a2⟩ := hi a
        rcases Nat.lt_or_eq_of_le j1 with b | b
        · obtain ⟨b1, b2⟩ := hj b
          exact ⟨by omega, by omega⟩
        · rw [b] at a2
          exact ⟨by omega, a2⟩
      · rcases Nat.lt_or_eq_of_le j1 with b | b
        · obtain ⟨b1, b2⟩ := hj b
          rw [a] at b2
          exact ⟨by omega, b2.symm⟩
        · omega
  · rintro (rfl | ⟨h1, h2⟩)
    · rfl
    · have hne : sameAt t i ≠ 0 := by omega
      have hk : firstF t i ≤ j := by
        apply Classical.byContradiction
        intro hc
        have := i3 j (by omega)
        unfold eqF at this
        exact of_decide_eq_false this ⟨hne, h2⟩
      refine firstF_stop hk (fun k hk2 => ?_) ?_
      · have := i3 k hk2
        unfold eqF at this ⊢
        rw [h2]; exact this
      · right
        unfold eqF
        rw [h2]
        apply decide_eq_true
        refine ⟨hne, ?_⟩
        rcases Nat.lt_or_eq_of_le i1 with a | a
        · exact (of_decide_eq_true (i2 a) : sameAt t i ≠ 0 ∧ sameAt t (firstF t i) = sameAt t i).2
        · rw [a]
theorem namesF_first {t : List NodeV} (h0 : ∀ i, 0 ≤ sameAt t i) (i : Nat) : namesF t i = (List.range t.length).countP fun j => decide (firstF t j = firstF t i) := by
  unfold namesF
  apply List.countP_congr
  intro j _
  rw [decide_eq_true_eq, firstF_eq h0]
theorem namesF_same {t : List NodeV} (h0 : ∀ i, 0 ≤ sameAt t i) {i j : Nat} (h : firstF t j = firstF t i) : namesF t j = namesF t i := by
  rw [namesF_first h0, namesF_first h0, h]
theorem namesF_pos (t : List NodeV) {i : Nat} (h : i < t.length) : 1 ≤ namesF t i := by
  unfold namesF
  rw [Nat.one_le_iff_ne_zero, Ne, List.countP_eq_zero]
  intro hc
  have := hc i (List.mem_range.2 h)
  unfold isF at this
  simp at this
/-- two names at least -/
theorem namesF_two (t : List NodeV) {i k : Nat} (hi : i < t.length) (hk : k < t.length) (hne : k ≠ i) (h : isF t i k = true) : 2 ≤ namesF t i := by
  have hi2 : isF t i i = true := by unfold isF; simp
  unfold namesF
  have key : ∀ a b : Nat, a < b → b < t.length → isF t i a = true → isF t i b = true → 2 ≤ (List.range t.length).countP (isF t i) := fun a b hab hb ha1 hb1 => by
    have e : List.range t.length = List.range b ++ [b] ++ (List.range t.length).drop (b + 1) := by
      conv => lhs; rw [← List.take_append_drop (b + 1) (List.range t.length)]
      rw [List.take_range, Nat.min_eq_left (by omega), List.range_succ]
    rw [e, List.countP_append, List.countP_append, List.countP_singleton, if_pos hb1]
    have : 1 ≤ (List.range b).countP (isF t i) := by
      rw [Nat.one_le_iff_ne_zero, Ne, List.countP_eq_zero]
      intro hc
      exact hc a (List.mem_range.2 hab) ha1
    omega
  rcases Nat.lt_or_gt_of_ne hne with a | a
  · exact key k i a hi h hi2
  · exact key i k a hk hi2 h
/-- the tree with numbers given anew -/
def anewN (t : List NodeV) (i : Nat) (x : NodeV) : NodeV := { x with same := if 1 < namesF t i then (firstF t i : Int) + 1 else 0 }
def anewF (t : List NodeV) : List NodeV := t.mapIdx fun i x => anewN t i x
theorem anewF_len (t : List NodeV) : (anewF t).length = t.length := by unfold anewF; rw [List.length_mapIdx]
theorem anewF_at (t : List NodeV) (i : Nat) (h : i < t.length) : (anewF t)[i]'(by rw [anewF_len]; exact h) = anewN t i t[i] := by unfold anewF; rw [List.getElem_mapIdx]
theorem anew_same (t : List NodeV) (i : Nat) : sameAt (anewF t) i = if i < t.length ∧ 1 < namesF t i then (firstF t i : Int) + 1 else 0 := by
  by_cases h : i < t.length
  · rw [sameAt_at (by rw [anewF_len]; exact h), anewF_at t i h]
    show (if 1 < namesF t i then (firstF t i : Int) + 1 else 0) = _
    by_cases h2 : 1 < namesF t i
    · rw [if_pos h2, if_pos ⟨h, h2⟩]
    · rw [if_neg h2, if_neg fun h3 => h2 h3.2]
  · rw [if_neg fun h3 => h h3.1]
    unfold sameAt
    rw [List.getElem?_eq_none (by rw [anewF_len]; omega)]; rfl
theorem anew_pos (t : List NodeV) (i : Nat) : 0 ≤ sameAt (anewF t) i := by
  rw [anew_same]; split <;> omega
/-- numbers given anew tell of the same files -/
theorem anew_eqF {t : List NodeV} (h0 : ∀ i, 0 ≤ sameAt t i) {k i : Nat} (hk : k < i) (hi : i < t.length) : eqF (anewF t) k i = eqF t k i := by
  unfold eqF
  rw [anew_same, anew_same]
  have hkl : k < t.length := by omega
  rw [Bool.eq_iff_iff, decide_eq_true_eq, decide_eq_true_eq]
  constructor
  · rintro ⟨h1, h2⟩
    have c1 : 1 < namesF t i := by
      apply Classical.byContradiction
      intro hc
      exact h1 (if_neg fun h => hc h.2)
    rw [if_pos (⟨hi, c1⟩ : i < t.length ∧ 1 < namesF t i)] at h2
    have c2 : 1 < namesF t k := by
      apply Classical.byContradiction
      intro hc
      rw [if_neg (fun h => hc h.2 : ¬ (k < t.length ∧ 1 < namesF t k))] at h2
      omega
    rw [if_pos (⟨hkl, c2⟩ : k < t.length ∧ 1 < namesF t k)] at h2
    have h3 : firstF t k = firstF t i := by omega
    have h4 := (firstF_eq h0 i k).1 h3
    unfold isF at h4
    rw [Bool.or_eq_true, decide_eq_true_eq, Bool.and_eq_true, decide_eq_true_eq, decide_eq_true_eq] at h4
    rcases h4 with h4 | ⟨h4, h5⟩
    · omega
    · exact ⟨by omega, h5⟩
  · rintro ⟨h1, h2⟩
    have hpos := h0 i
    have hF : isF t i k = true := by
      unfold isF
      rw [Bool.or_eq_true, decide_eq_true_eq, Bool.and_eq_true, decide_eq_true_eq, decide_eq_true_eq]
      exact .inr ⟨by omega, h2⟩
    have h3 := (firstF_eq h0 i k).2 hF
    have c1 : 1 < namesF t i := namesF_two t hi hkl (by omega) hF
    have c2 : 1 < namesF t k := by rw [namesF_same h0 h3]; exact c1
    rw [if_pos (⟨hi, c1⟩ : i < t.length ∧ 1 < namesF t i), if_pos (⟨hkl, c2⟩ : k < t.length ∧ 1 < namesF t k), h3]
    exact ⟨by omega, rfl⟩
theorem anew_first {t : List NodeV} (h0 : ∀ i, 0 ≤ sameAt t i) {i : Nat} (hi : i < t.length) : firstF (anewF t) i = firstF t i := by
  obtain ⟨h1, h2, h3⟩ := firstF_spec t i
  refine firstF_stop h1 (fun j hj => ?_) ?_
  · rw [anew_eqF h0 (by omega) hi]; exact h3 j hj
  · rcases Nat.lt_or_eq_of_le h1 with a | a
    · right; rw [anew_eqF h0 a hi]; exact h2 a
    · exact .inl a
theorem anew_names {t : List NodeV} (h0 : ∀ i, 0 ≤ sameAt t i) {i : Nat} (hi : i < t.length) : namesF (anewF t) i = namesF t i := by
  rw [namesF_first (anew_pos t), namesF_first h0, anewF_len]
  apply List.countP_congr
  intro j hj
  rw [anew_first h0 hi, anew_first h0 (List.mem_range.1 hj)]
theorem anew_again {t : List NodeV} (h0 : ∀ i, 0 ≤ sameAt t i) : anewF (anewF t) = anewF t := by
  apply List.ext_getElem
  · rw [anewF_len]
  · intro i h1 h2
    have hi : i < t.length := by rwa [anewF_len] at h2
    rw [anewF_at (anewF t) i h2, anewF_at t i hi]
    unfold anewN
    rw [anew_names h0 hi, anew_first h0 hi]
end Go.Proofs.YtoplcelimdkjeaaDoor
