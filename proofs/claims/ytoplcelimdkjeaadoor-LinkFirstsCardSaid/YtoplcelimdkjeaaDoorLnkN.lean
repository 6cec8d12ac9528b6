/- Plain mathematics of hard links in sound trees: numbers given anew keep a tree sound. -/
import Derived.Test.YtoplcelimdkjeaaDoorLnkM
set_option linter.unusedVariables false
namespace Go.Proofs.YtoplcelimdkjeaaDoor
open Go.RowKit
theorem node_kind {x : NodeV} (h : nodE x = 0) : nodK x = 0 := by
  unfold nodE at h
  split at h
  · rename_i h1; exact absurd h h1
  · split at h
    · rename_i h1; exact absurd h h1
    · exact h
theorem node_same {x : NodeV} (h : nodE x = 0) : 0 ≤ x.same ∧ (x.same ≠ 0 → x.kind = 1) := by
  have hk := node_kind h
  unfold nodK at hk
  split at hk
  · rename_i h1
    split at hk
    · cases hk
    · rename_i h2
      refine ⟨?_, fun _ => h1⟩
      apply Classical.byContradiction
      intro hc
      exact h2 (.inr (by omega))
  · split at hk
    · split at hk
      · cases hk
      · rename_i h2
        have h0 : x.same = 0 := by
          apply Classical.byContradiction
          intro hc
          exact h2 (.inr (.inl hc))
        exact ⟨by omega, fun hc => absurd h0 hc⟩
    · cases hk
theorem node_anew {x : NodeV} (h : nodE x = 0) {z : Int} (hz : 0 ≤ z) (hk : z ≠ 0 → x.kind = 1) : nodE { x with same := z } = 0 := by
  have h1 := node_kind h
  unfold nodE at h ⊢
  simp only
  by_cases hp : pathE x.path ≠ 0
  · rw [if_pos hp] at h; exact absurd h hp
  · rw [if_neg hp] at h ⊢
    by_cases hm : metE x.md ≠ 0
    · rw [if_pos hm] at h; exact absurd h hm
    · rw [if_neg hm]
      have h2 := h1
      unfold nodK at h2 ⊢
      simp only
      by_cases k1 : x.kind = 1
      · rw [if_pos k1] at h2 ⊢
        by_cases k2 : x.target ≠ [] ∨ x.same < 0
        · rw [if_pos k2] at h2; cases h2
        · rw [if_neg k2] at h2
          rw [if_neg (fun hc => by
            rcases hc with hc | hc
            · exact k2 (.inl hc)
            · omega)]
          exact h2
      · rw [if_neg k1] at h2 ⊢
        have hz0 : z = 0 := by
          apply Classical.byContradiction
          intro hc
          exact k1 (hk hc)
        by_cases k2 : x.kind = 2 ∨ x.kind = 3
        · rw [if_pos k2] at h2 ⊢
          have hs : x.same = 0 := by
            apply Classical.byContradiction
            intro hc
            rw [if_pos (.inr (.inl hc))] at h2
            cases h2
          rw [hs] at h2
          rw [hz0]
          exact h2
        · rw [if_neg k2] at h2
          cases h2
theorem Sound.pos {t : List NodeV} (h : Sound t) (i : Nat) : 0 ≤ sameAt t i := by
  by_cases hi : i < t.length
  · rw [sameAt_at hi]; exact (node_same (h.node _ (List.getElem_mem hi))).1
  · unfold sameAt
    rw [List.getElem?_eq_none (by omega)]
    exact Int.le_refl _
theorem count_one (i n : Nat) : (List.range n).countP (fun k => decide (k = i)) ≤ if i < n then 1 else 0 := by
  induction n with
  | zero => simp
  | succ n ih =>
    rw [List.range_succ, List.countP_append, List.countP_singleton]
    by_cases h1 : n = i
    · rw [if_pos (decide_eq_true h1), if_pos (by omega)]
      rw [if_neg (by omega)] at ih
      omega
    · rw [if_neg (by simpa using h1)]
      by_cases h2 : i < n
      · rw [if_pos h2] at ih
        rw [if_pos (by omega)]
        omega
      · rw [if_neg h2] at ih
        rw [if_neg (by omega)]
        omega
/-- who has a second name has a number -/
theorem namesF_pos2 {t : List NodeV} {i : Nat} (h : 1 < namesF t i) : 0 < sameAt t i := by
  apply Classical.byContradiction
  intro hc
  have e : namesF t i = (List.range t.length).countP fun k => decide (k = i) := by
    unfold namesF
    apply List.countP_congr
    intro k _
    unfold isF
    rw [decide_eq_false hc, Bool.false_and, Bool.or_false]
  have h2 := count_one i t.length
  rw [← e] at h2
  split at h2 <;> omega
theorem eqF_data {t : List NodeV} (h : Sound t) {k i : Nat} (hk : k < t.length) (hi : i < t.length) (he : eqF t k i = true) : t[k].md = t[i].md ∧ t[k].data = t[i].data := by
  obtain ⟨h1, h2⟩ : sameAt t i ≠ 0 ∧ sameAt t k = sameAt t i := of_decide_eq_true he
  rw [sameAt_at hi] at h1 h2
  rw [sameAt_at hk] at h2
  exact h.link _ (List.getElem_mem hk) _ (List.getElem_mem hi) h2 (by rw [h2]; exact h1)
theorem anew_path (t : List NodeV) : (anewF t).map (·.path) = t.map (·.path) := by
  apply List.ext_getElem
  · rw [List.length_map, List.length_map, anewF_len]
  · intro i h1 h2
    rw [List.length_map] at h2
    rw [List.getElem_map, List.getElem_map, anewF_at t i h2]; rfl
theorem mem_anew {t : List NodeV} {x : NodeV} (h : x ∈ anewF t) : ∃ i, ∃ hi : i < t.length, x = anewN t i t[i] := by
  obtain ⟨i, hi, e⟩ := List.getElem_of_mem h
  have hi2 : i < t.length := by rwa [anewF_len] at hi
  exact ⟨i, hi2, by rw [← e, anewF_at t i hi2]⟩
theorem sound_anew {t : List NodeV} (h : Sound t) : Sound (anewF t) := by
  have h0 := fun i => h.pos i
  refine ⟨?_, fun x hx => ?_, fun x hx => ?_, fun x hx y hy he hne => ?_⟩
  · have h1 : (t.map (·.path)).Pairwise fun a b => pcmp a b = -1 := List.pairwise_map.2 h.rises
    rw [← anew_path] at h1
    exact List.pairwise_map.1 h1
  · obtain ⟨i, hi, rfl⟩ := mem_anew hx
    have hn := h.node _ (List.getElem_mem hi)
    refine node_anew hn ?_ fun hz => ?_
    · split <;> omega
    · split at hz
      · rename_i hg
        have := namesF_pos2 hg
        rw [sameAt_at hi] at this
        exact (node_same hn).2 (by omega)
      · exact absurd rfl hz
  · obtain ⟨i, hi, rfl⟩ := mem_anew hx
    rcases h.up _ (List.getElem_mem hi) with h1 | ⟨d, hd, h1, h2⟩
    · exact .inl h1
    · obtain ⟨j, hj, rfl⟩ := List.getElem_of_mem hd
      refine .inr ⟨anewN t j t[j], ?_, h1, h2⟩
      rw [← anewF_at t j hj]
      exact List.getElem_mem _
  · obtain ⟨i, hi, rfl⟩ := mem_anew hx
    obtain ⟨j, hj, rfl⟩ := mem_anew hy
    have e1 : (anewN t i t[i]).same = if 1 < namesF t i then (firstF t i : Int) + 1 else 0 := rfl
    have e2 : (anewN t j t[j]).same = if 1 < namesF t j then (firstF t j : Int) + 1 else 0 := rfl
    rw [e1] at he hne
    rw [e2] at he
    have c1 : 1 < namesF t i := by
      apply Classical.byContradiction
      intro hc
      exact hne (if_neg hc)
    rw [if_pos c1] at he
    have c2 : 1 < namesF t j := by
      apply Classical.byContradiction
      intro hc
      rw [if_neg hc] at he
      omega
    rw [if_pos c2] at he
    have h3 : firstF t i = firstF t j := by omega
    have h4 := (firstF_eq h0 j i).1 h3
    unfold isF at h4
    rw [Bool.or_eq_true, decide_eq_true_eq, Bool.and_eq_true, decide_eq_true_eq, decide_eq_true_eq] at h4
    rcases h4 with rfl | ⟨h4, h5⟩
    · exact ⟨rfl, rfl⟩
    · exact eqF_data h hi hj (decide_eq_true ⟨by omega, h5⟩)
/-- two trees alike: the same but for numbers, and these tell of the same files -/
def alikeF (a b : List NodeV) : Prop := a.length = b.length ∧ (∀ i (h : i < a.length) (h2 : i < b.length), ({ a[i] with same := 0 } : NodeV) = { b[i] with same := 0 }) ∧
  ∀ i k, k < i → i < a.length → (0 < sameAt a i ∧ sameAt a i = sameAt a k ↔ 0 < sameAt b i ∧ sameAt b i = sameAt b k)
theorem alike_anew {t : List NodeV} (h : Sound t) : alikeF (anewF t) t := by
  have h0 := fun i => h.pos i
  refine ⟨anewF_len t, fun i h1 h2 => ?_, fun i k hk hi => ?_⟩
  · rw [anewF_at t i h2]; rfl
  · rw [anewF_len] at hi
    have h3 := anew_eqF h0 hk hi
    unfold eqF at h3
    have h4 := decide_eq_decide.1 h3
    have p1 := anew_pos t i
    have p2 := h0 i
    constructor
    · rintro ⟨a, b⟩
      obtain ⟨c, d⟩ := h4.1 ⟨by omega, b.symm⟩
      exact ⟨by omega, d.symm⟩
    · rintro ⟨a, b⟩
      obtain ⟨c, d⟩ := h4.2 ⟨by omega, b.symm⟩
      exact ⟨by omega, d.symm⟩
end Go.Proofs.YtoplcelimdkjeaaDoor
