/- Plain mathematics of putting by places, and of files that are the same; nothing of the program. -/
import Derived.Test.YtoplcelimdkjeaaDoorNodN
set_option linter.unusedVariables false
namespace Go.Proofs.YtoplcelimdkjeaaDoor
open Go.RowKit
/-- the place where a path belongs: all ahead are less, none behind -/
structure LowAt (t : List NodeV) (p : List UInt8) (i : Nat) : Prop where
  le : i ≤ t.length
  lt : ∀ k (hk : k < t.length), k < i → pcmp t[k].path p < 0
  ge : ∀ k (hk : k < t.length), i ≤ k → ¬ pcmp t[k].path p < 0
theorem less_ahead {t : List NodeV} (h : Rises t) {p : List UInt8} (k m : Nat) (hm : m < t.length) (hkm : k ≤ m) (hl : pcmp t[m].path p < 0) : pcmp (t[k]'(by omega)).path p < 0 := by
  rcases Nat.lt_or_eq_of_le hkm with h' | h'
  · have h1 := rises_get h k m (by omega) hm h'
    have hb := pcmp_bd t[m].path p
    have := plt_trans h1 (show pcmp t[m].path p = -1 by omega)
    omega
  · subst h'; exact hl
theorem more_behind {t : List NodeV} (h : Rises t) {p : List UInt8} (k m : Nat) (hm : m < t.length) (hkm : k ≤ m) (hl : ¬ pcmp (t[k]'(by omega)).path p < 0) : ¬ pcmp t[m].path p < 0 :=
  fun e => hl (less_ahead h k m hm hkm e)
theorem filter_lt_low {t : List NodeV} {p : List UInt8} {i : Nat} (h : LowAt t p i) : t.filter (fun x => decide (pcmp x.path p < 0)) = t.take i := by
  conv => lhs; rw [← List.take_append_drop i t]
  rw [List.filter_append]
  have e1 : (t.take i).filter (fun x => decide (pcmp x.path p < 0)) = t.take i := List.filter_eq_self.2 fun x hx => by
    obtain ⟨k, hk, rfl⟩ := List.mem_take_iff_getElem.1 hx
    exact decide_eq_true (h.lt k (by omega) (by omega))
  have e2 : (t.drop i).filter (fun x => decide (pcmp x.path p < 0)) = [] := List.filter_eq_nil_iff.2 fun x hx => by
    obtain ⟨k, hk, rfl⟩ := List.getElem_of_mem hx
    rw [List.length_drop] at hk
    rw [List.getElem_drop]
    have := h.ge (i + k) (by omega) (by omega)
    simpa using this
  rw [e1, e2, List.append_nil]
theorem filter_gt_low {t : List NodeV} (hr : Rises t) {p : List UInt8} {i e : Nat} (h : LowAt t p i) (he : e = if hi : i < t.length then (if pcmp t[i].path p = 0 then i + 1 else i) else i) : t.filter (fun x => decide (0 < pcmp x.path p)) = t.drop e := by
  have hie : i ≤ e := by rw [he]; split <;> (try split) <;> omega
  conv => lhs; rw [← List.take_append_drop e t]
  rw [List.filter_append]
  have e1 : (t.take e).filter (fun x => decide (0 < pcmp x.path p)) = [] := List.filter_eq_nil_iff.2 fun x hx => by
    obtain ⟨k, hk, rfl⟩ := List.mem_take_iff_getElem.1 hx
    rcases Nat.lt_or_ge k i with h' | h'
    · have := h.lt k (by omega) h'
      simp; omega
    · have hi : i < t.length := by omega
      rw [dif_pos hi] at he
      by_cases hz : pcmp t[i].path p = 0
      · rw [if_pos hz] at he
        obtain rfl : k = i := by omega
        simp [hz]
      · rw [if_neg hz] at he
        omega
  have e2 : (t.drop e).filter (fun x => decide (0 < pcmp x.path p)) = t.drop e := List.filter_eq_self.2 fun x hx => by
    obtain ⟨k, hk, rfl⟩ := List.getElem_of_mem hx
    rw [List.length_drop] at hk
    rw [List.getElem_drop]
    have hi : i < t.length := by omega
    rw [dif_pos hi] at he
    refine decide_eq_true ?_
    have h1 := h.ge (e + k) (by omega) (by omega)
    by_cases hz : pcmp t[i].path p = 0
    · rw [if_pos hz] at he
      have hlt := rises_get hr i (e + k) hi (by omega) (by omega)
      have hp := (pcmp_zero _ _).1 hz
      have hn := pcmp_neg t[e + k].path p
      rw [hp] at hlt
      omega
    · rw [if_neg hz] at he
      by_cases hk0 : e + k = i
      · have : pcmp t[e + k].path p ≠ 0 := by
          simp only [hk0]; exact hz
        omega
      · have hlt := rises_get hr i (e + k) hi (by omega) (by omega)
        have hne : pcmp t[e + k].path p ≠ 0 := fun e0 => by
          have hp := (pcmp_zero _ _).1 e0
          rw [hp] at hlt
          exact h.ge i hi (Nat.le_refl _) (by omega)
        omega
  rw [e1, e2, List.nil_append]
/-- where the place is known, putting is cutting -/
theorem putL_low {t : List NodeV} (hr : Rises t) {n : NodeV} {i e : Nat} (h : LowAt t n.path i) (he : e = if hi : i < t.length then (if pcmp t[i].path n.path = 0 then i + 1 else i) else i) : putL t n = t.take i ++ ([n] ++ t.drop e) := by
  unfold putL
  rw [filter_lt_low h, filter_gt_low hr h he]; rfl
/-- a file of this number is there: the link's fault by any one of them -/
theorem linkNo_one {t : List NodeV} (h : Sound t) {n y : NodeV} (hy : y ∈ t) (hs : y.same = n.same) (h0 : n.same ≠ 0) : linkNo t n = !(decide (y.md = n.md) && decide (y.data = n.data)) := by
  unfold linkNo
  rw [decide_eq_true h0, Bool.true_and, Bool.eq_iff_iff, List.any_eq_true]
  constructor
  · rintro ⟨x, hx, hx2⟩
    rw [Bool.and_eq_true, decide_eq_true_eq] at hx2
    have := h.link x hx y hy (by rw [hx2.1, hs]) (by rw [hx2.1]; exact h0)
    rw [← this.1, ← this.2]
    exact hx2.2
  · intro e
    exact ⟨y, hy, by rw [Bool.and_eq_true, decide_eq_true_eq]; exact ⟨hs, e⟩⟩
theorem linkNo_none {t : List NodeV} {n : NodeV} (h : ∀ y ∈ t, y.same ≠ n.same) : linkNo t n = false := by
  unfold linkNo
  rw [Bool.and_eq_false_iff]
  right
  rw [Bool.eq_false_iff]
  intro e
  obtain ⟨x, hx, hx2⟩ := List.any_eq_true.1 e
  rw [Bool.and_eq_true, decide_eq_true_eq] at hx2
  exact h x hx hx2.1
theorem linkNo_zero {t : List NodeV} {n : NodeV} (h : n.same = 0) : linkNo t n = false := by
  unfold linkNo; rw [decide_eq_false (by simp [h])]; rfl
end Go.Proofs.YtoplcelimdkjeaaDoor
