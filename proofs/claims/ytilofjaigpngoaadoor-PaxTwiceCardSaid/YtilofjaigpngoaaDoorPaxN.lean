/- Plain mathematics of lists of records, continued: reading from a front, the records that are kept, sorted keys; nothing of the program. -/
import Derived.Test.YtilofjaigpngoaaDoorPaxM
set_option linter.unusedVariables false
namespace Go.Proofs.YtilofjaigpngoaaDoor
open Go.RowKit
/-! ### what a reading says of the text -/
theorem recR_turn {l : List UInt8} (h : (recR l).2.2.2 = 0) : chkR (recR l).1 (recR l).2.1 = 0 ∧ l = recL (recR l).1 (recR l).2.1 ++ (recR l).2.2.1 := by
  unfold recR at h ⊢
  split at h
  · cases h
  · rename_i h1
    split at h
    · cases h
    · rename_i h2
      split at h
      · cases h
      · rename_i h3
        split at h
        · cases h
        · rename_i h4
          split at h
          · rename_i h5; exact absurd h h5
          · rename_i h5
            split at h
            · cases h
            · rename_i h6
              rw [if_neg h1, if_neg h2, if_neg h3, if_neg h4, if_neg h5, if_neg h6]
              refine ⟨by simpa using h5, ?_⟩
              have h7 := Decidable.not_not.1 h6
              show l = recL _ _ ++ l.drop (dVal (digP l))
              rw [h7]
              exact (List.take_append_drop _ _).symm
theorem recR_no {l : List UInt8} (h : (recR l).2.2.2 ≠ 0) : recR l = ([], [], [], (recR l).2.2.2) := by
  unfold recR at h ⊢
  by_cases h1 : ¬ frontOk l
  · rw [if_pos h1]
  · rw [if_neg h1] at h ⊢
    by_cases h2 : l.length < dVal (digP l)
    · rw [if_pos h2]
    · rw [if_neg h2] at h ⊢
      by_cases h3 : dVal (digP l) < (digP l).length + 2 ∨ l[dVal (digP l) - 1]? ≠ some 10
      · rw [if_pos h3]
      · rw [if_neg h3] at h ⊢
        by_cases h4 : hasB 61 (bodyR l) = false
        · rw [if_pos h4]
        · rw [if_neg h4] at h ⊢
          by_cases h5 : chkR ((bodyR l).take (pos 61 (bodyR l))) ((bodyR l).drop (pos 61 (bodyR l) + 1)) ≠ 0
          · rw [if_pos h5]
          · rw [if_neg h5] at h ⊢
            by_cases h6 : recL ((bodyR l).take (pos 61 (bodyR l))) ((bodyR l).drop (pos 61 (bodyR l) + 1)) ≠ l.take (dVal (digP l))
            · rw [if_pos h6]
            · rw [if_neg h6] at h
              exact absurd rfl h
/-- the size of the encoding that a text begins with -/
def szR (l : List UInt8) : Nat := if (recR l).2.2.2 = 0 then (recL (recR l).1 (recR l).2.1).length else 0
theorem szR_no {l : List UInt8} (h : (recR l).2.2.2 ≠ 0) : szR l = 0 := if_neg h
theorem szR_ok {l : List UInt8} (h : (recR l).2.2.2 = 0) : szR l = (recL (recR l).1 (recR l).2.1).length ∧ szR l + (recR l).2.2.1.length = l.length ∧ l.drop (szR l) = (recR l).2.2.1 ∧ 1 ≤ szR l := by
  obtain ⟨-, e⟩ := recR_turn h
  have e1 : szR l = (recL (recR l).1 (recR l).2.1).length := if_pos h
  refine ⟨e1, ?_, ?_, by rw [e1]; exact recL_pos _ _⟩
  · rw [e1]
    conv => rhs; rw [e]
    rw [List.length_append]
  · rw [e1]
    generalize (recR l).2.2.1 = r at *
    generalize recL (recR l).1 (recR l).2.1 = f at *
    subst e
    exact List.drop_left
/-- what the front of a text is read as, the text is read as -/
theorem recR_front_of {l : List UInt8} {m : Nat} (h : (recR (l.take m)).2.2.2 = 0) :
    (recR l).1 = (recR (l.take m)).1 ∧ (recR l).2.1 = (recR (l.take m)).2.1 ∧ (recR l).2.2.2 = 0 ∧ szR l = (l.take m).length - (recR (l.take m)).2.2.1.length := by
  obtain ⟨hc, e⟩ := recR_turn h
  have h2 := szR_ok h
  have e2 : recR l = ((recR (l.take m)).1, (recR (l.take m)).2.1, (recR (l.take m)).2.2.1 ++ l.drop m, 0) := by
    conv => lhs; rw [← List.take_append_drop m l, e]
    rw [List.append_assoc]
    exact recR_text _ _ _ hc
  have h3 : (recR l).2.2.2 = 0 := by rw [e2]
  refine ⟨by rw [e2], by rw [e2], h3, ?_⟩
  rw [(szR_ok h3).1, e2]
  show (recL (recR (l.take m)).1 (recR (l.take m)).2.1).length = _
  omega
/-! ### the records that are kept while reading: thirteen at most -/
theorem chkP_take (a : List Rc) : chkP (a.take 13) = chkP a := by
  by_cases h : a.length ≤ 12
  · rw [List.take_of_length_le (by omega)]
  · rw [chkP_many (by rw [List.length_take]; omega), chkP_many (by omega)]
theorem take13_few {a : List Rc} (r : Rc) (h : (a.take 13).length ≤ 12) : (a ++ [r]).take 13 = a.take 13 ++ [r] := by
  rw [List.length_take] at h
  rw [List.take_of_length_le (by rw [List.length_append, List.length_singleton]; omega), List.take_of_length_le (by omega)]
theorem take13_many {a : List Rc} (r : Rc) (h : ¬ (a.take 13).length ≤ 12) : (a ++ [r]).take 13 = a.take 13 := by
  rw [List.length_take] at h
  rw [List.take_append_of_le_length (by omega)]
theorem take13_ok {a : List Rc} (h : chkP a = 0) : a.take 13 = a := by
  obtain ⟨h1, -⟩ := chkP_all h
  exact List.take_of_length_le (by omega)
theorem paxR_end {l : List UInt8} {a : List Rc} (h : rdAll l = (a, 0)) : paxR l = if chkP (a.take 13) ≠ 0 then ([], chkP (a.take 13)) else (a.take 13, 0) := by
  rw [chkP_take]
  by_cases hc : chkP a = 0
  · rw [if_neg (by simpa using hc), take13_ok hc, paxR_ok h hc]
  · rw [if_pos hc, paxR_chk h hc]
/-! ### sorted keys -/
theorem less_trans (a b c : List UInt8) (h : Op.bytesLess a b = true) (h2 : Op.bytesLess b c = true) : Op.bytesLess a c = true := by
  induction a generalizing b c with
  | nil =>
    cases b with
    | nil => cases h
    | cons y b =>
      cases c with
      | nil => cases h2
      | cons z c => rfl
  | cons x a ih =>
    cases b with
    | nil => cases h
    | cons y b =>
      cases c with
      | nil => cases h2
      | cons z c =>
        simp only [Op.bytesLess, Bool.or_eq_true, Bool.and_eq_true, decide_eq_true_eq, beq_iff_eq] at h h2 ⊢
        rcases h with h | ⟨rfl, h⟩
        · rcases h2 with h2 | ⟨rfl, h2⟩
          · exact .inl (by simp only [UInt8.lt_iff_toNat_lt] at *; omega)
          · exact .inl h
        · rcases h2 with h2 | ⟨rfl, h2⟩
          · exact .inl h2
          · exact .inr ⟨rfl, ih b c h h2⟩
theorem chkG_cons {last : List UInt8} {r : Rc} {l : List Rc} (h : chkG last (r :: l) = 0) : chkR r.1 r.2 = 0 ∧ Op.bytesLess last r.1 = true ∧ chkG r.1 l = 0 := by
  by_cases h1 : chkR r.1 r.2 = 0
  · cases h2 : Op.bytesLess last r.1
    · rw [chkG_twice h1 h2] at h; cases h
    · rw [chkG_go h1 h2] at h; exact ⟨h1, rfl, h⟩
  · rw [chkG_err h1] at h; exact absurd h h1
theorem chkG_less {last : List UInt8} {l : List Rc} (h : chkG last l = 0) : ∀ r ∈ l, Op.bytesLess last r.1 = true := by
  induction l generalizing last with
  | nil => intro r hr; cases hr
  | cons y l ih =>
    obtain ⟨-, h2, h3⟩ := chkG_cons h
    intro r hr
    rcases List.mem_cons.1 hr with rfl | hr
    · exact h2
    · exact less_trans _ _ _ h2 (ih h3 r hr)
theorem chkG_sorted {last : List UInt8} {l : List Rc} (h : ∀ r ∈ l, chkR r.1 r.2 = 0) (h1 : ∀ r ∈ l, Op.bytesLess last r.1 = true) (h2 : l.Pairwise fun a b => Op.bytesLess a.1 b.1 = true) : chkG last l = 0 := by
  induction l generalizing last with
  | nil => rfl
  | cons y l ih =>
    rw [chkG_go (h y (List.mem_cons_self ..)) (h1 y (List.mem_cons_self ..))]
    rw [List.pairwise_cons] at h2
    exact ih (fun r hr => h r (List.mem_cons_of_mem _ hr)) (fun r hr => h2.1 r hr) h2.2
/-- a key that is not greater, behind a list -/
theorem chkG_back {m : List UInt8} {l : List Rc} {r : Rc} (h : chkG m l = 0) (hr : chkR r.1 r.2 = 0) (h2 : Op.bytesLess m r.1 = false) : chkG m (l ++ [r]) = 6 := by
  induction l generalizing m with
  | nil => exact chkG_twice hr h2
  | cons y l ih =>
    obtain ⟨a1, a2, a3⟩ := chkG_cons h
    rw [List.cons_append, chkG_go a1 a2]
    refine ih a3 ?_
    cases e : Op.bytesLess y.1 r.1
    · rfl
    · rw [less_trans _ _ _ a2 e] at h2; cases h2
/-- a record of a list, behind the list -/
theorem chkG_again {m : List UInt8} {l : List Rc} {r : Rc} (h : chkG m l = 0) (hr : r ∈ l) : chkG m (l ++ [r]) = 6 := by
  induction l generalizing m with
  | nil => cases hr
  | cons y l ih =>
    obtain ⟨a1, a2, a3⟩ := chkG_cons h
    rw [List.cons_append, chkG_go a1 a2]
    rcases List.mem_cons.1 hr with rfl | hr
    · exact chkG_back a3 a1 (less_self _)
    · exact ih a3 hr
theorem paxF_at {m : List UInt8} {l : List Rc} (h : chkG m l = 0) (k : Nat) (hk : k < l.length) : paxF l l[k].1 = (l[k].2, true) := by
  induction l generalizing m k with
  | nil => cases hk
  | cons y l ih =>
    obtain ⟨a1, a2, a3⟩ := chkG_cons h
    cases k with
    | zero => exact paxF_hit rfl
    | succ k =>
      have hk' : k < l.length := by simpa using hk
      rw [List.getElem_cons_succ, paxF_go ?_]
      · exact ih a3 k hk'
      · intro e
        have := chkG_less a3 l[k] (List.getElem_mem _)
        rw [← e, less_self] at this; cases this
end Go.Proofs.YtilofjaigpngoaaDoor
