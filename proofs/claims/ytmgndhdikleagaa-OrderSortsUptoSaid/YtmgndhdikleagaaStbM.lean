/- Plain mathematics of stable sorting in place: insertion, rotation, merging; nothing of the program. -/
import Derived.Test.YtmgndhdikleagaaSrtM
set_option linter.unusedVariables false
namespace Go.Proofs.Ytmgndhdikleagaa
open Go.RowKit
/-- the part of a list from a to b -/
def rng (t : List NodeV) (a b : Nat) : List NodeV := (t.take b).drop a
theorem rng_len (t : List NodeV) (a b : Nat) (hb : b ≤ t.length) : (rng t a b).length = b - a := by
  unfold rng; rw [List.length_drop, List.length_take]; omega
theorem cut_rng (t : List NodeV) (a b : Nat) (h : a ≤ b) : t = t.take a ++ rng t a b ++ t.drop b := by
  unfold rng
  have h1 : t.take a = (t.take b).take a := by rw [List.take_take, Nat.min_eq_left h]
  rw [h1, List.take_append_drop, List.take_append_drop]
theorem rng_eq {P M S t : List NodeV} {a b : Nat} (h : t = P ++ M ++ S) (ha : P.length = a) (hb : P.length + M.length = b) : rng t a b = M := by
  subst h ha hb
  unfold rng
  rw [← List.length_append, List.take_left, List.drop_left]
theorem rng_self (t : List NodeV) (a : Nat) : rng t a a = [] := by
  unfold rng; rw [List.drop_eq_nil_iff, List.length_take]; omega
theorem rng_all (t : List NodeV) (b : Nat) (h : t.length ≤ b) : rng t 0 b = t := by
  unfold rng; rw [List.drop_zero, List.take_of_length_le h]
theorem rng_get (t : List NodeV) (a b j : Nat) (hj : j < (rng t a b).length) (ht : a + j < t.length) : (rng t a b)[j] = t[a + j] := by
  have hj' : j < (List.drop a (List.take b t)).length := hj
  have h : (List.drop a (List.take b t))[j] = t[a + j] := by rw [List.getElem_drop, List.getElem_take]
  exact h
/-- a part put in the place of another -/
def puts (t : List NodeV) (a b : Nat) (M : List NodeV) : List NodeV := t.take a ++ M ++ t.drop b
theorem puts_len {t M : List NodeV} {a b : Nat} (hab : a ≤ b) (hb : b ≤ t.length) (hM : M.length = b - a) : (puts t a b M).length = t.length := by
  unfold puts; rw [List.length_append, List.length_append, List.length_take, List.length_drop]; omega
theorem puts_rng {t M : List NodeV} {a b : Nat} (hab : a ≤ b) (hb : b ≤ t.length) (hM : M.length = b - a) : rng (puts t a b M) a b = M :=
  rng_eq rfl (by rw [List.length_take]; omega) (by rw [List.length_take]; omega)
theorem puts_take {t M : List NodeV} {a b d : Nat} (hb : a ≤ t.length) (hd : d ≤ a) : (puts t a b M).take d = t.take d := by
  unfold puts
  rw [List.append_assoc, List.take_append_of_le_length (by rw [List.length_take]; omega), List.take_take, Nat.min_eq_left hd]
theorem puts_before {t M : List NodeV} {a b c d : Nat} (hb : a ≤ t.length) (hd : d ≤ a) : rng (puts t a b M) c d = rng t c d := by
  unfold rng; rw [puts_take hb hd]
theorem puts_drop {t M : List NodeV} {a b c : Nat} (hab : a ≤ b) (hb : b ≤ t.length) (hM : M.length = b - a) (hc : b ≤ c) : (puts t a b M).drop c = t.drop c := by
  unfold puts
  obtain ⟨k, rfl⟩ := Nat.exists_eq_add_of_le hc
  have h1 : (t.take a ++ M).length = b := by rw [List.length_append, List.length_take]; omega
  rw [← h1, List.drop_append, h1, List.drop_drop, List.drop_eq_nil_of_le (by omega), List.nil_append, Nat.add_sub_cancel_left]
theorem puts_behind {t M : List NodeV} {a b c d : Nat} (hab : a ≤ b) (hb : b ≤ t.length) (hM : M.length = b - a) (hc : b ≤ c) : rng (puts t a b M) c d = rng t c d := by
  unfold rng
  rw [List.drop_take, List.drop_take, puts_drop hab hb hM hc]
theorem puts_self (t : List NodeV) (a b : Nat) (h : a ≤ b) : puts t a b (rng t a b) = t := (cut_rng t a b h).symm
theorem puts_of {P M N S t : List NodeV} {a b : Nat} (h : t = P ++ M ++ S) (ha : P.length = a) (hb : P.length + M.length = b) : puts t a b N = P ++ N ++ S := by
  subst h ha hb
  unfold puts
  have h1 : P ++ M ++ S = P ++ (M ++ S) := List.append_assoc _ _ _
  rw [h1, List.take_left, ← h1, ← List.length_append, List.drop_left]
/-- the nodes of a path stay in their order where a part is sorted -/
theorem puts_ofP {t M : List NodeV} {a b : Nat} (h : a ≤ b) (hM : ∀ p, ofP p M = ofP p (rng t a b)) (p : List UInt8) : ofP p (puts t a b M) = ofP p t := by
  conv => rhs; rw [cut_rng t a b h]
  unfold puts
  rw [ofP_app, ofP_app, ofP_app, ofP_app, hM]
theorem sortT_sorted {t : List NodeV} (h : Sorts t) : sortT t = t := (sortT_only h fun _ => rfl).symm
theorem sorts_app {a b : List NodeV} (h : Sorts (a ++ b)) : Sorts a ∧ Sorts b ∧ ∀ x ∈ a, ∀ y ∈ b, pcmp x.path y.path ≤ 0 := List.pairwise_append.1 h
theorem app_sorts {a b : List NodeV} (ha : Sorts a) (hb : Sorts b) (h : ∀ x ∈ a, ∀ y ∈ b, pcmp x.path y.path ≤ 0) : Sorts (a ++ b) := List.pairwise_append.2 ⟨ha, hb, h⟩
theorem sortT_mem (t : List NodeV) {x : NodeV} (hx : x ∈ sortT t) : x ∈ t := of_mem (sortT_both t).2 hx
theorem ofP_none {p : List UInt8} {t : List NodeV} (h : ∀ x ∈ t, x.path ≠ p) : ofP p t = [] := by
  unfold ofP; rw [List.filter_eq_nil_iff]; intro x hx; simpa using h x hx
/-- the heart of merging: what stands in the second half of the first and in the first half of the second may change places -/
theorem merge_at {X1 X2 Y1 Y2 : List NodeV} (hX : Sorts (X1 ++ X2)) (hY : Sorts (Y1 ++ Y2)) (h1 : ∀ x ∈ X1, ∀ y ∈ Y2, pcmp x.path y.path ≤ 0) (h2 : ∀ x ∈ X2, ∀ y ∈ Y1, pcmp y.path x.path < 0) :
    sortT (X1 ++ X2 ++ (Y1 ++ Y2)) = sortT (X1 ++ Y1) ++ sortT (X2 ++ Y2) := by
  obtain ⟨-, -, hX3⟩ := sorts_app hX
  obtain ⟨-, -, hY3⟩ := sorts_app hY
  refine (sortT_only (app_sorts (sortT_both _).1 (sortT_both _).1 fun x hx y hy => ?_) fun p => ?_).symm
  · have hx := sortT_mem _ hx
    have hy := sortT_mem _ hy
    rcases List.mem_append.1 hx with a | a
    · rcases List.mem_append.1 hy with b | b
      · exact hX3 x a y b
      · exact h1 x a y b
    · rcases List.mem_append.1 hy with b | b
      · have := h2 y b x a; omega
      · exact hY3 x a y b
  · rw [ofP_app, (sortT_both _).2, (sortT_both _).2, ofP_app, ofP_app, ofP_app, ofP_app, ofP_app]
    have key : ofP p X2 ++ ofP p Y1 = ofP p Y1 ++ ofP p X2 := by
      by_cases h : ∃ x ∈ X2, x.path = p
      · obtain ⟨x, hx, rfl⟩ := h
        rw [ofP_none (t := Y1) fun y hy e => ?_]
        · simp
        · have := h2 x hx y hy
          rw [e, pcmp_self] at this; omega
      · rw [ofP_none (t := X2) fun x hx e => h ⟨x, hx, e⟩]; simp
    rw [List.append_assoc, ← List.append_assoc (ofP p Y1), ← key, List.append_assoc, List.append_assoc]
theorem pcmp_lt_le {a b c : List UInt8} (h1 : pcmp a b < 0) (h2 : pcmp b c ≤ 0) : pcmp a c < 0 := by
  have h3 := pcmp_trans a b c (by omega) h2
  by_cases h : pcmp a c = 0
  · have e := (pcmp_zero a c).1 h
    subst e
    have := pcmp_neg b a
    omega
  · omega
theorem pcmp_le_lt {a b c : List UInt8} (h1 : pcmp a b ≤ 0) (h2 : pcmp b c < 0) : pcmp a c < 0 := by
  have h3 := pcmp_trans a b c h1 (by omega)
  by_cases h : pcmp a c = 0
  · have e := (pcmp_zero a c).1 h
    subst e
    have := pcmp_neg b a
    omega
  · omega
theorem sorts_get {t : List NodeV} (h : Sorts t) (i j : Nat) (hi : i < t.length) (hj : j < t.length) (hij : i ≤ j) : pcmp t[i].path t[j].path ≤ 0 := by
  rcases Nat.lt_or_eq_of_le hij with h' | rfl
  · exact List.pairwise_iff_getElem.1 h i j hi hj h'
  · rw [pcmp_self]; exact Int.le_refl 0
/-- two nodes of a list change places -/
def swT (t : List NodeV) (i j : Nat) : List NodeV := if h : i < t.length ∧ j < t.length then (t.set i t[j]).set j t[i] else t
theorem swT_len (t : List NodeV) (i j : Nat) : (swT t i j).length = t.length := by unfold swT; split <;> simp
theorem swT_at {P M S : List NodeV} {x y : NodeV} {i j : Nat} (hi : P.length = i) (hj : i + 1 + M.length = j) : swT (P ++ x :: (M ++ y :: S)) i j = P ++ y :: (M ++ x :: S) := by
  subst hi hj
  unfold swT
  rw [dif_pos (by simp; omega)]
  have e1 : (P ++ x :: (M ++ y :: S))[P.length]'(by simp) = x := by rw [List.getElem_append_right (Nat.le_refl _)]; simp
  have e2 : (P ++ x :: (M ++ y :: S))[P.length + 1 + M.length]'(by simp; omega) = y := by
    rw [List.getElem_append_right (by omega)]
    simp only [show P.length + 1 + M.length - P.length = M.length + 1 by omega, List.getElem_cons_succ]
    rw [List.getElem_append_right (Nat.le_refl _)]; simp
  rw [e1, e2]
  rw [List.set_append_right _ _ (Nat.le_refl _), Nat.sub_self, List.set_cons_zero, List.set_append_right _ _ (by omega)]
  rw [show P.length + 1 + M.length - P.length = M.length + 1 by omega, List.set_cons_succ, List.set_append_right _ _ (Nat.le_refl _), Nat.sub_self, List.set_cons_zero]
theorem swT_comm (t : List NodeV) (i j : Nat) : swT t i j = swT t j i := by
  unfold swT
  by_cases h : i < t.length ∧ j < t.length
  · rw [dif_pos h, dif_pos ⟨h.2, h.1⟩]
    by_cases e : i = j
    · subst e; rfl
    · exact List.set_comm _ _ e
  · rw [dif_neg h, dif_neg fun h' => h ⟨h'.2, h'.1⟩]
/-- the state of swapping two parts of one length, k nodes of them done -/
def swR (P A M B S : List NodeV) (k : Nat) : List NodeV := P ++ (B.take k ++ (A.drop k ++ (M ++ (A.take k ++ (B.drop k ++ S)))))
theorem swR_zero (P A M B S : List NodeV) : swR P A M B S 0 = P ++ A ++ M ++ B ++ S := by unfold swR; simp
theorem swR_end (P A M B S : List NodeV) {n : Nat} (hA : A.length = n) (hB : B.length = n) : swR P A M B S n = P ++ B ++ M ++ A ++ S := by
  unfold swR
  rw [List.take_of_length_le (by omega), List.take_of_length_le (by omega), List.drop_eq_nil_of_le (by omega), List.drop_eq_nil_of_le (by omega)]
  simp
theorem swR_step (P A M B S : List NodeV) {n k : Nat} (hA : A.length = n) (hB : B.length = n) (hk : k < n) :
    swT (swR P A M B S k) (P.length + k) (P.length + n + M.length + k) = swR P A M B S (k + 1) := by
  have h1 : A.drop k = A[k] :: A.drop (k + 1) := List.drop_eq_getElem_cons (by omega)
  have h2 : B.drop k = B[k] :: B.drop (k + 1) := List.drop_eq_getElem_cons (by omega)
  have e1 : swR P A M B S k = (P ++ B.take k) ++ A[k] :: ((A.drop (k + 1) ++ M ++ A.take k) ++ B[k] :: (B.drop (k + 1) ++ S)) := by
    unfold swR; rw [h1, h2]; simp only [List.append_assoc, List.cons_append, List.nil_append]
  have e2 : swR P A M B S (k + 1) = (P ++ B.take k) ++ B[k] :: ((A.drop (k + 1) ++ M ++ A.take k) ++ A[k] :: (B.drop (k + 1) ++ S)) := by
    unfold swR; rw [List.take_succ_eq_append_getElem (by omega : k < A.length), List.take_succ_eq_append_getElem (by omega : k < B.length)]; simp only [List.append_assoc, List.cons_append, List.nil_append]
  rw [e1, e2]
  refine swT_at (by rw [List.length_append, List.length_take]; omega) ?_
  simp only [List.length_append, List.length_take, List.length_drop]; omega
theorem swR_len (P A M B S : List NodeV) {n k : Nat} (hA : A.length = n) (hB : B.length = n) : (swR P A M B S k).length = P.length + n + M.length + n + S.length := by
  unfold swR; simp only [List.length_append, List.length_take, List.length_drop]; omega
end Go.Proofs.Ytmgndhdikleagaa
