import Derived.Test.YtfakaglkninbiaaNum
set_option linter.unusedVariables false
namespace Go.Proofs.Ytfakaglkninbiaa
open Go.RowKit
theorem mod_succ (a j : Nat) : a % 8 ^ (j + 1) = (a / 8 ^ j % 8) * 8 ^ j + a % 8 ^ j := by
  rw [Nat.pow_succ, Nat.mod_mul, Nat.mul_comm]; omega
theorem lex_lt {p x y r s : Nat} (hr : r < p) (hs : s < p) : x * p + r < y * p + s ↔ x < y ∨ (x = y ∧ r < s) := by
  rcases Nat.lt_trichotomy x y with h | h | h
  · have := Nat.mul_le_mul_right p (show x + 1 ≤ y from h)
    rw [Nat.add_mul] at this
    constructor
    · intro _; exact .inl h
    · intro _; omega
  · subst h; constructor
    · intro h; exact .inr ⟨rfl, by omega⟩
    · rintro (h | ⟨_, h⟩)
      · omega
      · omega
  · have := Nat.mul_le_mul_right p (show y + 1 ≤ x from h)
    rw [Nat.add_mul] at this
    constructor
    · intro _; omega
    · rintro (h' | ⟨h', _⟩) <;> omega
theorem digit_lt (x y : Nat) (hx : x < 8) (hy : y < 8) : (UInt8.ofNat (48 + x) < UInt8.ofNat (48 + y)) ↔ x < y := by
  rw [UInt8.lt_iff_toNat_lt, digit_toNat _ hx, digit_toNat _ hy]; omega
theorem digit_eq (x y : Nat) (hx : x < 8) (hy : y < 8) : (UInt8.ofNat (48 + x) = UInt8.ofNat (48 + y)) ↔ x = y := by
  rw [← UInt8.toNat_inj, digit_toNat _ hx, digit_toNat _ hy]; omega
theorem less_D (a b j : Nat) : Op.bytesLess (D a j ++ [0]) (D b j ++ [0]) = decide (a % 8 ^ j < b % 8 ^ j) := by
  induction j with
  | zero => simp [D, Op.bytesLess, Nat.mod_one]
  | succ j ih =>
    have hx := Nat.mod_lt (a / 8 ^ j) (show 0 < 8 by omega)
    have hy := Nat.mod_lt (b / 8 ^ j) (show 0 < 8 by omega)
    have hr := Nat.mod_lt a (show 0 < 8 ^ j from Nat.pow_pos (by omega))
    have hs := Nat.mod_lt b (show 0 < 8 ^ j from Nat.pow_pos (by omega))
    rw [D, D, List.cons_append, List.cons_append, Op.bytesLess, ih, mod_succ a, mod_succ b, Bool.eq_iff_iff]
    simp only [Bool.or_eq_true, Bool.and_eq_true, decide_eq_true_eq, beq_iff_eq, digit_lt _ _ hx hy, digit_eq _ _ hx hy, lex_lt hr hs]
theorem octVal_inj_D {a b j : Nat} (ha : a < 8 ^ j) (hb : b < 8 ^ j) (h : D a j ++ [0] = D b j ++ [0]) : a = b := by
  have h' := congrArg octVal (List.append_cancel_right h)
  rwa [octVal_D, octVal_D, Nat.mod_eq_of_lt ha, Nat.mod_eq_of_lt hb] at h'
theorem D_over (j : Nat) (h : 1 ≤ j) : ∃ l, D (8 ^ j) (j + 1) = 49 :: 48 :: l := by
  obtain ⟨i, rfl⟩ : ∃ i, j = i + 1 := ⟨j - 1, by omega⟩
  refine ⟨D (8 ^ (i + 1)) i, ?_⟩
  rw [D, D, Nat.div_self (Nat.pow_pos (by omega)), Nat.pow_succ, Nat.mul_div_cancel_left _ (Nat.pow_pos (by omega))]
  rfl
theorem most_succ (x : Int) (h : 2 ≤ x) : most (x + 1) = 8 * most x + 7 := by
  have e : (x + 1).toNat - 1 = (x.toNat - 1) + 1 := by omega
  unfold most; rw [e, Int.pow_succ]; omega
end Go.Proofs.Ytfakaglkninbiaa
