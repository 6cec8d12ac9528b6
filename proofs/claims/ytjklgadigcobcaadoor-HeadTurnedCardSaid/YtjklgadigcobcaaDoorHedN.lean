/- Reading header blocks as the program does; plain mathematics. -/
import Derived.Test.YtjklgadigcobcaaDoorHedM
set_option linter.unusedVariables false
namespace Go.Proofs.YtjklgadigcobcaaDoor
open Go.RowKit
theorem digL_cons (c : UInt8) (l : List UInt8) : digL (c :: l) = (decide (48 ≤ c.toNat ∧ c.toNat ≤ 55) && digL l) := rfl
theorem octVal_zero (l : List UInt8) (hd : digL l = true) (h : octVal l = 0) : l = List.replicate l.length 48 := by
  induction l with
  | nil => rfl
  | cons c l ih =>
    rw [digL_cons, Bool.and_eq_true, decide_eq_true_eq] at hd
    rw [octVal_cons] at h
    have h1 := Nat.eq_zero_of_add_eq_zero_left h
    have h2 : (c.toNat - 48) * 8 ^ l.length = 0 := by omega
    have h3 : c.toNat - 48 = 0 := by
      rcases Nat.mul_eq_zero.1 h2 with a | a
      · exact a
      · have := Nat.pow_pos (a := 8) (n := l.length) (by omega); omega
    have h4 : c = 48 := UInt8.toNat_inj.1 (by show c.toNat = 48; omega)
    rw [List.length_cons, List.replicate_succ, ← ih hd.2 h1, h4]
theorem octR_err (l : List UInt8) (h : 2 ≤ l.length ∧ l.length ≤ 12) : (octR l).2 = 0 ∨ (octR l).2 = 3 := by
  unfold octR
  rw [if_pos h]
  split
  · exact .inl rfl
  · exact .inr rfl
theorem fldR_err (l : List UInt8) (wh : Bool) (h : 1 ≤ l.length ∧ l.length ≤ 512) : (fldR l wh).2 = 0 ∨ (fldR l wh).2 = 3 := by
  unfold fldR
  rw [if_neg (by omega)]
  split
  · exact .inr rfl
  · exact .inl rfl
theorem bad_err (b : Bool) : bad b = 0 ∨ bad b = 3 := by cases b <;> simp [bad]
theorem bad_zero (b : Bool) : bad b = 0 ↔ b = true := by cases b <;> simp [bad]
def zero8 : List UInt8 := [48, 48, 48, 48, 48, 48, 48, 0]
theorem octR_zero8 (l : List UInt8) (hl : l.length = 8) : ((octR l).2 = 0 ∧ (octR l).1 = 0) ↔ l = zero8 := by
  constructor
  · rintro ⟨h1, h2⟩
    by_cases h : digL (l.take (l.length - 1)) = true ∧ l.getD (l.length - 1) 1 = 0
    · rw [octR_yes (by omega) h.1 h.2] at h2
      have h3 := octVal_zero _ h.1 (by simpa using h2)
      have e := h.2
      rw [hl] at h3 e
      rw [List.length_take, hl] at h3
      rw [List.getD_eq_getElem?_getD, List.getElem?_eq_getElem (by omega)] at e
      have e2 : l = l.take 7 ++ [l[7]] := by
        conv => lhs; rw [← List.take_append_drop 7 l, List.drop_eq_getElem_cons (by omega), List.drop_of_length_le (by omega)]
      rw [e2, h3]
      simp only [Option.getD_some] at e
      rw [e]; rfl
    · rw [octR_no (by omega) h] at h1; cases h1
  · rintro rfl; exact ⟨by decide +kernel, by decide +kernel⟩
/-- the errors of a reading, in the program's order -/
def errsP (l : List UInt8) : List Int :=
  [(fldR (sl l 0 100) true).2, (octR (sl l 100 108)).2, (octR (sl l 108 116)).2, (octR (sl l 116 124)).2, (octR (sl l 124 136)).2, (octR (sl l 136 148)).2, bad (typB (l.getD 156 0)), (fldR (sl l 157 257) true).2, bad (decide (sl l 257 265 = magicL)),
    (fldR (sl l 265 297) false).2, (fldR (sl l 297 329) false).2, (octR (sl l 329 337)).2, bad (decide ((octR (sl l 329 337)).1 = 0)), (octR (sl l 337 345)).2, bad (decide ((octR (sl l 337 345)).1 = 0)), (fldR (sl l 345 500) true).2, bad (decide (sl l 500 512 = List.replicate 12 0))]
theorem sl_app (l : List UInt8) (a b c : Nat) (h1 : a ≤ b) (h2 : b ≤ c) : sl l a c = sl l a b ++ sl l b c := by
  unfold sl
  have e : l.take b = (l.take c).take b := by rw [List.take_take, Nat.min_eq_left h2]
  rw [e]
  generalize l.take c = m
  rcases Nat.lt_or_ge m.length b with h | h
  · rw [List.take_of_length_le (by omega : m.length ≤ b), List.drop_of_length_le (show m.length ≤ b by omega), List.append_nil]
  · conv => lhs; rw [← List.take_append_drop b m]
    rw [List.drop_append_of_le_length (by rw [List.length_take]; omega)]
theorem zero16 (l : List UInt8) (h : l.length = 512) : (sl l 329 345 = zeroL) ↔ (sl l 329 337 = zero8 ∧ sl l 337 345 = zero8) := by
  rw [sl_app l 329 337 345 (by omega) (by omega), show zeroL = zero8 ++ zero8 from rfl]
  have h1 := sl_len l 329 337 (by omega)
  constructor
  · intro e; exact List.append_inj e (by rw [h1]; rfl)
  · rintro ⟨a, b⟩; rw [a, b]
theorem firstE_same {a b : List Int} (ha : ∀ e ∈ a, e = 0 ∨ e = 3) (hb : ∀ e ∈ b, e = 0 ∨ e = 3) (h : (∀ e ∈ a, e = 0) ↔ (∀ e ∈ b, e = 0)) : firstE a = firstE b := by
  rcases firstE_three ha with h1 | h1
  · rw [h1, firstE_of b (h.1 (firstE_zero h1))]
  · rcases firstE_three hb with h2 | h2
    · rw [h2, firstE_of a (h.2 (firstE_zero h2))]
    · rw [h1, h2]
theorem errs_same (l : List UInt8) (h : l.length = 512) : firstE (errsP l) = firstE (errsR l) := by
  have F : ∀ a b wh, a < b → b ≤ 512 → (fldR (sl l a b) wh).2 = 0 ∨ (fldR (sl l a b) wh).2 = 3 := fun a b wh h1 h2 => fldR_err _ _ (by rw [sl_len _ _ _ (by omega)]; omega)
  have O : ∀ a b, a + 2 ≤ b → b ≤ a + 12 → b ≤ 512 → (octR (sl l a b)).2 = 0 ∨ (octR (sl l a b)).2 = 3 := fun a b h1 h2 h3 => octR_err _ (by rw [sl_len _ _ _ (by omega)]; omega)
  have z1 := octR_zero8 (sl l 329 337) (by rw [sl_len _ _ _ (by omega)])
  have z2 := octR_zero8 (sl l 337 345) (by rw [sl_len _ _ _ (by omega)])
  have z3 := zero16 l h
  refine firstE_same ?_ ?_ ?_
  · simp only [errsP, List.mem_cons, List.not_mem_nil, or_false, forall_eq_or_imp, forall_eq]
    exact ⟨F _ _ _ (by omega) (by omega), O _ _ (by omega) (by omega) (by omega), O _ _ (by omega) (by omega) (by omega), O _ _ (by omega) (by omega) (by omega), O _ _ (by omega) (by omega) (by omega), O _ _ (by omega) (by omega) (by omega), bad_err _, F _ _ _ (by omega) (by omega), bad_err _, F _ _ _ (by omega) (by omega), F _ _ _ (by omega) (by omega), O _ _ (by omega) (by omega) (by omega), bad_err _, O _ _ (by omega) (by omega) (by omega), bad_err _, F _ _ _ (by omega) (by omega), bad_err _⟩
  · simp only [errsR, List.mem_cons, List.not_mem_nil, or_false, forall_eq_or_imp, forall_eq]
    exact ⟨F _ _ _ (by omega) (by omega), O _ _ (by omega) (by omega) (by omega), O _ _ (by omega) (by omega) (by omega), O _ _ (by omega) (by omega) (by omega), O _ _ (by omega) (by omega) (by omega), O _ _ (by omega) (by omega) (by omega), bad_err _, F _ _ _ (by omega) (by omega), bad_err _, F _ _ _ (by omega) (by omega), F _ _ _ (by omega) (by omega), bad_err _, F _ _ _ (by omega) (by omega), bad_err _⟩
  · simp only [errsP, errsR, List.mem_cons, List.not_mem_nil, or_false, forall_eq_or_imp, forall_eq, bad_zero, decide_eq_true_eq, z3, ← z1, ← z2]
    constructor
    · rintro ⟨a1, a2, a3, a4, a5, a6, a7, a8, a9, aA, aB, aC, aD, aE, aF, aG, aH⟩
      exact ⟨a1, a2, a3, a4, a5, a6, a7, a8, a9, aA, aB, ⟨⟨aC, aD⟩, aE, aF⟩, aG, aH⟩
    · rintro ⟨a1, a2, a3, a4, a5, a6, a7, a8, a9, aA, aB, ⟨⟨aC, aD⟩, aE, aF⟩, aG, aH⟩
      exact ⟨a1, a2, a3, a4, a5, a6, a7, a8, a9, aA, aB, aC, aD, aE, aF, aG, aH⟩
/-! ### bytes of a text's rest -/
theorem bs_take (l : List UInt8) (k n : Nat) (h : k + n ≤ l.length) : (bs (l.drop k)).extract 0 n = bs (sl l k (k + n)) := by
  apply ByteArray.ext; apply Array.toList_inj.1
  rw [ByteArray.data_extract, Array.toList_extract]
  simp [List.extract, bs, sl, List.take_drop]
theorem bs_drop (l : List UInt8) (k n : Nat) : (bs (l.drop k)).extract n (bs (l.drop k)).size = bs (l.drop (k + n)) := by
  apply ByteArray.ext; apply Array.toList_inj.1
  rw [ByteArray.data_extract, Array.toList_extract, bs_size]
  simp [List.extract, bs]
  rw [List.take_of_length_le (by simp; omega)]
theorem fw_le (l : List UInt8) (x : Int) (wh : Bool) : (fw l x wh).length ≤ 512 := by
  unfold fw fldW
  split
  · simp
  · split
    · simp
    · split
      · simp
      · rename_i h1 h2 h3
        simp only [List.length_append, List.length_replicate]
        omega
theorem ow_le (n x : Int) : (ow n x).length ≤ 512 := by
  unfold ow octW
  split
  · simp only [List.length_append, D_length, List.length_cons, List.length_nil]; omega
  · simp
theorem sumB_mid (a b : List UInt8) : sumB (a ++ (List.replicate 8 32 ++ b)) = sumB a + 256 + sumB b := by
  rw [sumB_app, sumB_app, show sumB (List.replicate 8 32) = 256 by decide]; omega
end Go.Proofs.YtjklgadigcobcaaDoor
