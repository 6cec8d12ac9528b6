/- Plain mathematics of dates: a date has one number, a number one date. Nothing of the program. (Stage 20, ahead.) -/
import Derived.Test.YtdcbmjihpjnbbaaDoorNum
set_option linter.unusedVariables false
namespace Go.Proofs.YtdcbmjihpjnbbaaDoor
open Go.RowKit
/-- is a year a leap year -/
def leapY (y : Int) : Bool := y % 4 == 0 && (y % 100 != 0 || y % 400 == 0)
theorem leapY_iff (y : Int) : leapY y = true ↔ y % 4 = 0 ∧ (y % 100 ≠ 0 ∨ y % 400 = 0) := by
  unfold leapY
  simp [bne_iff_ne]
/-- one day more in a leap year -/
def leapN (y : Int) : Int := if leapY y = true then 1 else 0
theorem leapN_cases (y : Int) : (leapN y = 1 ∧ y % 4 = 0 ∧ (y % 100 ≠ 0 ∨ y % 400 = 0)) ∨ (leapN y = 0 ∧ ¬ (y % 4 = 0 ∧ (y % 100 ≠ 0 ∨ y % 400 = 0))) := by
  unfold leapN
  by_cases h : leapY y = true
  · rw [if_pos h]; exact .inl ⟨rfl, (leapY_iff y).1 h⟩
  · rw [if_neg h]; exact .inr ⟨rfl, fun e => h ((leapY_iff y).2 e)⟩
/-- the first day of a year; 1970 begins with 0 -/
def begY (y : Int) : Int := 365 * (y - 1970) + ((y - 1) / 4 - (y - 1) / 100 + (y - 1) / 400 - 477)
theorem begY_1970 : begY 1970 = 0 := by decide
theorem begY_next (y : Int) : begY (y + 1) = begY y + 365 + leapN y := by
  unfold begY
  rcases leapN_cases y with ⟨e, h⟩ | ⟨e, h⟩ <;> rw [e] <;> omega
theorem begY_lt {y z : Int} (h : y < z) : begY y + 365 + leapN y ≤ begY z := by
  rw [← begY_next]
  unfold begY
  omega
theorem begY_round (y : Int) : begY (y + 400) = begY y + 146097 := by
  unfold begY
  omega
theorem leapN_round (y : Int) : leapN (y + 400) = leapN y := by
  rcases leapN_cases y with ⟨e, h⟩ | ⟨e, h⟩ <;> rcases leapN_cases (y + 400) with ⟨e2, h2⟩ | ⟨e2, h2⟩ <;> omega
theorem leapN_bd (y : Int) : 0 ≤ leapN y ∧ leapN y ≤ 1 := by rcases leapN_cases y with ⟨e, -⟩ | ⟨e, -⟩ <;> omega
/-- how many days a month has; x: one more in February -/
def lenM (x m : Int) : Int := if m = 2 then 28 + x else if m = 4 ∨ m = 6 ∨ m = 9 ∨ m = 11 then 30 else 31
/-- the first day of a month in its year -/
def begM (x m : Int) : Int :=
  if m ≤ 1 then 0 else if m = 2 then 31 else
    x + (if m = 3 then 59 else if m = 4 then 90 else if m = 5 then 120 else if m = 6 then 151 else if m = 7 then 181 else if m = 8 then 212 else if m = 9 then 243 else if m = 10 then 273 else if m = 11 then 304 else if m = 12 then 334 else 365)
theorem month_cases {m : Int} (h1 : 1 ≤ m) (h2 : m ≤ 12) : m = 1 ∨ m = 2 ∨ m = 3 ∨ m = 4 ∨ m = 5 ∨ m = 6 ∨ m = 7 ∨ m = 8 ∨ m = 9 ∨ m = 10 ∨ m = 11 ∨ m = 12 := by omega
theorem begM_one (x : Int) : begM x 1 = 0 := rfl
theorem begM_next (x m : Int) (h1 : 1 ≤ m) (h2 : m ≤ 12) : begM x (m + 1) = begM x m + lenM x m := by
  rcases month_cases h1 h2 with rfl | rfl | rfl | rfl | rfl | rfl | rfl | rfl | rfl | rfl | rfl | rfl <;> simp [begM, lenM] <;> omega
theorem begM_end (x : Int) : begM x 13 = 365 + x := by simp [begM]; omega
theorem lenM_bd (x m : Int) (hx : 0 ≤ x ∧ x ≤ 1) : 28 ≤ lenM x m ∧ lenM x m ≤ 31 := by
  unfold lenM
  split
  · omega
  · split <;> omega
theorem begM_lt (x : Int) (hx : 0 ≤ x ∧ x ≤ 1) {m k : Int} (h1 : 1 ≤ m) (h2 : m < k) (h3 : k ≤ 13) : begM x m + lenM x m ≤ begM x k := by
  obtain ⟨n, rfl⟩ : ∃ n : Nat, k = m + 1 + n := ⟨(k - m - 1).toNat, by omega⟩
  induction n with
  | zero => rw [← begM_next x m h1 (by omega)]; simp
  | succ n ih =>
    have h := ih (by omega) (by omega)
    have h4 := begM_next x (m + 1 + (n : Int)) (by omega) (by omega)
    have h5 := lenM_bd x (m + 1 + (n : Int)) hx
    have e : m + 1 + ((n + 1 : Nat) : Int) = m + 1 + (n : Int) + 1 := by omega
    rw [e, h4]; omega
/-- the number of a date -/
def dayN (y m d : Int) : Int := begY y + begM (leapN y) m + d - 1
/-- is there such a date -/
def okD (y m d : Int) : Prop := 1 ≤ m ∧ m ≤ 12 ∧ 1 ≤ d ∧ d ≤ lenM (leapN y) m
theorem okD_in {y m d : Int} (h : okD y m d) : begY y ≤ dayN y m d ∧ dayN y m d < begY y + 365 + leapN y := by
  obtain ⟨h1, h2, h3, h4⟩ := h
  have hx := leapN_bd y
  have a := begM_lt (leapN y) hx h1 (show m < 13 by omega) (by omega)
  rw [begM_end] at a
  have b : 0 ≤ begM (leapN y) m := by
    by_cases e : m = 1
    · subst e; exact Int.le_refl _
    · have := begM_lt (leapN y) hx (show (1 : Int) ≤ 1 by omega) (show 1 < m by omega) (by omega)
      have := lenM_bd (leapN y) 1 hx
      rw [begM_one] at *
      omega
  unfold dayN
  omega
/-- A NUMBER HAS ONE DATE -/
theorem date_one {y m d y' m' d' : Int} (h : okD y m d) (h' : okD y' m' d') (e : dayN y m d = dayN y' m' d') : y = y' ∧ m = m' ∧ d = d' := by
  have a := okD_in h
  have b := okD_in h'
  have hy : y = y' := by
    apply Classical.byContradiction
    intro hne
    rcases Int.lt_or_gt_of_ne hne with hl | hl
    · have := begY_lt hl; omega
    · have := begY_lt hl; omega
  subst hy
  obtain ⟨h1, h2, h3, h4⟩ := h
  obtain ⟨g1, g2, g3, g4⟩ := h'
  have hx := leapN_bd y
  have hm : m = m' := by
    apply Classical.byContradiction
    intro hne
    unfold dayN at e
    rcases Int.lt_or_gt_of_ne hne with hl | hl
    · have := begM_lt (leapN y) hx h1 hl (by omega); omega
    · have := begM_lt (leapN y) hx g1 hl (by omega); omega
  subst hm
  unfold dayN at e
  exact ⟨rfl, rfl, by omega⟩
/-- THE NEXT DAY -/
theorem date_next {y m d y' m' d' : Int} (h : okD y m d) (h' : okD y' m' d') (e : dayN y' m' d' = dayN y m d + 1) :
    (y' = y ∧ m' = m ∧ d' = d + 1) ∨ (y' = y ∧ m' = m + 1 ∧ d' = 1 ∧ 28 ≤ d) ∨ (y' = y + 1 ∧ m' = 1 ∧ d' = 1 ∧ m = 12 ∧ d = 31) := by
  obtain ⟨h1, h2, h3, h4⟩ := h
  have hx := leapN_bd y
  have hl := lenM_bd (leapN y) m hx
  by_cases c1 : d < lenM (leapN y) m
  · have k : okD y m (d + 1) := ⟨h1, h2, by omega, by omega⟩
    obtain ⟨e1, e2, e3⟩ := date_one h' k (by rw [e]; unfold dayN; omega)
    exact .inl ⟨e1, e2, e3⟩
  · have hd : d = lenM (leapN y) m := by omega
    by_cases c2 : m < 12
    · have k : okD y (m + 1) 1 := ⟨by omega, by omega, by omega, by have := lenM_bd (leapN y) (m + 1) hx; omega⟩
      obtain ⟨e1, e2, e3⟩ := date_one h' k (by rw [e]; unfold dayN; rw [begM_next _ m h1 h2]; omega)
      exact .inr (.inl ⟨e1, e2, e3, by omega⟩)
    · have hm : m = 12 := by omega
      subst hm
      have hx' := leapN_bd (y + 1)
      have k : okD (y + 1) 1 1 := ⟨by omega, by omega, by omega, by have := lenM_bd (leapN (y + 1)) 1 hx'; omega⟩
      have h31 : lenM (leapN y) 12 = 31 := rfl
      have hb := begM_next (leapN y) 12 (by omega) (by omega)
      have h13 := begM_end (leapN y)
      rw [show (12 : Int) + 1 = 13 from rfl] at hb
      obtain ⟨e1, e2, e3⟩ := date_one h' k (by rw [e]; unfold dayN; rw [begY_next, begM_one]; omega)
      exact .inr (.inr ⟨e1, e2, e3, rfl, by omega⟩)
/-- IN 400 YEARS THE DATES ARE AGAIN -/
theorem date_round {y m d y' m' d' : Int} (h : okD y m d) (h' : okD y' m' d') (e : dayN y' m' d' = dayN y m d + 146097) : y' = y + 400 ∧ m' = m ∧ d' = d := by
  have k : okD (y + 400) m d := by
    obtain ⟨h1, h2, h3, h4⟩ := h
    exact ⟨h1, h2, h3, by rw [leapN_round]; exact h4⟩
  exact date_one h' k (by rw [e]; unfold dayN; rw [leapN_round, begY_round]; omega)
theorem okD_bd {y m d : Int} (h : okD y m d) : 1 ≤ m ∧ m ≤ 12 ∧ 1 ≤ d ∧ d ≤ 31 := by
  obtain ⟨h1, h2, h3, h4⟩ := h
  have := lenM_bd (leapN y) m (leapN_bd y)
  exact ⟨h1, h2, h3, by omega⟩
theorem okD_year {y m d : Int} (h : okD y m d) (h1 : -12725830 ≤ dayN y m d) (h2 : dayN y m d ≤ 12725830) : -40000 ≤ y ∧ y ≤ 40000 := by
  have h3 := okD_in h
  have h4 := leapN_bd y
  unfold begY at h3
  omega
theorem okD_zero {y m d : Int} (h : okD y m d) (e : dayN y m d = 0) : y = 1970 := by
  have k : okD 1970 1 1 := ⟨by decide, by decide, by decide, by decide⟩
  exact (date_one h k (by rw [e]; decide)).1
end Go.Proofs.YtdcbmjihpjnbbaaDoor
