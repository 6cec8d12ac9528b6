/- Plain mathematics of the cutting of paths; nothing of the program. -/
import Derived.Test.YtceaaadnemmalaaFldM
set_option linter.unusedVariables false
namespace Go.Proofs.Ytceaaadnemmalaa
open Go.RowKit
/-- at the byte i a long path may be cut -/
def fits (l : List UInt8) (i : Nat) : Bool := decide (1 ≤ i ∧ i ≤ 155 ∧ i + 2 ≤ l.length ∧ l.length ≤ i + 101) && (l.getD i 0 == 47)
/-- the first such byte -/
def cutAt (l : List UInt8) : Option Nat := (List.range l.length).find? (fits l)
theorem fits_lt {l : List UInt8} {i : Nat} (h : fits l i = true) : i < l.length := by
  unfold fits at h; rw [Bool.and_eq_true, decide_eq_true_eq] at h; omega
theorem fits_bd {l : List UInt8} {i : Nat} (h : fits l i = true) : 1 ≤ i ∧ i ≤ 155 ∧ i + 2 ≤ l.length ∧ l.length ≤ i + 101 := by
  unfold fits at h; rw [Bool.and_eq_true, decide_eq_true_eq] at h; exact h.1
theorem fits_byte {l : List UInt8} {i : Nat} (h : fits l i = true) : l.getD i 0 = 47 := by
  unfold fits at h; rw [Bool.and_eq_true, beq_iff_eq] at h; exact h.2
theorem fits_mk {l : List UInt8} {i : Nat} (h : 1 ≤ i ∧ i ≤ 155 ∧ i + 2 ≤ l.length ∧ l.length ≤ i + 101) (e : l.getD i 0 = 47) : fits l i = true := by
  unfold fits; rw [Bool.and_eq_true, decide_eq_true_eq, beq_iff_eq]; exact ⟨h, e⟩
theorem fits_no {l : List UInt8} {i : Nat} (h : ¬ (1 ≤ i ∧ i ≤ 155 ∧ i + 2 ≤ l.length ∧ l.length ≤ i + 101)) : fits l i = false := by
  rw [← Bool.not_eq_true]; exact fun e => h (fits_bd e)
theorem fits_ne {l : List UInt8} {i : Nat} (h : l.getD i 0 ≠ 47) : fits l i = false := by
  rw [← Bool.not_eq_true]; exact fun e => h (fits_byte e)
/-- none below k -/
def noFit (l : List UInt8) (k : Nat) : Prop := ∀ j, j < k → fits l j = false
theorem noFit_succ {l : List UInt8} {k : Nat} (h : noFit l k) (e : fits l k = false) : noFit l (k + 1) := fun j hj => by
  rcases Nat.lt_or_eq_of_le (Nat.le_of_lt_succ hj) with a | a
  · exact h j a
  · rw [a]; exact e
theorem cutAt_some {l : List UInt8} {k : Nat} (h : noFit l k) (e : fits l k = true) : cutAt l = some k := by
  unfold cutAt
  rw [List.find?_range_eq_some]
  exact ⟨e, List.mem_range.2 (fits_lt e), fun j hj => by rw [h j hj]; rfl⟩
theorem cutAt_none {l : List UInt8} {k : Nat} (h : noFit l k) (hk : l.length < k + 2 ∨ 155 < k) : cutAt l = none := by
  unfold cutAt
  rw [List.find?_range_eq_none]
  intro j hj
  by_cases a : j < k
  · rw [h j a]; rfl
  · rw [fits_no (by omega)]; rfl
theorem cutAt_bd {l : List UInt8} {k : Nat} (h : cutAt l = some k) : fits l k = true := by
  unfold cutAt at h
  rw [List.find?_range_eq_some] at h
  exact h.1
/-- where it is cut, or -1 -/
def slashV (l : List UInt8) : Int := match cutAt l with | some k => k | none => -1
/-- the two parts of a path and the error -/
def cutV (l : List UInt8) : List UInt8 × List UInt8 × Int :=
  if l = [] ∨ hasB 0 l = true then ([], [], 3)
  else if l.length ≤ 100 then ([], l, 0)
  else match cutAt l with
    | some k => (l.take k, l.drop (k + 1), 0)
    | none => ([], [], 1)
theorem cutV_form {l : List UInt8} (h : l = [] ∨ hasB 0 l = true) : cutV l = ([], [], 3) := if_pos h
theorem cutV_short {l : List UInt8} (h : l ≠ []) (h0 : hasB 0 l = false) (h1 : l.length ≤ 100) : cutV l = ([], l, 0) := by
  rw [cutV, if_neg (by rintro (a | a); exact h a; rw [h0] at a; cases a), if_pos h1]
theorem cutV_some {l : List UInt8} {k : Nat} (h0 : hasB 0 l = false) (h1 : 100 < l.length) (e : cutAt l = some k) : cutV l = (l.take k, l.drop (k + 1), 0) := by
  rw [cutV, if_neg (by rintro (a | a); rw [a] at h1; exact absurd h1 (by simp); rw [h0] at a; cases a), if_neg (by omega), e]
theorem cutV_none {l : List UInt8} (h0 : hasB 0 l = false) (h1 : 100 < l.length) (e : cutAt l = none) : cutV l = ([], [], 1) := by
  rw [cutV, if_neg (by rintro (a | a); rw [a] at h1; exact absurd h1 (by simp); rw [h0] at a; cases a), if_neg (by omega), e]
theorem cutV_le (l : List UInt8) : (cutV l).1.length ≤ l.length ∧ (cutV l).2.1.length ≤ l.length := by
  unfold cutV
  split
  · simp
  · split
    · simp
    · split
      · simp only [List.length_take, List.length_drop]; omega
      · simp
/-- a prefix and a name put together -/
def joinP (p n : List UInt8) : List UInt8 := if p = [] then n else p ++ [47] ++ n
/-- the path of two parts and the error -/
def oneV (p n : List UInt8) : List UInt8 × Int :=
  if n.length < 1 ∨ 100 < n.length ∨ 155 < p.length then ([], 1)
  else if cutV (joinP p n) = (p, n, 0) then (joinP p n, 0)
  else ([], 3)
theorem oneV_size {p n : List UInt8} (h : n.length < 1 ∨ 100 < n.length ∨ 155 < p.length) : oneV p n = ([], 1) := if_pos h
theorem oneV_ok {p n : List UInt8} (h : ¬ (n.length < 1 ∨ 100 < n.length ∨ 155 < p.length)) (e : cutV (joinP p n) = (p, n, 0)) : oneV p n = (joinP p n, 0) := by
  rw [oneV, if_neg h, if_pos e]
theorem oneV_form {p n : List UInt8} (h : ¬ (n.length < 1 ∨ 100 < n.length ∨ 155 < p.length)) (e : cutV (joinP p n) ≠ (p, n, 0)) : oneV p n = ([], 3) := by
  rw [oneV, if_neg h, if_neg e]
/-- what is cut is put together again -/
theorem cut_back {l : List UInt8} {p n : List UInt8} (h : cutV l = (p, n, 0)) : oneV p n = (l, 0) ∧ p.length ≤ 155 ∧ n.length ≤ 100 := by
  have hj : joinP p n = l ∧ 1 ≤ n.length ∧ n.length ≤ 100 ∧ p.length ≤ 155 := by
    by_cases h1 : l = [] ∨ hasB 0 l = true
    · rw [cutV_form h1] at h; simp at h
    · have hne : l ≠ [] := fun a => h1 (.inl a)
      have h0 : hasB 0 l = false := by rw [← Bool.not_eq_true]; exact fun a => h1 (.inr a)
      have hpos := List.length_pos_iff.2 hne
      by_cases h2 : l.length ≤ 100
      · rw [cutV_short hne h0 h2] at h
        simp only [Prod.mk.injEq] at h
        obtain ⟨rfl, rfl, -⟩ := h
        exact ⟨if_pos rfl, hpos, h2, by simp⟩
      · cases hc : cutAt l with
        | none => rw [cutV_none h0 (by omega) hc] at h; simp at h
        | some k =>
          have hf := cutAt_bd hc
          have hb := fits_bd hf
          have hk := fits_lt hf
          rw [cutV_some h0 (by omega) hc] at h
          simp only [Prod.mk.injEq] at h
          obtain ⟨rfl, rfl, -⟩ := h
          have hy := fits_byte hf
          rw [List.getD_eq_getElem?_getD, List.getElem?_eq_getElem hk] at hy
          refine ⟨?_, by rw [List.length_drop]; omega, by rw [List.length_drop]; omega, by rw [List.length_take]; omega⟩
          have hn : ¬ l.take k = [] := by
            intro a
            have h9 : (l.take k).length = 0 := by rw [a]; rfl
            rw [List.length_take] at h9; omega
          rw [joinP, if_neg hn]
          have e : l[k] = 47 := hy
          rw [← e, ← List.take_succ_eq_append_getElem hk, List.take_append_drop]
  refine ⟨?_, hj.2.2.2, hj.2.2.1⟩
  rw [oneV_ok (by omega) (by rw [hj.1]; exact h), hj.1]
theorem cut_bad {l : List UInt8} (h : (cutV l).2.2 ≠ 0) : (cutV l).1 = [] ∧ (cutV l).2.1 = [] := by
  revert h; unfold cutV
  split
  · simp
  · split
    · simp
    · split <;> simp
/-! ### three parts of one byte each -/
/-- the path of CutShort -/
def xyz (a b c : Nat) : List UInt8 := List.replicate a 120 ++ [47] ++ List.replicate b 121 ++ [47] ++ List.replicate c 122
theorem xyz_length (a b c : Nat) : (xyz a b c).length = a + b + c + 2 := by simp [xyz]; omega
theorem rep_no0 (n : Nat) (x : UInt8) (hx : x ≠ 0) : hasB 0 (List.replicate n x) = false := by
  unfold hasB
  rw [← Bool.not_eq_true, List.any_eq_true]
  rintro ⟨b, hb, e⟩
  rw [(List.mem_replicate.1 hb).2] at e; exact hx (by simpa using e)
theorem xyz_no0 (a b c : Nat) : hasB 0 (xyz a b c) = false := by
  unfold xyz
  simp only [hasB_app, rep_no0 _ 120 (by decide), rep_no0 _ 121 (by decide), rep_no0 _ 122 (by decide)]; rfl
theorem xyz_get (a b c j : Nat) : (xyz a b c).getD j 0 = if j < a then 120 else if j = a then 47 else if j < a + 1 + b then 121 else if j = a + 1 + b then 47 else if j < a + b + c + 2 then 122 else 0 := by
  unfold xyz
  rw [List.getD_eq_getElem?_getD]
  simp only [List.getElem?_append, List.length_append, List.length_replicate, List.length_cons, List.length_nil, List.getElem?_replicate]
  repeat' split
  all_goals first
    | rfl
    | omega
    | skip
  all_goals
    try (have e : j - a = 0 := by omega
         rw [e]; rfl)
    try (have e : j - (a + (0 + 1) + b) = 0 := by omega
         rw [e]; rfl)
  all_goals
    rw [List.getElem?_eq_none (by simp; omega)]; rfl
theorem xyz_take1 (a b c : Nat) : (xyz a b c).take a = List.replicate a 120 := by
  unfold xyz; simp only [List.append_assoc]; exact List.take_left' (by simp)
theorem xyz_drop1 (a b c : Nat) : (xyz a b c).drop (a + 1) = List.replicate b 121 ++ [47] ++ List.replicate c 122 := by
  unfold xyz
  have : List.replicate a (120 : UInt8) ++ [47] ++ List.replicate b 121 ++ [47] ++ List.replicate c 122 = (List.replicate a (120 : UInt8) ++ [47]) ++ (List.replicate b 121 ++ [47] ++ List.replicate c 122) := by simp only [List.append_assoc]
  rw [this]; exact List.drop_left' (by simp)
theorem xyz_take2 (a b c : Nat) : (xyz a b c).take (a + 1 + b) = List.replicate a 120 ++ [47] ++ List.replicate b 121 := by
  unfold xyz; rw [List.append_assoc]; exact List.take_left' (by simp; omega)
theorem xyz_drop2 (a b c : Nat) : (xyz a b c).drop (a + 1 + b + 1) = List.replicate c 122 := by
  unfold xyz; exact List.drop_left' (by simp; omega)
/-- how CutShort's path is cut -/
theorem xyz_short {a b c : Nat} (h : a + b + c + 2 ≤ 100) : cutV (xyz a b c) = ([], xyz a b c, 0) := by
  refine cutV_short (fun e => ?_) (xyz_no0 a b c) (by rw [xyz_length]; exact h)
  have := congrArg List.length e; rw [xyz_length] at this; simp at this
theorem xyz_first {a b c : Nat} (ha : 1 ≤ a) (hc : 1 ≤ c) (h : 100 < a + b + c + 2) (h1 : b + c < 100) (h2 : a ≤ 155) : cutV (xyz a b c) = (List.replicate a 120, List.replicate b 121 ++ [47] ++ List.replicate c 122, 0) := by
  have e : cutAt (xyz a b c) = some a := by
    refine cutAt_some (fun j hj => fits_ne ?_) (fits_mk (by rw [xyz_length]; omega) (by rw [xyz_get, if_neg (by omega), if_pos rfl]))
    rw [xyz_get, if_pos hj]; decide
  rw [cutV_some (xyz_no0 a b c) (by rw [xyz_length]; exact h) e, xyz_take1, xyz_drop1]
theorem xyz_second {a b c : Nat} (ha : 1 ≤ a) (hc : 1 ≤ c) (hc' : c ≤ 100) (h : 100 < a + b + c + 2) (h1 : a + b < 155) (h2 : 100 ≤ b + c) : cutV (xyz a b c) = (List.replicate a 120 ++ [47] ++ List.replicate b 121, List.replicate c 122, 0) := by
  have e : cutAt (xyz a b c) = some (a + 1 + b) := by
    refine cutAt_some (fun j hj => ?_) (fits_mk (by rw [xyz_length]; omega) (by rw [xyz_get, if_neg (by omega), if_neg (by omega), if_neg (by omega), if_pos rfl]))
    by_cases hj' : j = a
    · exact fits_no (by rw [xyz_length]; omega)
    · refine fits_ne ?_
      rw [xyz_get]
      split
      · decide
      · first | (rw [if_neg hj', if_pos hj]; decide) | decide
  rw [cutV_some (xyz_no0 a b c) (by rw [xyz_length]; exact h) e, xyz_take2, xyz_drop2]
theorem xyz_none {a b c : Nat} (h : 100 < a + b + c + 2) (h1 : ¬ (b + c < 100 ∧ a ≤ 155)) (h2 : ¬ (a + b < 155 ∧ 100 ≤ b + c)) : cutV (xyz a b c) = ([], [], 1) := by
  refine cutV_none (xyz_no0 a b c) (by rw [xyz_length]; exact h) (cutAt_none (k := a + b + c + 2) (fun j hj => ?_) (.inl (by rw [xyz_length]; omega)))
  by_cases hj' : j = a
  · exact fits_no (by rw [xyz_length]; omega)
  · by_cases hj2 : j = a + 1 + b
    · exact fits_no (by rw [xyz_length]; omega)
    · refine fits_ne ?_
      rw [xyz_get, if_neg hj', if_neg hj2]
      split
      · decide
      · split
        · decide
        · first | decide | (split <;> decide)
end Go.Proofs.Ytceaaadnemmalaa
