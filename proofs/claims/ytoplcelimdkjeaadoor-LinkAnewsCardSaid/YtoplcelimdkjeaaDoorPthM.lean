/- Plain mathematics of paths; nothing of the program. -/
import Derived.Test.YtoplcelimdkjeaaDoorNum
set_option linter.unusedVariables false
namespace Go.Proofs.YtoplcelimdkjeaaDoor
open Go.RowKit
/-! ### in -/
/-- does the text s begin with the text d and a slash (d empty: is s not empty) -/
def inB (s d : List UInt8) : Bool := if d = [] then !decide (s = []) else decide (d ++ [47] <+: s)
theorem inB_nil (s : List UInt8) : inB s [] = !decide (s = []) := rfl
theorem inB_ne {s d : List UInt8} (h : d ≠ []) : inB s d = decide (d ++ [47] <+: s) := if_neg h
theorem pre_snoc (d s : List UInt8) (c : UInt8) (h : d.length < s.length) : d ++ [c] <+: s ↔ (s.take d.length = d ∧ s[d.length] = c) := by
  constructor
  · rintro ⟨t, rfl⟩
    simp
  · rintro ⟨e, hc⟩
    refine ⟨s.drop (d.length + 1), ?_⟩
    conv => rhs; rw [← List.take_append_drop d.length s, e, List.drop_eq_getElem_cons h, hc]
    simp
theorem pre_short (d s : List UInt8) (c : UInt8) (h : ¬ d.length < s.length) : ¬ (d ++ [c] <+: s) := fun e => by
  have := e.length_le
  simp at this; omega
/-! ### the order -/
/-- a byte's rank: a slash ahead of all others -/
def rk (c : UInt8) : Int := if c = 47 then -1 else (c.toNat : Int)
def sgn (a b : Int) : Int := if a < b then -1 else if b < a then 1 else 0
theorem sgn_self (a : Int) : sgn a a = 0 := by unfold sgn; rw [if_neg (by omega), if_neg (by omega)]
theorem sgn_lt {a b : Int} (h : a < b) : sgn a b = -1 := if_pos h
theorem sgn_gt {a b : Int} (h : b < a) : sgn a b = 1 := by unfold sgn; rw [if_neg (by omega), if_pos h]
theorem sgn_eq {a b : Int} (h1 : ¬ a < b) (h2 : ¬ b < a) : sgn a b = 0 := by unfold sgn; rw [if_neg h1, if_neg h2]
theorem rk_lo (c : UInt8) : -1 ≤ rk c := by unfold rk; split <;> omega
theorem rk_hi (c : UInt8) : rk c ≤ 255 := by
  unfold rk
  have := u8_lt c
  split <;> omega
theorem rk_inj {a b : UInt8} (h : rk a = rk b) : a = b := by
  unfold rk at h
  split at h <;> split at h
  · subst_vars; rfl
  · omega
  · omega
  · exact UInt8.toNat_inj.1 (by omega)
/-- paths, part by part -/
def pcmp : List UInt8 → List UInt8 → Int
  | [], [] => 0
  | [], _ :: _ => -1
  | _ :: _, [] => 1
  | x :: a, y :: b => if x = y then pcmp a b else sgn (rk x) (rk y)
theorem pcmp_nil_cons (y : UInt8) (b : List UInt8) : pcmp [] (y :: b) = -1 := by rw [pcmp]
theorem pcmp_cons_nil (x : UInt8) (a : List UInt8) : pcmp (x :: a) [] = 1 := by rw [pcmp]
theorem pcmp_nil_nil : pcmp [] [] = 0 := by rw [pcmp]
theorem pcmp_cons (x y : UInt8) (a b : List UInt8) : pcmp (x :: a) (y :: b) = if x = y then pcmp a b else sgn (rk x) (rk y) := by rw [pcmp]
/-- an equal beginning does not count -/
theorem pcmp_app (p a b : List UInt8) : pcmp (p ++ a) (p ++ b) = pcmp a b := by
  induction p with
  | nil => rfl
  | cons x p ih => rw [List.cons_append, List.cons_append, pcmp_cons, if_pos rfl, ih]
theorem pcmp_short (a b : List UInt8) (h : a = [] ∨ b = []) : pcmp a b = sgn a.length b.length := by
  rcases h with rfl | rfl
  · cases b with
    | nil => rw [pcmp_nil_nil]; exact (sgn_self _).symm
    | cons y b => rw [pcmp_nil_cons, sgn_lt (by simp)]
  · cases a with
    | nil => rw [pcmp_nil_nil]; exact (sgn_self _).symm
    | cons y b => rw [pcmp_cons_nil, sgn_gt (by simp)]
/-- behind k equal bytes, where one text ends -/
theorem pcmp_end (a b : List UInt8) (k : Nat) (he : a.take k = b.take k) (ha : k ≤ a.length) (hb : k ≤ b.length) (h : k = a.length ∨ k = b.length) : pcmp a b = sgn a.length b.length := by
  have e1 : a = a.take k ++ a.drop k := (List.take_append_drop k a).symm
  have e2 : b = a.take k ++ b.drop k := by rw [he]; exact (List.take_append_drop k b).symm
  have l1 : (a.drop k).length = a.length - k := List.length_drop ..
  have l2 : (b.drop k).length = b.length - k := List.length_drop ..
  have : pcmp a b = pcmp (a.drop k) (b.drop k) := by
    conv => lhs; rw [e1, e2]
    exact pcmp_app _ _ _
  rw [this, pcmp_short _ _ (by rcases h with h | h; exact .inl (List.eq_nil_of_length_eq_zero (by omega)); exact .inr (List.eq_nil_of_length_eq_zero (by omega))), l1, l2]
  unfold sgn
  by_cases c1 : (a.length : Int) < b.length
  · rw [if_pos c1, if_pos (by omega)]
  · rw [if_neg c1, if_neg (by omega)]
    by_cases c2 : (b.length : Int) < a.length
    · rw [if_pos c2, if_pos (by omega)]
    · rw [if_neg c2, if_neg (by omega)]
/-- behind k equal bytes, two that differ -/
theorem pcmp_at (a b : List UInt8) (k : Nat) (he : a.take k = b.take k) (ha : k < a.length) (hb : k < b.length) (h : a[k] ≠ b[k]) : pcmp a b = sgn (rk a[k]) (rk b[k]) := by
  have e1 : a = a.take k ++ a[k] :: a.drop (k + 1) := by rw [← List.drop_eq_getElem_cons ha]; exact (List.take_append_drop k a).symm
  have e2 : b = a.take k ++ b[k] :: b.drop (k + 1) := by rw [← List.drop_eq_getElem_cons hb, he]; exact (List.take_append_drop k b).symm
  have : pcmp a b = pcmp (a[k] :: a.drop (k + 1)) (b[k] :: b.drop (k + 1)) := by
    conv => lhs; rw [e1, e2]
    exact pcmp_app _ _ _
  rw [this, pcmp_cons, if_neg h]
theorem sgn_neg (a b : Int) : sgn b a = -sgn a b := by
  unfold sgn
  by_cases c1 : a < b
  · rw [if_pos c1, if_neg (by omega), if_pos c1]; rfl
  · rw [if_neg c1]
    by_cases c2 : b < a
    · rw [if_pos c2, if_neg c1, if_pos c2]
    · rw [if_neg c2, if_neg c1, if_neg c2]; rfl
theorem sgn_cases (a b : Int) : (sgn a b = -1 ∧ a < b) ∨ (sgn a b = 0 ∧ a = b) ∨ (sgn a b = 1 ∧ b < a) := by
  unfold sgn
  by_cases c1 : a < b
  · rw [if_pos c1]; exact .inl ⟨rfl, c1⟩
  · rw [if_neg c1]
    by_cases c2 : b < a
    · rw [if_pos c2]; exact .inr (.inr ⟨rfl, c2⟩)
    · rw [if_neg c2]; exact .inr (.inl ⟨rfl, by omega⟩)
theorem pcmp_neg (a b : List UInt8) : pcmp b a = -pcmp a b := by
  induction a generalizing b with
  | nil => cases b <;> simp [pcmp]
  | cons x a ih =>
    cases b with
    | nil => simp [pcmp]
    | cons y b =>
      rw [pcmp_cons, pcmp_cons]
      by_cases h : x = y
      · rw [if_pos h, if_pos h.symm, ih]
      · rw [if_neg h, if_neg (fun e => h e.symm), sgn_neg]
theorem pcmp_bd (a b : List UInt8) : -1 ≤ pcmp a b ∧ pcmp a b ≤ 1 := by
  induction a generalizing b with
  | nil => cases b <;> simp [pcmp]
  | cons x a ih =>
    cases b with
    | nil => simp [pcmp]
    | cons y b =>
      rw [pcmp_cons]
      by_cases h : x = y
      · rw [if_pos h]; exact ih b
      · rw [if_neg h]; rcases sgn_cases (rk x) (rk y) with ⟨e, _⟩ | ⟨e, _⟩ | ⟨e, _⟩ <;> rw [e] <;> omega
theorem pcmp_zero (a b : List UInt8) : pcmp a b = 0 ↔ a = b := by
  induction a generalizing b with
  | nil => cases b <;> simp [pcmp]
  | cons x a ih =>
    cases b with
    | nil => simp [pcmp]
    | cons y b =>
      rw [pcmp_cons]
      by_cases h : x = y
      · rw [if_pos h, ih]; simp [h]
      · rw [if_neg h]
        have hr : rk x ≠ rk y := fun e => h (rk_inj e)
        rcases sgn_cases (rk x) (rk y) with ⟨e, _⟩ | ⟨_, e⟩ | ⟨e, _⟩
        · rw [e]; simp [h]
        · exact absurd e hr
        · rw [e]; simp [h]
theorem pcmp_trans (a b c : List UInt8) (h1 : pcmp a b ≤ 0) (h2 : pcmp b c ≤ 0) : pcmp a c ≤ 0 := by
  induction a generalizing b c with
  | nil => cases c <;> simp [pcmp]
  | cons x a ih =>
    cases b with
    | nil => rw [pcmp_cons_nil] at h1; omega
    | cons y b =>
      cases c with
      | nil => rw [pcmp_cons_nil] at h2; omega
      | cons z c =>
        rw [pcmp_cons] at h1 h2 ⊢
        by_cases e1 : x = y
        · subst e1
          rw [if_pos rfl] at h1
          by_cases e2 : x = z
          · subst e2
            rw [if_pos rfl] at h2 ⊢
            exact ih b c h1 h2
          · rw [if_neg e2] at h2 ⊢; exact h2
        · rw [if_neg e1] at h1
          have hr : rk x ≠ rk y := fun e => e1 (rk_inj e)
          have l1 : rk x < rk y := by rcases sgn_cases (rk x) (rk y) with ⟨_, e⟩ | ⟨_, e⟩ | ⟨e, _⟩ <;> omega
          by_cases e2 : y = z
          · subst e2
            rw [if_neg e1]; exact h1
          · rw [if_neg e2] at h2
            have l2 : rk y < rk z := by
              have hr2 : rk y ≠ rk z := fun e => e2 (rk_inj e)
              rcases sgn_cases (rk y) (rk z) with ⟨_, e⟩ | ⟨_, e⟩ | ⟨e, _⟩ <;> omega
            rw [if_neg (by intro e; subst e; omega), sgn_lt (by omega)]; omega
theorem pcmp_self (a : List UInt8) : pcmp a a = 0 := (pcmp_zero a a).2 rfl
end Go.Proofs.YtoplcelimdkjeaaDoor
