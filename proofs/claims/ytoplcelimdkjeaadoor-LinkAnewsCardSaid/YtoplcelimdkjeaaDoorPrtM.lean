/- Plain mathematics of the parts of a text; nothing of the program. -/
import Derived.Test.YtoplcelimdkjeaaDoorPthM
set_option linter.unusedVariables false
namespace Go.Proofs.YtoplcelimdkjeaaDoor
open Go.RowKit
def headCons (a : UInt8) : List (List UInt8) → List (List UInt8)
  | [] => [[a]]
  | h :: t => (a :: h) :: t
/-- the parts between the bytes c -/
def partsL (c : UInt8) : List UInt8 → List (List UInt8)
  | [] => [[]]
  | a :: l => if a = c then [] :: partsL c l else headCons a (partsL c l)
def lastSnoc (a : UInt8) : List (List UInt8) → List (List UInt8)
  | [] => [[a]]
  | [h] => [h ++ [a]]
  | h :: t :: r => h :: lastSnoc a (t :: r)
theorem partsL_nil (c : UInt8) : partsL c [] = [[]] := rfl
theorem partsL_cons (c a : UInt8) (l : List UInt8) : partsL c (a :: l) = if a = c then [] :: partsL c l else headCons a (partsL c l) := rfl
theorem headCons_ne (a : UInt8) (l : List (List UInt8)) : headCons a l ≠ [] := by cases l <;> simp [headCons]
theorem partsL_ne (c : UInt8) (l : List UInt8) : partsL c l ≠ [] := by
  cases l with
  | nil => simp [partsL]
  | cons a l =>
    rw [partsL_cons]
    by_cases h : a = c
    · rw [if_pos h]; simp
    · rw [if_neg h]; exact headCons_ne _ _
theorem partsL_pos (c : UInt8) (l : List UInt8) : 1 ≤ (partsL c l).length := by
  have := partsL_ne c l
  rcases h : partsL c l with _ | ⟨x, y⟩
  · exact absurd h this
  · simp
theorem headCons_length (a : UInt8) (l : List (List UInt8)) (h : l ≠ []) : (headCons a l).length = l.length := by
  cases l with
  | nil => exact absurd rfl h
  | cons x l => rfl
theorem partsL_length (c : UInt8) (l : List UInt8) : (partsL c l).length = l.count c + 1 := by
  induction l with
  | nil => rfl
  | cons a l ih =>
    rw [partsL_cons, List.count_cons]
    by_cases h : a = c
    · subst h; rw [if_pos rfl, List.length_cons, ih]; simp
    · rw [if_neg h, headCons_length _ _ (partsL_ne c l), ih]
      have : (a == c) = false := by simpa using h
      rw [this]; simp
theorem partsL_le (c : UInt8) (l : List UInt8) : (partsL c l).length ≤ l.length + 1 := by
  rw [partsL_length]
  have := List.count_le_length (l := l) (a := c)
  omega
theorem partsL_snoc_eq (c : UInt8) (l : List UInt8) : partsL c (l ++ [c]) = partsL c l ++ [[]] := by
  induction l with
  | nil => simp [partsL]
  | cons a l ih =>
    rw [List.cons_append, partsL_cons, partsL_cons, ih]
    by_cases h : a = c
    · rw [if_pos h, if_pos h]; rfl
    · rw [if_neg h, if_neg h]
      cases hp : partsL c l with
      | nil => exact absurd hp (partsL_ne c l)
      | cons x y => rfl
theorem lastSnoc_cons (a : UInt8) (x : List UInt8) (l : List (List UInt8)) (h : l ≠ []) : lastSnoc a (x :: l) = x :: lastSnoc a l := by
  cases l with
  | nil => exact absurd rfl h
  | cons y l => rfl
theorem lastSnoc_head (a b : UInt8) (l : List (List UInt8)) (h : l ≠ []) : lastSnoc a (headCons b l) = headCons b (lastSnoc a l) := by
  cases l with
  | nil => exact absurd rfl h
  | cons x l =>
    cases l with
    | nil => rfl
    | cons y l => rfl
theorem partsL_snoc_ne (c a : UInt8) (l : List UInt8) (h : a ≠ c) : partsL c (l ++ [a]) = lastSnoc a (partsL c l) := by
  induction l with
  | nil => simp [partsL, h, headCons, lastSnoc]
  | cons b l ih =>
    rw [List.cons_append, partsL_cons, partsL_cons, ih]
    by_cases hb : b = c
    · rw [if_pos hb, if_pos hb, lastSnoc_cons _ _ _ (partsL_ne c l)]
    · rw [if_neg hb, if_neg hb, lastSnoc_head _ _ _ (partsL_ne c l)]
theorem lastSnoc_set (a : UInt8) (l : List (List UInt8)) (n : Nat) (h : l.length = n + 1) : lastSnoc a l = l.set n (l.getD n [] ++ [a]) := by
  induction l generalizing n with
  | nil => simp at h
  | cons x l ih =>
    cases l with
    | nil =>
      have : n = 0 := by simpa using h.symm
      subst this; rfl
    | cons y l =>
      obtain ⟨m, rfl⟩ : ∃ m, n = m + 1 := ⟨n - 1, by simp at h; omega⟩
      rw [lastSnoc_cons _ _ _ (by simp), ih m (by simpa using h)]; rfl
theorem headCons_mem (a : UInt8) (l : List (List UInt8)) (n : Nat) (h : ∀ x ∈ l, x.length ≤ n) : ∀ x ∈ headCons a l, x.length ≤ n + 1 := by
  cases l with
  | nil => intro x hx; simp [headCons] at hx; subst hx; simp
  | cons y l =>
    intro x hx
    simp only [headCons, List.mem_cons] at hx
    rcases hx with rfl | hx
    · have := h y (by simp); simp; omega
    · have := h x (by simp [hx]); omega
theorem partsL_mem (c : UInt8) (l : List UInt8) : ∀ x ∈ partsL c l, x.length ≤ l.length := by
  induction l with
  | nil => intro x hx; simp [partsL] at hx; subst hx; exact Nat.le_refl _
  | cons a l ih =>
    rw [partsL_cons]
    by_cases h : a = c
    · rw [if_pos h]
      intro x hx
      rcases List.mem_cons.1 hx with rfl | hx
      · simp
      · have := ih x hx; simp; omega
    · rw [if_neg h]; exact headCons_mem a _ _ ih
theorem partsL_getD (c : UInt8) (l : List UInt8) (j : Nat) : ((partsL c l).getD j []).length ≤ l.length := by
  rw [List.getD_eq_getElem?_getD]
  by_cases h : j < (partsL c l).length
  · rw [List.getElem?_eq_getElem h]; exact partsL_mem c l _ (List.getElem_mem h)
  · rw [List.getElem?_eq_none (by omega)]; simp
/-- a text as a value, texts as cells -/
def strV (l : List UInt8) : Value := .string ⟨l.toArray⟩
def strC (ls : List (List UInt8)) : List Value := ls.map strV
@[simp] theorem strC_length (ls : List (List UInt8)) : (strC ls).length = ls.length := by simp [strC]
theorem strC_app (a b : List (List UInt8)) : strC (a ++ b) = strC a ++ strC b := by simp [strC]
theorem strC_set (ls : List (List UInt8)) (i : Nat) (x : List UInt8) : (strC ls).set i (strV x) = strC (ls.set i x) := by simp [strC, List.map_set]
theorem strC_get (ls : List (List UInt8)) (j : Nat) (h : j < ls.length) : (strC ls)[j]? = some (strV (ls.getD j [])) := by
  simp [strC, List.getD_eq_getElem?_getD, h]
/-! ### the order of lists of parts is pcmp -/
/-- is the text x less than the text y, byte by byte -/
def bless (x y : List UInt8) : Bool := Op.bytesLess x y
def lcmp : List (List UInt8) → List (List UInt8) → Int
  | [], [] => 0
  | [], _ :: _ => -1
  | _ :: _, [] => 1
  | x :: a, y :: b => if bless x y = true then -1 else if bless y x = true then 1 else lcmp a b
theorem bless_nil_r (x : List UInt8) : bless x [] = false := by cases x <;> rfl
theorem bless_nil_l (y : UInt8) (l : List UInt8) : bless [] (y :: l) = true := rfl
theorem bless_cons (a b : UInt8) (x y : List UInt8) : bless (a :: x) (b :: y) = (decide (a < b) || (a == b && bless x y)) := rfl
theorem bless_same (a : UInt8) (x y : List UInt8) : bless (a :: x) (a :: y) = bless x y := by
  rw [bless_cons]
  have : ¬ a < a := UInt8.lt_irrefl a
  simp [this]
theorem bless_self (x : List UInt8) : bless x x = false := by
  induction x with
  | nil => rfl
  | cons a x ih => rw [bless_same, ih]
theorem bless_diff (a b : UInt8) (x y : List UInt8) (h : a ≠ b) : bless (a :: x) (b :: y) = decide (a < b) := by
  rw [bless_cons]; simp [h]
theorem lcmp_nil_cons (y : List UInt8) (b : List (List UInt8)) : lcmp [] (y :: b) = -1 := by rw [lcmp]
theorem lcmp_cons_nil (x : List UInt8) (a : List (List UInt8)) : lcmp (x :: a) [] = 1 := by rw [lcmp]
theorem lcmp_nil_nil : lcmp [] [] = 0 := by rw [lcmp]
theorem lcmp_cons (x y : List UInt8) (a b : List (List UInt8)) : lcmp (x :: a) (y :: b) = if bless x y = true then -1 else if bless y x = true then 1 else lcmp a b := by rw [lcmp]
theorem lcmp_same (x : List UInt8) (a b : List (List UInt8)) : lcmp (x :: a) (x :: b) = lcmp a b := by rw [lcmp_cons, bless_self]; simp
theorem lcmp_head (a : UInt8) (P Q : List (List UInt8)) (hp : P ≠ []) (hq : Q ≠ []) : lcmp (headCons a P) (headCons a Q) = lcmp P Q := by
  cases P with
  | nil => exact absurd rfl hp
  | cons x P =>
    cases Q with
    | nil => exact absurd rfl hq
    | cons y Q => rw [headCons, headCons, lcmp_cons, lcmp_cons, bless_same, bless_same]
theorem lcmp_heads (a b : UInt8) (P Q : List (List UInt8)) (hp : P ≠ []) (hq : Q ≠ []) (h : a ≠ b) : lcmp (headCons a P) (headCons b Q) = sgn (a.toNat : Int) (b.toNat : Int) := by
  cases P with
  | nil => exact absurd rfl hp
  | cons x P =>
    cases Q with
    | nil => exact absurd rfl hq
    | cons y Q =>
      rw [headCons, headCons, lcmp_cons, bless_diff _ _ _ _ h, bless_diff _ _ _ _ (fun e => h e.symm)]
      have hn : a.toNat ≠ b.toNat := fun e => h (UInt8.toNat_inj.1 e)
      simp only [decide_eq_true_eq, UInt8.lt_iff_toNat_lt]
      by_cases hl : a.toNat < b.toNat
      · rw [if_pos hl, sgn_lt (by omega)]
      · rw [if_neg hl, if_pos (by omega), sgn_gt (by omega)]
/-- the parts of a path: the empty one has none -/
def pp (l : List UInt8) : List (List UInt8) := if l = [] then [] else partsL 47 l
theorem pp_nil : pp [] = [] := rfl
theorem pp_ne {l : List UInt8} (h : l ≠ []) : pp l = partsL 47 l := if_neg h
theorem pp_cons (a : UInt8) (l : List UInt8) : pp (a :: l) = partsL 47 (a :: l) := if_neg (by simp)
theorem rk_slash : rk 47 = -1 := rfl
theorem rk_other {c : UInt8} (h : c ≠ 47) : rk c = (c.toNat : Int) := if_neg h
theorem lcmp_parts (a b : List UInt8) : lcmp (partsL 47 a) (partsL 47 b) = pcmp a b := by
  induction a generalizing b with
  | nil =>
    cases b with
    | nil => rw [partsL_nil, lcmp_same, lcmp_nil_nil, pcmp_nil_nil]
    | cons y b =>
      rw [partsL_nil, partsL_cons, pcmp_nil_cons]
      by_cases h : y = 47
      · rw [if_pos h, lcmp_same]
        rcases hp : partsL 47 b with _ | ⟨u, v⟩
        · exact absurd hp (partsL_ne _ _)
        · exact lcmp_nil_cons _ _
      · rw [if_neg h]
        rcases hp : partsL 47 b with _ | ⟨u, v⟩
        · exact absurd hp (partsL_ne _ _)
        · rw [headCons, lcmp_cons, bless_nil_l]; simp
  | cons x a ih =>
    cases b with
    | nil =>
      rw [partsL_nil, partsL_cons, pcmp_cons_nil]
      by_cases h : x = 47
      · rw [if_pos h, lcmp_same]
        rcases hp : partsL 47 a with _ | ⟨u, v⟩
        · exact absurd hp (partsL_ne _ _)
        · exact lcmp_cons_nil _ _
      · rw [if_neg h]
        rcases hp : partsL 47 a with _ | ⟨u, v⟩
        · exact absurd hp (partsL_ne _ _)
        · rw [headCons, lcmp_cons, bless_nil_r, bless_nil_l]; simp
    | cons y b =>
      rw [partsL_cons, partsL_cons, pcmp_cons]
      by_cases hx : x = 47
      · subst hx
        rw [if_pos rfl]
        by_cases hy : y = 47
        · subst hy
          rw [if_pos rfl, if_pos rfl, lcmp_same, ih]
        · rw [if_neg hy, if_neg (fun e => hy e.symm), rk_slash, rk_other hy, sgn_lt (by omega)]
          rcases hp : partsL 47 b with _ | ⟨u, v⟩
          · exact absurd hp (partsL_ne _ _)
          · rw [headCons, lcmp_cons, bless_nil_l]; simp
      · rw [if_neg hx]
        by_cases hy : y = 47
        · subst hy
          rw [if_pos rfl, if_neg hx, rk_slash, rk_other hx, sgn_gt (by omega)]
          rcases hp : partsL 47 a with _ | ⟨u, v⟩
          · exact absurd hp (partsL_ne _ _)
          · rw [headCons, lcmp_cons, bless_nil_r, bless_nil_l]; simp
        · rw [if_neg hy]
          by_cases e : x = y
          · subst e
            rw [if_pos rfl, lcmp_head _ _ _ (partsL_ne _ _) (partsL_ne _ _), ih]
          · rw [if_neg e, lcmp_heads _ _ _ _ (partsL_ne _ _) (partsL_ne _ _) e, rk_other hx, rk_other hy]
theorem lcmp_pp (a b : List UInt8) : lcmp (pp a) (pp b) = pcmp a b := by
  cases a with
  | nil =>
    cases b with
    | nil => rfl
    | cons y b =>
      rw [pp_nil, pp_cons, pcmp_nil_cons]
      rcases hp : partsL 47 (y :: b) with _ | ⟨u, v⟩
      · exact absurd hp (partsL_ne _ _)
      · exact lcmp_nil_cons _ _
  | cons x a =>
    cases b with
    | nil =>
      rw [pp_nil, pp_cons, pcmp_cons_nil]
      rcases hp : partsL 47 (x :: a) with _ | ⟨u, v⟩
      · exact absurd hp (partsL_ne _ _)
      · exact lcmp_cons_nil _ _
    | cons y b => rw [pp_cons, pp_cons, lcmp_parts]
/-! ### behind k equal parts -/
theorem lcmp_app (p a b : List (List UInt8)) : lcmp (p ++ a) (p ++ b) = lcmp a b := by
  induction p with
  | nil => rfl
  | cons x p ih => rw [List.cons_append, List.cons_append, lcmp_same, ih]
theorem lcmp_short (a b : List (List UInt8)) (h : a = [] ∨ b = []) : lcmp a b = sgn a.length b.length := by
  rcases h with rfl | rfl
  · cases b with
    | nil => rw [lcmp_nil_nil]; exact (sgn_self _).symm
    | cons y b => rw [lcmp_nil_cons, sgn_lt (by simp)]
  · cases a with
    | nil => rw [lcmp_nil_nil]; exact (sgn_self _).symm
    | cons y b => rw [lcmp_cons_nil, sgn_gt (by simp)]
theorem lcmp_end (a b : List (List UInt8)) (k : Nat) (he : a.take k = b.take k) (ha : k ≤ a.length) (hb : k ≤ b.length) (h : k = a.length ∨ k = b.length) : lcmp a b = sgn a.length b.length := by
  have e1 : a = a.take k ++ a.drop k := (List.take_append_drop k a).symm
  have e2 : b = a.take k ++ b.drop k := by rw [he]; exact (List.take_append_drop k b).symm
  have l1 : (a.drop k).length = a.length - k := List.length_drop ..
  have l2 : (b.drop k).length = b.length - k := List.length_drop ..
  have : lcmp a b = lcmp (a.drop k) (b.drop k) := by
    conv => lhs; rw [e1, e2]
    exact lcmp_app _ _ _
  rw [this, lcmp_short _ _ (by rcases h with h | h; exact .inl (List.eq_nil_of_length_eq_zero (by omega)); exact .inr (List.eq_nil_of_length_eq_zero (by omega))), l1, l2]
  unfold sgn
  by_cases c1 : (a.length : Int) < b.length
  · rw [if_pos c1, if_pos (by omega)]
  · rw [if_neg c1, if_neg (by omega)]
    by_cases c2 : (b.length : Int) < a.length
    · rw [if_pos c2, if_pos (by omega)]
    · rw [if_neg c2, if_neg (by omega)]
theorem lcmp_at (a b : List (List UInt8)) (k : Nat) (he : a.take k = b.take k) (ha : k < a.length) (hb : k < b.length) :
    lcmp a b = if bless a[k] b[k] = true then -1 else if bless b[k] a[k] = true then 1 else lcmp (a.drop (k + 1)) (b.drop (k + 1)) := by
  have e1 : a = a.take k ++ a[k] :: a.drop (k + 1) := by rw [← List.drop_eq_getElem_cons ha]; exact (List.take_append_drop k a).symm
  have e2 : b = a.take k ++ b[k] :: b.drop (k + 1) := by rw [← List.drop_eq_getElem_cons hb, he]; exact (List.take_append_drop k b).symm
  have : lcmp a b = lcmp (a[k] :: a.drop (k + 1)) (b[k] :: b.drop (k + 1)) := by
    conv => lhs; rw [e1, e2]
    exact lcmp_app _ _ _
  rw [this, lcmp_cons]
theorem bless_total (x y : List UInt8) (h1 : bless x y = false) (h2 : bless y x = false) : x = y := by
  induction x generalizing y with
  | nil =>
    cases y with
    | nil => rfl
    | cons b y => rw [bless_nil_l] at h1; cases h1
  | cons a x ih =>
    cases y with
    | nil => rw [bless_nil_l] at h2; cases h2
    | cons b y =>
      by_cases e : a = b
      · subst e
        rw [bless_same] at h1 h2
        rw [ih y h1 h2]
      · rw [bless_diff _ _ _ _ e] at h1
        rw [bless_diff _ _ _ _ (fun h => e h.symm)] at h2
        have h1' := of_decide_eq_false h1
        have h2' := of_decide_eq_false h2
        rw [UInt8.lt_iff_toNat_lt] at h1' h2'
        exact absurd (UInt8.toNat_inj.1 (by omega)) e
theorem getD_take_snoc (ls : List (List UInt8)) (k : Nat) (h : k < ls.length) : ls.take (k + 1) = ls.take k ++ [ls.getD k []] := by
  rw [List.take_succ_eq_append_getElem h, List.getD_eq_getElem?_getD, List.getElem?_eq_getElem h]; rfl
theorem lcmp_step (a b : List (List UInt8)) (k : Nat) (he : a.take k = b.take k) (ha : k < a.length) (hb : k < b.length) :
    (bless (a.getD k []) (b.getD k []) = true → lcmp a b = -1) ∧ (bless (a.getD k []) (b.getD k []) = false → a.getD k [] ≠ b.getD k [] → lcmp a b = 1) ∧ (a.getD k [] = b.getD k [] → a.take (k + 1) = b.take (k + 1)) := by
  have ga : a.getD k [] = a[k] := by rw [List.getD_eq_getElem?_getD, List.getElem?_eq_getElem ha]; rfl
  have gb : b.getD k [] = b[k] := by rw [List.getD_eq_getElem?_getD, List.getElem?_eq_getElem hb]; rfl
  rw [ga, gb]
  refine ⟨fun h => ?_, fun h hne => ?_, fun h => ?_⟩
  · rw [lcmp_at a b k he ha hb, if_pos h]
  · rw [lcmp_at a b k he ha hb, if_neg (by rw [h]; simp), if_pos]
    cases h2 : bless b[k] a[k]
    · exact absurd (bless_total _ _ h h2) hne
    · rfl
  · rw [getD_take_snoc a k ha, getD_take_snoc b k hb, he, ga, gb, h]
end Go.Proofs.YtoplcelimdkjeaaDoor
