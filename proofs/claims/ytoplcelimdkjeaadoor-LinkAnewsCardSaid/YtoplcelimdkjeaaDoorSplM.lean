/- Plain mathematics of splitting, joining, and the last part; nothing of the program. -/
import Derived.Test.YtoplcelimdkjeaaDoorPrtM
import Derived.Test.YtoplcelimdkjeaaDoorFldM
import Derived.Lib.SplitLaws
import Derived.Lib.LastIndexByte
import Derived.Lib.Join
import Derived.Lib.IndexBytes
set_option linter.unusedVariables false
namespace Go.Proofs.YtoplcelimdkjeaaDoor
open Go.RowKit
theorem headCons_app (a : UInt8) (l m : List (List UInt8)) (h : l ≠ []) : headCons a (l ++ m) = headCons a l ++ m := by
  cases l with
  | nil => exact absurd rfl h
  | cons x l => rfl
theorem partsL_app (c : UInt8) (a b : List UInt8) : partsL c (a ++ c :: b) = partsL c a ++ partsL c b := by
  induction a with
  | nil => rw [List.nil_append, partsL_cons, if_pos rfl, partsL_nil]; rfl
  | cons x a ih =>
    rw [List.cons_append, partsL_cons, partsL_cons, ih]
    by_cases h : x = c
    · rw [if_pos h, if_pos h]; rfl
    · rw [if_neg h, if_neg h, headCons_app _ _ _ (partsL_ne c a)]
theorem partsL_none (c : UInt8) (l : List UInt8) (h : hasB c l = false) : partsL c l = [l] := by
  induction l with
  | nil => rfl
  | cons x l ih =>
    rw [hasB_cons, Bool.or_eq_false_iff] at h
    have hx : x ≠ c := by simpa using h.1
    rw [partsL_cons, if_neg hx, ih h.2]; rfl
def joinL : List (List UInt8) → List UInt8
  | [] => []
  | [x] => x
  | x :: y :: r => x ++ 47 :: joinL (y :: r)
theorem joinL_cons (x : List UInt8) (l : List (List UInt8)) (h : l ≠ []) : joinL (x :: l) = x ++ 47 :: joinL l := by
  cases l with
  | nil => exact absurd rfl h
  | cons y l => rfl
theorem joinL_head (a : UInt8) (l : List (List UInt8)) (h : l ≠ []) : joinL (headCons a l) = a :: joinL l := by
  cases l with
  | nil => exact absurd rfl h
  | cons x l =>
    cases l with
    | nil => rfl
    | cons y l => rfl
theorem joinL_parts (l : List UInt8) : joinL (partsL 47 l) = l := by
  induction l with
  | nil => rfl
  | cons x l ih =>
    rw [partsL_cons]
    by_cases h : x = 47
    · rw [if_pos h, joinL_cons _ _ (partsL_ne _ _), ih, h]; rfl
    · rw [if_neg h, joinL_head _ _ (partsL_ne _ _), ih]
theorem joinL_snoc (ls : List (List UInt8)) (x : List UInt8) (h : ls ≠ []) : joinL (ls ++ [x]) = joinL ls ++ 47 :: x := by
  induction ls with
  | nil => exact absurd rfl h
  | cons y ls ih =>
    by_cases h2 : ls = []
    · subst h2; rfl
    · rw [List.cons_append, joinL_cons _ _ (by simp), ih h2, joinL_cons _ _ h2]; simp
theorem joinL_take_le (ls : List (List UInt8)) (k : Nat) : (joinL (ls.take k)).length ≤ (joinL ls).length := by
  induction ls generalizing k with
  | nil => simp
  | cons x ls ih =>
    cases k with
    | zero => simp [joinL]
    | succ k =>
      rw [List.take_succ_cons]
      by_cases h : ls = []
      · subst h; simp
      · rw [joinL_cons x ls h]
        by_cases h2 : ls.take k = []
        · rw [h2]; simp [joinL]
        · rw [joinL_cons _ _ h2]
          have := ih k
          simp only [List.length_append, List.length_cons]; omega
/-- what a path is in; its last part -/
def upL (l : List UInt8) : List UInt8 := joinL (partsL 47 l).dropLast
def baseL (l : List UInt8) : List UInt8 := (partsL 47 l).getLast (partsL_ne 47 l)
theorem up_base_at (l a b : List UInt8) (h : hasB 47 b = false) (e : l = a ++ 47 :: b) : upL l = a ∧ baseL l = b := by
  have hp : partsL 47 l = partsL 47 a ++ [b] := by rw [e, partsL_app, partsL_none 47 b h]
  refine ⟨?_, ?_⟩
  · unfold upL; rw [hp, List.dropLast_concat, joinL_parts]
  · unfold baseL; simp [hp]
theorem up_base_none (l : List UInt8) (h : hasB 47 l = false) : upL l = [] ∧ baseL l = l := by
  have hp := partsL_none 47 l h
  refine ⟨?_, ?_⟩
  · unfold upL; rw [hp]; rfl
  · unfold baseL; simp [hp]
theorem hasB_mem (c : UInt8) (l : List UInt8) : hasB c l = false ↔ ∀ x ∈ l, x ≠ c := by
  unfold hasB; simp
/-- the byte string's last byte c, by the library's word -/
theorem last_cases (s : ByteArray) : (Lib.lastIndexByte s 47 = -1 ∧ upL s.data.toList = [] ∧ baseL s.data.toList = s.data.toList ∧ hasB 47 s.data.toList = false) ∨
    ∃ i : Nat, i < s.size ∧ Lib.lastIndexByte s 47 = i ∧ upL s.data.toList = s.data.toList.take i ∧ baseL s.data.toList = s.data.toList.drop (i + 1) ∧ hasB 47 s.data.toList = true := by
  have hl : s.data.toList.length = s.size := by simp
  have hg : ∀ j (h : j < s.size), s.data[j]! = s.data.toList[j]'(by omega) := fun j h => by
    rw [getElem!_pos s.data j (by simpa using h)]; simp
  rcases Lib.lastIndexByte_spec s 47 with ⟨h1, h2⟩ | ⟨i, hi, h1, h2, h3⟩
  · refine .inl ⟨h1, ?_⟩
    have hb : hasB 47 s.data.toList = false := by
      rw [hasB_mem]
      intro x hx e
      obtain ⟨j, hj, rfl⟩ := List.getElem_of_mem hx
      refine h2 j (by omega) ?_
      rw [hg j (by omega), e]; rfl
    obtain ⟨u, b⟩ := up_base_none _ hb
    exact ⟨u, b, hb⟩
  · refine .inr ⟨i, hi, h1, ?_⟩
    have hil : i < s.data.toList.length := by omega
    have e47 : s.data.toList[i] = 47 := by
      have := h2; rw [hg i hi] at this
      exact UInt8.toNat_inj.1 (by show _ = 47; omega)
    have hb : hasB 47 (s.data.toList.drop (i + 1)) = false := by
      rw [hasB_mem]
      intro x hx e
      obtain ⟨j, hj, rfl⟩ := List.getElem_of_mem hx
      rw [List.length_drop] at hj
      refine h3 (i + 1 + j) (by omega) (by omega) ?_
      rw [hg _ (by omega)]
      rw [List.getElem_drop] at e
      rw [e]; rfl
    have e : s.data.toList = s.data.toList.take i ++ 47 :: s.data.toList.drop (i + 1) := by
      conv => lhs; rw [← List.take_append_drop i s.data.toList, List.drop_eq_getElem_cons hil, e47]
    obtain ⟨u, b⟩ := up_base_at _ _ _ hb e
    refine ⟨u, b, ?_⟩
    rw [e, hasB_app, hasB_cons]; simp
/-! ### strings.Split at one byte -/
theorem partsL_cut (c : UInt8) (l : List UInt8) (h : hasB c l = true) : partsL c l = l.take (pos c l) :: partsL c (l.drop (pos c l + 1)) := by
  have hp : pos c l < l.length := by rw [hasB_pos] at h; exact of_decide_eq_true h
  have e : l = l.take (pos c l) ++ c :: l.drop (pos c l + 1) := by
    conv => lhs; rw [← List.take_append_drop (pos c l) l, List.drop_eq_getElem_cons hp, pos_get c l hp]
  conv => lhs; rw [e]
  rw [partsL_app, partsL_none c _ (hasB_take c l _ (Nat.le_refl _))]; rfl
theorem count_cut (c : UInt8) (l : List UInt8) (h : hasB c l = true) : l.count c = (l.drop (pos c l + 1)).count c + 1 := by
  have := partsL_cut c l h
  have h2 := congrArg List.length this
  rw [partsL_length, List.length_cons, partsL_length] at h2
  omega
theorem splitK_parts (c : UInt8) (k : Nat) (l : List UInt8) (h : l.count c = k) : Lib.splitK [c] 0 k l = partsL c l := by
  induction k generalizing l with
  | zero =>
    have : hasB c l = false := by
      rw [hasB_mem]; intro x hx e; subst e
      have := List.count_pos_iff.2 hx; omega
    rw [partsL_none c l this]; rfl
  | succ k ih =>
    have hb : hasB c l = true := by
      rw [← Bool.not_eq_false, hasB_mem]; intro h2
      have : l.count c = 0 := List.count_eq_zero.2 (fun hm => h2 c hm rfl)
      omega
    have hi : Lib.index l [c] = (pos c l : Int) := by rw [Lib.index_one, indexByte_pos, if_pos hb]
    have hc := count_cut c l hb
    unfold Lib.splitK
    rw [hi, if_neg (by simp), partsL_cut c l hb, Int.toNat_natCast, Nat.add_zero, List.length_singleton, ih _ (by omega)]
theorem countB_slash (s : ByteArray) : Lib.countB s ⟨#[47]⟩ = s.data.toList.count 47 := Lib.count_one 47 s.data.toList
theorem splitB_parts (s : ByteArray) (k : Nat) (h : s.data.toList.count 47 = k) : (Lib.splitB ⟨#[47]⟩ 0 k s).map Value.string = strC (partsL 47 s.data.toList) := by
  have hd := Lib.splitB_data ⟨#[47]⟩ 0 k s
  rw [show (⟨#[47]⟩ : ByteArray).data.toList = [47] from rfl, splitK_parts 47 k _ h] at hd
  rw [← hd]
  unfold strC
  rw [List.map_map]
  refine List.map_congr_left fun x _ => ?_
  show Value.string x = strV x.data.toList
  unfold strV
  congr 1
/-! ### strings.Join -/
theorem join_joinL (ls : List (List UInt8)) : Lib.join ls [47] = joinL ls := by
  induction ls with
  | nil => rfl
  | cons x ls ih =>
    by_cases h : ls = []
    · subst h; rw [Lib.join_one]; rfl
    · rw [joinL_cons x ls h, ← ih]
      cases ls with
      | nil => exact absurd rfl h
      | cons y r => rw [Lib.join_cons, Lib.join_cons]; simp [Lib.joinTail]
/-- may a part be a name -/
def nameB (l : List UInt8) : Bool := !(decide (l = [])) && !(decide (l = [46])) && !(decide (l = [46, 46]))
theorem nameB_false (l : List UInt8) (h : l = [] ∨ l = [46] ∨ l = [46, 46]) : nameB l = false := by
  rcases h with rfl | rfl | rfl <;> rfl
theorem nameB_true (l : List UInt8) (h : l ≠ []) (h1 : l ≠ [46]) (h2 : l ≠ [46, 46]) : nameB l = true := by simp [nameB, h, h1, h2]
/-- what Check says of a path -/
def pathE (l : List UInt8) : Int :=
  if l.length < 1 ∨ 400 < l.length then 1 else if hasB 0 l = true then 3 else if (partsL 47 l).all nameB = true then 0 else 9
theorem pathE_size {l : List UInt8} (h : l.length < 1 ∨ 400 < l.length) : pathE l = 1 := if_pos h
theorem pathE_form {l : List UInt8} (h : ¬ (l.length < 1 ∨ 400 < l.length)) (h2 : hasB 0 l = true) : pathE l = 3 := by rw [pathE, if_neg h, if_pos h2]
theorem pathE_ok {l : List UInt8} (h : ¬ (l.length < 1 ∨ 400 < l.length)) (h2 : hasB 0 l = false) (h3 : (partsL 47 l).all nameB = true) : pathE l = 0 := by rw [pathE, if_neg h, if_neg (by simp [h2]), if_pos h3]
theorem pathE_no {l : List UInt8} (h : ¬ (l.length < 1 ∨ 400 < l.length)) (h2 : hasB 0 l = false) (h3 : (partsL 47 l).all nameB = false) : pathE l = 9 := by rw [pathE, if_neg h, if_neg (by simp [h2]), if_neg (by simp [h3])]
def allE (ls : List (List UInt8)) : Int := if ls.all nameB = true then 0 else 9
theorem allE_yes {ls : List (List UInt8)} (h : ls.all nameB = true) : allE ls = 0 := if_pos h
theorem allE_no {ls : List (List UInt8)} (h : ls.all nameB = false) : allE ls = 9 := if_neg (by simp [h])
theorem all_take_no (ls : List (List UInt8)) (p : List UInt8 → Bool) (k : Nat) (hk : k < ls.length) (h : p (ls.getD k []) = false) : ls.all p = false := by
  rw [← Bool.not_eq_true, List.all_eq_true]
  intro h2
  rw [List.getD_eq_getElem?_getD, List.getElem?_eq_getElem hk] at h
  have := h2 _ (List.getElem_mem hk)
  rw [Option.getD_some] at h
  rw [h] at this; cases this
theorem all_take_snoc (ls : List (List UInt8)) (p : List UInt8 → Bool) (k : Nat) (hk : k < ls.length) (h0 : (ls.take k).all p = true) (h : p (ls.getD k []) = true) : (ls.take (k + 1)).all p = true := by
  rw [getD_take_snoc ls k hk, List.all_append, h0]; simpa using h
theorem eq_const (s : ByteArray) (l : List UInt8) : (s.toList = l) = (s.data.toList = l) := by
  rw [ByteArray.toList_eq]
end Go.Proofs.YtoplcelimdkjeaaDoor
