/- Plain mathematics of string fields; nothing of the program. -/
import Derived.Test.YtldffnmoafhidaaNum
import Derived.Lib.Bytealg
set_option linter.unusedVariables false
namespace Go.Proofs.Ytldffnmoafhidaa
open Go.RowKit
/-- how many bytes stand ahead of the first byte c (all of them, where c does not occur) -/
def pos (c : UInt8) (l : List UInt8) : Nat := (l.takeWhile (· != c)).length
def hasB (c : UInt8) (l : List UInt8) : Bool := l.any (· == c)
theorem pos_nil (c : UInt8) : pos c [] = 0 := rfl
theorem pos_cons (c a : UInt8) (l : List UInt8) : pos c (a :: l) = if a = c then 0 else pos c l + 1 := by
  unfold pos
  rw [List.takeWhile_cons]
  by_cases h : a = c <;> simp [h]
theorem hasB_cons (c a : UInt8) (l : List UInt8) : hasB c (a :: l) = ((a == c) || hasB c l) := rfl
theorem pos_le (c : UInt8) (l : List UInt8) : pos c l ≤ l.length := by
  induction l with
  | nil => exact Nat.le_refl _
  | cons a l ih => rw [pos_cons, List.length_cons]; split <;> omega
theorem hasB_pos (c : UInt8) (l : List UInt8) : hasB c l = decide (pos c l < l.length) := by
  induction l with
  | nil => rfl
  | cons a l ih =>
    rw [hasB_cons, pos_cons, ih, List.length_cons, Bool.eq_iff_iff]
    by_cases h : a = c
    · simp [h]
    · simp [h]
theorem indexByte_pos (c : UInt8) (l : List UInt8) : Lib.indexByte l c = if hasB c l = true then (pos c l : Int) else -1 := by
  induction l with
  | nil => rfl
  | cons a l ih =>
    rw [Lib.indexByte, ih, hasB_cons, pos_cons]
    by_cases h : a = c
    · simp [h]
    · have h' : (a == c) = false := by simpa using h
      by_cases hb : hasB c l = true
      · simp [h, h', hb]
        try omega
      · simp [h', hb]
theorem pos_get (c : UInt8) (l : List UInt8) (h : pos c l < l.length) : l[pos c l] = c := by
  induction l with
  | nil => exact absurd h (by simp)
  | cons a l ih =>
    by_cases e : a = c
    · have : pos c (a :: l) = 0 := by rw [pos_cons, if_pos e]
      simp only [this]; exact e
    · have hp : pos c (a :: l) = pos c l + 1 := by rw [pos_cons, if_neg e]
      have h' : pos c l < l.length := by rw [hp, List.length_cons] at h; omega
      have := ih h'
      simp [hp, this]
theorem pos_ne (c : UInt8) (l : List UInt8) (k : Nat) (h : k < pos c l) (hk : k < l.length) : l[k] ≠ c := by
  induction l generalizing k with
  | nil => exact absurd hk (by simp)
  | cons a l ih =>
    by_cases e : a = c
    · rw [pos_cons, if_pos e] at h; omega
    · rw [pos_cons, if_neg e] at h
      cases k with
      | zero => simpa using e
      | succ k => simpa using ih k (by omega) (by simpa using hk)
theorem pos_stop (c : UInt8) (l : List UInt8) (k : Nat) (h : k ≤ pos c l) (hk : k < l.length) (e : l[k] = c) : pos c l = k := by
  rcases Nat.lt_or_eq_of_le h with h' | h'
  · exact absurd e (pos_ne c l k h' hk)
  · exact h'.symm
theorem pos_step (c : UInt8) (l : List UInt8) (k : Nat) (h : k ≤ pos c l) (hk : k < l.length) (e : l[k] ≠ c) : k + 1 ≤ pos c l := by
  rcases Nat.lt_or_eq_of_le h with h' | h'
  · exact h'
  · subst h'; exact absurd (pos_get c l hk) e
theorem pos_app (c : UInt8) (a b : List UInt8) (h : hasB c a = false) : pos c (a ++ b) = a.length + pos c b := by
  induction a with
  | nil => simp
  | cons x a ih =>
    rw [hasB_cons, Bool.or_eq_false_iff] at h
    rw [List.cons_append, pos_cons, if_neg (by simpa using h.1), ih h.2, List.length_cons]; omega
theorem hasB_app (c : UInt8) (a b : List UInt8) : hasB c (a ++ b) = (hasB c a || hasB c b) := by simp [hasB]
theorem hasB_take (c : UInt8) (l : List UInt8) (k : Nat) (h : k ≤ pos c l) : hasB c (l.take k) = false := by
  rw [hasB_pos]
  have h2 := pos_le c l
  have : ¬ pos c (l.take k) < (l.take k).length := by
    intro h1
    have hlen : (l.take k).length = k := by rw [List.length_take]; omega
    have e := pos_get c _ h1
    rw [List.getElem_take] at e
    exact pos_ne c l _ (by omega) (by omega) e
  exact decide_eq_false this
/-- all bytes are 0 -/
def allZ (l : List UInt8) : Bool := l.all (· == 0)
theorem allZ_rep (l : List UInt8) : allZ l = decide (l = List.replicate l.length 0) := by
  unfold allZ
  rw [Bool.eq_iff_iff]
  simp only [List.all_eq_true, beq_iff_eq, decide_eq_true_eq]
  constructor
  · intro h; exact List.eq_replicate_iff.2 ⟨rfl, h⟩
  · intro h b hb; rw [h] at hb; exact (List.mem_replicate.1 hb).2
theorem allZ_false (l : List UInt8) (k : Nat) (hk : k < l.length) (e : l[k] ≠ 0) : allZ l = false := by
  unfold allZ
  rw [← Bool.not_eq_true, List.all_eq_true]
  intro h
  exact e (by simpa using h _ (List.getElem_mem hk))
theorem allZ_take_all (l : List UInt8) (h : allZ (l.take l.length) = true) : allZ l = true := by rwa [List.take_length] at h
theorem allZ_snoc (l : List UInt8) (c : UInt8) : allZ (l ++ [c]) = (allZ l && (c == 0)) := by simp [allZ]
/-- a bytes' list as a Go string -/
def bs (l : List UInt8) : ByteArray := ⟨l.toArray⟩
theorem bs_list (l : List UInt8) : (bs l).data.toList = l := rfl
theorem bs_size (l : List UInt8) : (bs l).size = l.length := rfl
theorem bs_of (s : ByteArray) : bs s.data.toList = s := by apply ByteArray.ext; simp [bs]
/-- a text of n bytes 0 -/
def zer (n : Nat) : ByteArray := ⟨(List.replicate n (0 : UInt8)).toArray⟩
theorem zer_list (n : Nat) : (zer n).data.toList = List.replicate n 0 := rfl
theorem zer_size (n : Nat) : (zer n).size = n := by rw [zer, size_mk, List.length_replicate]
theorem zer_succ (k : Nat) : zer (k + 1) = zer k ++ ⟨#[0]⟩ := by
  rw [zer, List.replicate_succ', ← str_app]; rfl
theorem str_zer (s : ByteArray) (n : Nat) : s ++ zer n = ⟨(s.data.toList ++ List.replicate n 0).toArray⟩ := by
  rw [← str_app, zer]
/-- what is written for a text: the field, the error -/
def fldW (l : List UInt8) (x : Int) (whole : Bool) : ByteArray × Int :=
  if x < 1 ∨ 512 < x then (⟨#[]⟩, 4)
  else if x < l.length ∨ (whole = false ∧ x = l.length) then (⟨#[]⟩, 1)
  else if hasB 0 l = true then (⟨#[]⟩, 3)
  else (⟨(l ++ List.replicate (x.toNat - l.length) 0).toArray⟩, 0)
/-- what a field reads as: the text, the error -/
def fldR (l : List UInt8) (whole : Bool) : ByteArray × Int :=
  if l.length < 1 ∨ 512 < l.length then (⟨#[]⟩, 4)
  else if (whole = false ∧ pos 0 l = l.length) ∨ allZ (l.drop (pos 0 l)) = false then (⟨#[]⟩, 3)
  else (⟨(l.take (pos 0 l)).toArray⟩, 0)
theorem fldW_range {l : List UInt8} {x : Int} {wh : Bool} (h : x < 1 ∨ 512 < x) : fldW l x wh = (⟨#[]⟩, 4) := if_pos h
theorem fldW_size {l : List UInt8} {x : Int} {wh : Bool} (h : ¬ (x < 1 ∨ 512 < x)) (h2 : x < l.length ∨ (wh = false ∧ x = l.length)) : fldW l x wh = (⟨#[]⟩, 1) := by
  rw [fldW, if_neg h, if_pos h2]
theorem fldW_form {l : List UInt8} {x : Int} {wh : Bool} (h : ¬ (x < 1 ∨ 512 < x)) (h2 : ¬ (x < l.length ∨ (wh = false ∧ x = l.length))) (h3 : hasB 0 l = true) : fldW l x wh = (⟨#[]⟩, 3) := by
  rw [fldW, if_neg h, if_neg h2, if_pos h3]
theorem fldW_ok {l : List UInt8} {x : Int} {wh : Bool} (h : ¬ (x < 1 ∨ 512 < x)) (h2 : ¬ (x < l.length ∨ (wh = false ∧ x = l.length))) (h3 : hasB 0 l = false) : fldW l x wh = (⟨(l ++ List.replicate (x.toNat - l.length) 0).toArray⟩, 0) := by
  rw [fldW, if_neg h, if_neg h2, if_neg (by simp [h3])]
theorem fldR_range {l : List UInt8} {wh : Bool} (h : l.length < 1 ∨ 512 < l.length) : fldR l wh = (⟨#[]⟩, 4) := if_pos h
theorem fldR_form {l : List UInt8} {wh : Bool} (h : ¬ (l.length < 1 ∨ 512 < l.length)) (h2 : (wh = false ∧ pos 0 l = l.length) ∨ allZ (l.drop (pos 0 l)) = false) : fldR l wh = (⟨#[]⟩, 3) := by
  rw [fldR, if_neg h, if_pos h2]
theorem fldR_ok {l : List UInt8} {wh : Bool} (h : ¬ (l.length < 1 ∨ 512 < l.length)) (h2 : ¬ (wh = false ∧ pos 0 l = l.length)) (h3 : allZ (l.drop (pos 0 l)) = true) : fldR l wh = (⟨(l.take (pos 0 l)).toArray⟩, 0) := by
  rw [fldR, if_neg h, if_neg (by rintro (a | a); exact h2 a; rw [h3] at a; cases a)]
theorem getD_list (s : ByteArray) (k : Nat) (h : k < s.size) : s.data.toList[k]'(by simpa using h) = s[k] := rfl
end Go.Proofs.Ytldffnmoafhidaa
