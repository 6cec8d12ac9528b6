/- Plain mathematics of lists of records; nothing of the program. -/
import Derived.Test.YtilofjaigpngoaaDoorRecN
set_option linter.unusedVariables false
namespace Go.Proofs.YtilofjaigpngoaaDoor
open Go.RowKit
/-! ### the order of texts -/
theorem less_self (a : List UInt8) : Op.bytesLess a a = false := by
  induction a with
  | nil => rfl
  | cons x a ih => simp [Op.bytesLess, ih]
theorem less_asym (a b : List UInt8) (h : Op.bytesLess a b = true) : Op.bytesLess b a = false := by
  induction a generalizing b with
  | nil =>
    cases b with
    | nil => rfl
    | cons y b => rfl
  | cons x a ih =>
    cases b with
    | nil => cases h
    | cons y b =>
      simp only [Op.bytesLess, Bool.or_eq_true, Bool.and_eq_true, decide_eq_true_eq, beq_iff_eq] at h
      rcases h with h | ⟨rfl, h⟩
      · have h1 : ¬ y < x := fun h' => by simp only [UInt8.lt_iff_toNat_lt] at h h'; omega
        have h2 : (y == x) = false := by rw [beq_eq_false_iff_ne]; rintro rfl; simp only [UInt8.lt_iff_toNat_lt] at h; omega
        simp [Op.bytesLess, h1, h2]
      · have h1 : ¬ x < x := fun h' => by simp only [UInt8.lt_iff_toNat_lt] at h'; omega
        simp [Op.bytesLess, h1, ih b h]
theorem less_total (a b : List UInt8) (h : Op.bytesLess a b = false) (hne : a ≠ b) : Op.bytesLess b a = true := by
  induction a generalizing b with
  | nil =>
    cases b with
    | nil => exact absurd rfl hne
    | cons y b => cases h
  | cons x a ih =>
    cases b with
    | nil => rfl
    | cons y b =>
      simp only [Op.bytesLess, Bool.or_eq_false_iff, Bool.and_eq_false_iff, decide_eq_false_iff_not, beq_eq_false_iff_ne] at h
      obtain ⟨h1, h2⟩ := h
      simp only [Op.bytesLess, Bool.or_eq_true, Bool.and_eq_true, decide_eq_true_eq, beq_iff_eq]
      by_cases e : x = y
      · subst e
        rcases h2 with h2 | h2
        · exact absurd rfl h2
        · exact .inr ⟨rfl, ih b h2 (fun e => hne (by rw [e]))⟩
      · refine .inl ?_
        simp only [UInt8.lt_iff_toNat_lt] at h1 ⊢
        have : x.toNat ≠ y.toNat := fun e' => e (UInt8.toNat_inj.1 e')
        omega
/-- 'not after': the key is not greater -/
theorem le_less (a b : List UInt8) : (Op.bytesLess a b || a == b) = !(Op.bytesLess b a) := by
  cases h : Op.bytesLess b a
  · cases h2 : Op.bytesLess a b
    · by_cases e : a = b
      · simp [e]
      · rw [less_total a b h2 e] at h; cases h
    · simp
  · rw [less_asym b a h]
    have : (a == b) = false := by rw [beq_eq_false_iff_ne]; rintro rfl; rw [less_self] at h; cases h
    rw [this]; rfl
/-! ### lists of records -/
abbrev Rc : Type := List UInt8 × List UInt8
def chkG : List UInt8 → List Rc → Int
  | _, [] => 0
  | last, r :: l => if chkR r.1 r.2 ≠ 0 then chkR r.1 r.2 else if Op.bytesLess last r.1 = true then chkG r.1 l else 6
def chkP (l : List Rc) : Int := if 12 < l.length then 1 else chkG [] l
theorem chkG_nil (last : List UInt8) : chkG last [] = 0 := rfl
theorem chkG_err {last : List UInt8} {r : Rc} {l : List Rc} (h : chkR r.1 r.2 ≠ 0) : chkG last (r :: l) = chkR r.1 r.2 := by rw [chkG, if_pos h]
theorem chkG_twice {last : List UInt8} {r : Rc} {l : List Rc} (h : chkR r.1 r.2 = 0) (h2 : Op.bytesLess last r.1 = false) : chkG last (r :: l) = 6 := by rw [chkG, if_neg (by simpa using h), if_neg (by rw [h2]; decide)]
theorem chkG_go {last : List UInt8} {r : Rc} {l : List Rc} (h : chkR r.1 r.2 = 0) (h2 : Op.bytesLess last r.1 = true) : chkG last (r :: l) = chkG r.1 l := by rw [chkG, if_neg (by simpa using h), if_pos h2]
theorem chkP_many {l : List Rc} (h : 12 < l.length) : chkP l = 1 := if_pos h
theorem chkP_few {l : List Rc} (h : l.length ≤ 12) : chkP l = chkG [] l := if_neg (by omega)
theorem chkG_all {last : List UInt8} {l : List Rc} (h : chkG last l = 0) : ∀ r ∈ l, chkR r.1 r.2 = 0 := by
  induction l generalizing last with
  | nil => intro r hr; cases hr
  | cons x l ih =>
    unfold chkG at h
    split at h
    · rename_i h1; exact absurd h h1
    · rename_i h1
      split at h
      · intro r hr
        rcases List.mem_cons.1 hr with rfl | hr
        · simpa using h1
        · exact ih h r hr
      · cases h
theorem chkP_all {l : List Rc} (h : chkP l = 0) : l.length ≤ 12 ∧ chkG [] l = 0 ∧ ∀ r ∈ l, chkR r.1 r.2 = 0 := by
  by_cases hl : 12 < l.length
  · rw [chkP_many hl] at h; cases h
  · rw [chkP_few (by omega)] at h
    exact ⟨by omega, h, chkG_all h⟩
def textP (l : List Rc) : List UInt8 := l.flatMap fun r => recL r.1 r.2
theorem textP_nil : textP [] = [] := rfl
theorem textP_cons (r : Rc) (l : List Rc) : textP (r :: l) = recL r.1 r.2 ++ textP l := rfl
theorem textP_app (a b : List Rc) : textP (a ++ b) = textP a ++ textP b := by simp [textP]
theorem recL_pos (k v : List UInt8) : 1 ≤ (recL k v).length := by
  unfold recL recT
  rw [List.length_append, List.length_cons]; omega
theorem textP_len {l : List Rc} (h : ∀ r ∈ l, chkR r.1 r.2 = 0) : (textP l).length ≤ l.length * 566 := by
  induction l with
  | nil => exact Nat.le_refl _
  | cons r l ih =>
    have h1 := ih fun x hx => h x (List.mem_cons_of_mem _ hx)
    obtain ⟨-, k2, v2, -⟩ := chkR_of (h r (List.mem_cons_self ..))
    have h2 := recL_len r.1 r.2 (by omega)
    have h3 := recN_bd (r.1.length + r.2.length + 3)
    rw [textP_cons, List.length_append, List.length_cons]; omega
def paxW (l : List Rc) : List UInt8 × Int := if chkP l = 0 then (textP l, 0) else ([], chkP l)
theorem paxW_ok {l : List Rc} (h : chkP l = 0) : paxW l = (textP l, 0) := if_pos h
theorem paxW_no {l : List Rc} (h : chkP l ≠ 0) : paxW l = ([], chkP l) := if_neg h
/-! ### reading -/
theorem recR_nil : recR [] = ([], [], [], 3) := by
  refine recR_front ?_
  rintro ⟨h, -⟩; cases h
theorem recR_rest {l : List UInt8} (h : (recR l).2.2.2 = 0) : (recR l).2.2.1.length < l.length := by
  unfold recR at h ⊢
  split at h
  · cases h
  · rename_i h1
    split at h
    · cases h
    · rename_i h2
      split at h
      · cases h
      · rename_i h3
        split at h
        · cases h
        · rename_i h4
          split at h
          · rename_i h5; exact absurd h h5
          · rename_i h5
            split at h
            · cases h
            · rename_i h6
              rw [if_neg h1, if_neg h2, if_neg h3, if_neg h4, if_neg h5, if_neg h6]
              have hn : 1 ≤ dVal (digP l) := by omega
              show (l.drop (dVal (digP l))).length < l.length
              rw [List.length_drop]; omega
def rdP : Nat → List UInt8 → List Rc × Int
  | 0, _ => ([], 0)
  | _ + 1, [] => ([], 0)
  | f + 1, c :: l =>
    if (recR (c :: l)).2.2.2 ≠ 0 then ([], (recR (c :: l)).2.2.2)
    else if (rdP f (recR (c :: l)).2.2.1).2 ≠ 0 then ([], (rdP f (recR (c :: l)).2.2.1).2)
    else (((recR (c :: l)).1, (recR (c :: l)).2.1) :: (rdP f (recR (c :: l)).2.2.1).1, 0)
theorem rdP_fuel (f g : Nat) (l : List UInt8) (hf : l.length ≤ f) (hg : l.length ≤ g) : rdP f l = rdP g l := by
  induction f generalizing g l with
  | zero =>
    have : l = [] := List.eq_nil_of_length_eq_zero (by omega)
    subst this
    cases g <;> rfl
  | succ f ih =>
    cases l with
    | nil => cases g <;> rfl
    | cons c l =>
      cases g with
      | zero => simp at hg
      | succ g =>
        rw [rdP, rdP]
        by_cases h : (recR (c :: l)).2.2.2 = 0
        · have hr := recR_rest h
          simp only [List.length_cons] at hr hf hg
          rw [ih g _ (by omega) (by omega)]
        · rw [if_pos h, if_pos h]
/-- all the records of a text, the error -/
def rdAll (l : List UInt8) : List Rc × Int := rdP l.length l
/-- the same, behind the records that were read before -/
def rdAcc (acc : List Rc) (l : List UInt8) : List Rc × Int := if (rdAll l).2 ≠ 0 then ([], (rdAll l).2) else (acc ++ (rdAll l).1, 0)
theorem rdAll_nil : rdAll [] = ([], 0) := rfl
theorem rdAll_step {l : List UInt8} (hl : l ≠ []) (h : (recR l).2.2.2 = 0) :
    rdAll l = if (rdAll (recR l).2.2.1).2 ≠ 0 then ([], (rdAll (recR l).2.2.1).2) else (((recR l).1, (recR l).2.1) :: (rdAll (recR l).2.2.1).1, 0) := by
  cases l with
  | nil => exact absurd rfl hl
  | cons c l =>
    have hr := recR_rest h
    unfold rdAll
    rw [List.length_cons, rdP, if_neg (by simpa using h)]
    rw [List.length_cons] at hr
    rw [rdP_fuel l.length (recR (c :: l)).2.2.1.length _ (by omega) (Nat.le_refl _)]
theorem rdAll_err {l : List UInt8} (hl : l ≠ []) (h : (recR l).2.2.2 ≠ 0) : rdAll l = ([], (recR l).2.2.2) := by
  cases l with
  | nil => exact absurd rfl hl
  | cons c l =>
    unfold rdAll
    rw [List.length_cons, rdP, if_pos h]
theorem rdAll_acc (l : List UInt8) : rdAcc [] l = rdAll l := by
  have key : (rdAll l).2 = 0 ∨ (rdAll l).1 = [] := by
    cases l with
    | nil => exact .inl rfl
    | cons c l =>
      by_cases h : (recR (c :: l)).2.2.2 = 0
      · rw [rdAll_step (by simp) h]
        split
        · exact .inr rfl
        · exact .inl rfl
      · rw [rdAll_err (by simp) h]; exact .inr rfl
  unfold rdAcc
  split
  · rename_i h
    rcases key with k | k
    · exact absurd k h
    · rw [← k]
  · rename_i h
    rw [List.nil_append]
    have : (rdAll l).2 = 0 := by simpa using h
    rw [← this]
theorem rdAcc_nil (acc : List Rc) : rdAcc acc [] = (acc, 0) := by
  unfold rdAcc
  rw [rdAll_nil, if_neg (by decide), List.append_nil]
theorem rdAcc_err {acc : List Rc} {l : List UInt8} (hl : l ≠ []) (h : (recR l).2.2.2 ≠ 0) : rdAcc acc l = ([], (recR l).2.2.2) := by
  unfold rdAcc
  rw [rdAll_err hl h, if_pos h]
theorem rdAcc_step {acc : List Rc} {l : List UInt8} (hl : l ≠ []) (h : (recR l).2.2.2 = 0) : rdAcc acc l = rdAcc (acc ++ [((recR l).1, (recR l).2.1)]) (recR l).2.2.1 := by
  unfold rdAcc
  rw [rdAll_step hl h]
  by_cases e : (rdAll (recR l).2.2.1).2 = 0
  · rw [if_neg (show ¬ (rdAll (recR l).2.2.1).2 ≠ 0 by simpa using e)]
    simp [e]
  · rw [if_pos e, if_pos e, if_pos e]
def paxR (l : List UInt8) : List Rc × Int := if (rdAll l).2 ≠ 0 then ([], (rdAll l).2) else if chkP (rdAll l).1 ≠ 0 then ([], chkP (rdAll l).1) else ((rdAll l).1, 0)
theorem paxR_err {l : List UInt8} {e : Int} (h : rdAll l = ([], e)) (he : e ≠ 0) : paxR l = ([], e) := by unfold paxR; rw [h, if_pos he]
theorem paxR_chk {l : List UInt8} {x : List Rc} (h : rdAll l = (x, 0)) (hx : chkP x ≠ 0) : paxR l = ([], chkP x) := by unfold paxR; rw [h, if_neg (fun a => a rfl), if_pos hx]
theorem paxR_ok {l : List UInt8} {x : List Rc} (h : rdAll l = (x, 0)) (hx : chkP x = 0) : paxR l = (x, 0) := by unfold paxR; rw [h, if_neg (fun a => a rfl), if_neg (by simpa using hx)]
theorem rdAll_text (x : List Rc) (h : ∀ r ∈ x, chkR r.1 r.2 = 0) : rdAll (textP x) = (x, 0) := by
  induction x with
  | nil => rfl
  | cons r x ih =>
    have h1 := h r (List.mem_cons_self ..)
    have h2 := ih fun y hy => h y (List.mem_cons_of_mem _ hy)
    have hr := recR_text r.1 r.2 (textP x) h1
    rw [textP_cons]
    rw [rdAll_step ?_ (by rw [hr]), hr, h2, if_neg (fun a => a rfl)]
    intro e
    have := congrArg List.length e
    rw [List.length_append, List.length_nil] at this
    have := recL_pos r.1 r.2; omega
/-- how many records a text can hold -/
theorem rdAll_len (l : List UInt8) : (rdAll l).1.length ≤ l.length := by
  have key : ∀ n (l : List UInt8), l.length ≤ n → (rdAll l).1.length ≤ l.length := by
    intro n
    induction n with
    | zero => intro l hl; have : l = [] := List.eq_nil_of_length_eq_zero (by omega); subst this; exact Nat.le_refl _
    | succ n ih =>
      intro l hl
      cases l with
      | nil => exact Nat.le_refl _
      | cons c l =>
        by_cases h : (recR (c :: l)).2.2.2 = 0
        · have hr := recR_rest h
          have h1 := ih (recR (c :: l)).2.2.1 (by omega)
          rw [rdAll_step (by simp) h]
          split
          · simp
          · rw [List.length_cons]; omega
        · rw [rdAll_err (by simp) h]; simp
  exact key _ l (Nat.le_refl _)
/-! ### finding -/
def paxF : List Rc → List UInt8 → List UInt8 × Bool
  | [], _ => ([], false)
  | r :: l, key => if r.1 = key then (r.2, true) else paxF l key
theorem paxF_hit {r : Rc} {l : List Rc} {key : List UInt8} (h : r.1 = key) : paxF (r :: l) key = (r.2, true) := if_pos h
theorem paxF_go {r : Rc} {l : List Rc} {key : List UInt8} (h : r.1 ≠ key) : paxF (r :: l) key = paxF l key := if_neg h
end Go.Proofs.YtilofjaigpngoaaDoor
