/- Plain mathematics of reading a record; nothing of the program. -/
import Derived.Test.YtilofjaigpngoaaDoorRecM
import Derived.Lib.Strings
import Derived.Lib.AtoiTie
set_option linter.unusedVariables false
namespace Go.Proofs.YtilofjaigpngoaaDoor
open Go.RowKit
/-- one to four digits, the first not 0 -/
def numB (l : List UInt8) : Bool := decide (1 ≤ l.length ∧ l.length ≤ 4 ∧ l.head? ≠ some 48) && l.all isD
theorem numB_of {l : List UInt8} (h : numB l = true) : (1 ≤ l.length ∧ l.length ≤ 4 ∧ l.head? ≠ some 48) ∧ ∀ c ∈ l, isD c = true := by
  unfold numB at h
  rw [Bool.and_eq_true, decide_eq_true_eq, List.all_eq_true] at h
  exact h
theorem numB_mk {l : List UInt8} (h : 1 ≤ l.length ∧ l.length ≤ 4 ∧ l.head? ≠ some 48) (h2 : ∀ c ∈ l, isD c = true) : numB l = true := by
  unfold numB
  rw [Bool.and_eq_true, decide_eq_true_eq, List.all_eq_true]
  exact ⟨h, h2⟩
theorem decFrom_all (l : List UInt8) (acc : Nat) (h : ∀ c ∈ l, isD c = true) : Lib.decFrom acc l = some (l.foldl (fun a c => 10 * a + (c.toNat - 48)) acc) := by
  induction l generalizing acc with
  | nil => rfl
  | cons c l ih =>
    have hc := of_decide_eq_true (h c (List.mem_cons_self ..))
    have hv : Lib.digitVal c = some (c.toNat - 48) := by unfold Lib.digitVal; rw [if_pos hc]
    simp only [Lib.decFrom, hv, List.foldl_cons]
    rw [Nat.mul_comm 10 acc]
    exact ih _ fun x hx => h x (List.mem_cons_of_mem _ hx)
theorem atoi_num (l : List UInt8) (h : numB l = true) : Lib.atoiAll l = .ok (dVal l : Int) := by
  obtain ⟨⟨h1, h2, h3⟩, h4⟩ := numB_of h
  rw [Lib.atoiAll_short l (by omega)]
  cases l with
  | nil => simp at h1
  | cons c r =>
    have hc := of_decide_eq_true (h4 c (List.mem_cons_self ..))
    have c1 : (c == 45) = false := by rw [beq_eq_false_iff_ne]; rintro rfl; revert hc; decide
    have c2 : (c == 43) = false := by rw [beq_eq_false_iff_ne]; rintro rfl; revert hc; decide
    have hd : Lib.decNat (c :: r) = some (dVal (c :: r)) := decFrom_all (c :: r) 0 h4
    unfold Lib.atoi
    simp only [c1, c2, hd]
    rfl
theorem dVal_num (l : List UInt8) (h : numB l = true) : 1 ≤ dVal l ∧ dVal l < 10000 := by
  obtain ⟨⟨h1, h2, h3⟩, h4⟩ := numB_of h
  constructor
  · cases l with
    | nil => simp at h1
    | cons c r =>
      have hc := of_decide_eq_true (h4 c (List.mem_cons_self ..))
      have hc48 : c.toNat ≠ 48 := fun e => h3 (by rw [List.head?_cons]; congr 1; exact UInt8.toNat_inj.1 e)
      have key : ∀ (r : List UInt8) (a : Nat), 1 ≤ a → 1 ≤ r.foldl (fun a c => 10 * a + (c.toNat - 48)) a := by
        intro r
        induction r with
        | nil => intro a ha; exact ha
        | cons x r ih => intro a ha; rw [List.foldl_cons]; exact ih _ (by omega)
      unfold dVal
      rw [List.foldl_cons]
      exact key r _ (by omega)
  · have := dVal_lt l h4
    have h5 : 10 ^ l.length ≤ 10 ^ 4 := Nat.pow_le_pow_right (by omega) h2
    have : (10 : Nat) ^ 4 = 10000 := by decide
    omega
theorem no32 {l : List UInt8} (h : ∀ c ∈ l, isD c = true) : hasB 32 l = false := by
  unfold hasB
  rw [← Bool.not_eq_true, List.any_eq_true]
  rintro ⟨x, hx, e⟩
  have := h x hx
  rw [eq_of_beq e] at this
  revert this; decide
theorem rsplit_pos {c : UInt8} {l : List UInt8} (h : hasB c l = true) : l = l.take (pos c l) ++ c :: l.drop (pos c l + 1) := by
  rw [hasB_pos] at h
  have h' := of_decide_eq_true h
  conv => lhs; rw [← List.take_append_drop (pos c l) l]
  congr 1
  rw [List.drop_eq_getElem_cons h', pos_get c l h']
theorem front_iff (l : List UInt8) : frontOk l ↔ hasB 32 l = true ∧ numB (l.take (pos 32 l)) = true := by
  constructor
  · rintro ⟨h1, h2, h3, h4⟩
    obtain ⟨n, hn⟩ : ∃ n, (digP l).length = n := ⟨_, rfl⟩
    have ht := digP_take l
    have hall := digP_all l
    rw [hn] at h1 h2 h4 ht
    have hlt : n < l.length := by
      rcases Nat.lt_or_ge n l.length with h | h
      · exact h
      · rw [List.getElem?_eq_none h] at h4; cases h4
    rw [List.getElem?_eq_getElem hlt] at h4
    have h4' := Option.some.inj h4
    have hp : pos 32 l = n := by
      have e : l = l.take n ++ l.drop n := (List.take_append_drop n l).symm
      rw [e, pos_app _ _ _ (no32 (by rw [← ht]; exact hall)), List.length_take, List.drop_eq_getElem_cons hlt, h4', pos_cons, if_pos rfl]; omega
    have hb : hasB 32 l = true := by rw [hasB_pos, hp]; exact decide_eq_true hlt
    refine ⟨hb, ?_⟩
    rw [hp, ← ht]
    refine numB_mk ⟨by omega, by omega, ?_⟩ hall
    rw [ht, List.head?_take]
    rw [if_neg (by omega)]; exact h3
  · rintro ⟨hb, hn⟩
    obtain ⟨⟨h1, h2, h3⟩, h4⟩ := numB_of hn
    have hs := rsplit_pos hb
    have hd : digP l = l.take (pos 32 l) := by
      conv => lhs; rw [hs]
      exact digP_app _ _ h4 (fun c t e => by injection e with e _; subst e; rfl)
    have hlt : pos 32 l < l.length := by rw [hasB_pos] at hb; exact of_decide_eq_true hb
    have hlen : (l.take (pos 32 l)).length = pos 32 l := by rw [List.length_take]; omega
    rw [hlen] at h1 h2
    refine ⟨by rw [hd, hlen]; exact h1, by rw [hd, hlen]; exact h2, ?_, ?_⟩
    · rw [List.head?_take, if_neg (by omega)] at h3; exact h3
    · rw [hd, hlen, List.getElem?_eq_getElem hlt, pos_get 32 l hlt]
theorem front_dig {l : List UInt8} (hb : hasB 32 l = true) (hn : numB (l.take (pos 32 l)) = true) : digP l = l.take (pos 32 l) ∧ (digP l).length = pos 32 l := by
  obtain ⟨-, h4⟩ := numB_of hn
  have hs := rsplit_pos hb
  have hd : digP l = l.take (pos 32 l) := by
    conv => lhs; rw [hs]
    exact digP_app _ _ h4 (fun c t e => by injection e with e _; subst e; rfl)
  have hlt : pos 32 l < l.length := by rw [hasB_pos] at hb; exact of_decide_eq_true hb
  exact ⟨hd, by rw [hd, List.length_take]; omega⟩
/-! ### the split -/
def splB (l : List UInt8) (st : Nat) : List UInt8 := Lib.trimSuffix (l.drop st) [10]
def splO (l : List UInt8) (st : Nat) : Bool := decide (st < l.length) && (Lib.hasSuffix (l.drop st) [10] && hasB 61 (splB l st))
def splK (l : List UInt8) (st : Nat) : List UInt8 := (splB l st).take (pos 61 (splB l st))
def splV (l : List UInt8) (st : Nat) : List UInt8 := (splB l st).drop (pos 61 (splB l st) + 1)
theorem suf_snoc (l : List UInt8) (c : UInt8) : Lib.hasSuffix (l ++ [c]) [10] = (c == 10) := by
  unfold Lib.hasSuffix
  rw [Bool.eq_iff_iff, List.isSuffixOf_iff_suffix, beq_iff_eq]
  constructor
  · rintro ⟨t, ht⟩
    have := List.append_inj_right' ht rfl
    injection this with h _; exact h.symm
  · rintro rfl; exact ⟨l, rfl⟩
theorem trim_snoc (l : List UInt8) : Lib.trimSuffix (l ++ [10]) [10] = l := by
  unfold Lib.trimSuffix
  rw [suf_snoc, if_pos (by decide)]
  simp
theorem spl_body {l : List UInt8} {n d : Nat} (h1 : d + 2 ≤ n) (h2 : n ≤ l.length) : (l.take n).drop (d + 1) = (l.take (n - 1)).drop (d + 1) ++ [l[n - 1]'(by omega)] := by
  obtain ⟨m, rfl⟩ : ∃ m, n = m + 1 := ⟨n - 1, by omega⟩
  rw [List.take_succ_eq_append_getElem (by omega), List.drop_append_of_le_length (by rw [List.length_take]; omega)]
  rfl
theorem spl_facts {l : List UInt8} (hl : dVal (digP l) ≤ l.length) :
    splO (l.take (dVal (digP l))) ((digP l).length + 1) = decide (¬ (dVal (digP l) < (digP l).length + 2 ∨ l[dVal (digP l) - 1]? ≠ some 10) ∧ hasB 61 (bodyR l) = true) ∧
    (splO (l.take (dVal (digP l))) ((digP l).length + 1) = true → splB (l.take (dVal (digP l))) ((digP l).length + 1) = bodyR l) := by
  unfold bodyR
  generalize (digP l).length = d
  generalize dVal (digP l) = n at *
  by_cases h1 : n < d + 2
  · have e : splO (l.take n) (d + 1) = false := by
      unfold splO
      rw [decide_eq_false (by rw [List.length_take]; omega), Bool.false_and]
    rw [e]
    refine ⟨(decide_eq_false (fun h => h.1 (.inl h1))).symm, fun h => by cases h⟩
  · have hb := spl_body (l := l) (n := n) (d := d) (by omega) hl
    have hlt : n - 1 < l.length := by omega
    have e : splO (l.take n) (d + 1) = ((l[n - 1] == 10) && hasB 61 (splB (l.take n) (d + 1))) := by
      unfold splO
      rw [decide_eq_true (by rw [List.length_take]; omega), Bool.true_and, hb, suf_snoc]
    rw [e, List.getElem?_eq_getElem hlt]
    by_cases hc : l[n - 1] = 10
    · have eB : splB (l.take n) (d + 1) = (l.take (n - 1)).drop (d + 1) := by
        unfold splB; rw [hb, hc, trim_snoc]
      rw [eB, hc]
      refine ⟨?_, fun _ => rfl⟩
      rw [show ((10 : UInt8) == 10) = true from rfl, Bool.true_and, Bool.eq_iff_iff, decide_eq_true_eq]
      exact ⟨fun h => ⟨fun h' => h'.elim (fun a => h1 a) (fun a => a rfl), h⟩, fun h => h.2⟩
    · have hc' : (l[n - 1] == 10) = false := by simpa using hc
      rw [hc', Bool.false_and]
      refine ⟨(decide_eq_false (fun h => h.1 (.inr (fun a => hc (Option.some.inj a))))).symm, fun h => by cases h⟩
/-! ### what is read, case by case -/
theorem recR_front {l : List UInt8} (h : ¬ (hasB 32 l = true ∧ numB (l.take (pos 32 l)) = true)) : recR l = ([], [], [], 3) := by
  unfold recR; rw [if_pos (by rw [front_iff]; exact h)]
section
variable {l : List UInt8} {n p : Nat} (hb : hasB 32 l = true) (hn : numB (l.take (pos 32 l)) = true) (hp : pos 32 l = p) (hv : dVal (l.take (pos 32 l)) = n)
include hb hn hv
theorem recR_short (h : l.length < n) : recR l = ([], [], [], 7) := by
  obtain ⟨e1, e2⟩ := front_dig hb hn
  unfold recR
  rw [if_neg (by rw [front_iff]; exact fun a => a ⟨hb, hn⟩), if_pos (by rw [e1, hv]; exact h)]
include hp
theorem recR_split (h : n ≤ l.length) (h2 : splO (l.take n) (p + 1) = false) : recR l = ([], [], [], 3) := by
  obtain ⟨e1, e2⟩ := front_dig hb hn
  have e3 : dVal (digP l) = n := by rw [e1, hv]
  have hs := (spl_facts (l := l) (by rw [e3]; exact h)).1
  rw [e2, e3, hp, h2] at hs
  unfold recR
  rw [if_neg (by rw [front_iff]; exact fun a => a ⟨hb, hn⟩), e3, if_neg (by omega), e2, hp]
  by_cases hx : n < p + 2 ∨ l[n - 1]? ≠ some 10
  · rw [if_pos hx]
  · rw [if_neg hx]
    have := of_decide_eq_false hs.symm
    rw [if_pos (by
      cases e : hasB 61 (bodyR l)
      · rfl
      · exact absurd ⟨hx, e⟩ this)]
theorem recR_past (h : n ≤ l.length) (h2 : splO (l.take n) (p + 1) = true) :
    recR l = if chkR (splK (l.take n) (p + 1)) (splV (l.take n) (p + 1)) ≠ 0 then ([], [], [], chkR (splK (l.take n) (p + 1)) (splV (l.take n) (p + 1)))
      else if recL (splK (l.take n) (p + 1)) (splV (l.take n) (p + 1)) ≠ l.take n then ([], [], [], 3)
      else (splK (l.take n) (p + 1), splV (l.take n) (p + 1), l.drop n, 0) := by
  obtain ⟨e1, e2⟩ := front_dig hb hn
  have e3 : dVal (digP l) = n := by rw [e1, hv]
  obtain ⟨hs, hB⟩ := spl_facts (l := l) (by rw [e3]; exact h)
  rw [e2, e3, hp] at hs hB
  rw [h2] at hs
  obtain ⟨hx, hy⟩ := of_decide_eq_true hs.symm
  have hB' := hB h2
  unfold splK splV
  rw [hB']
  unfold recR
  rw [if_neg (by rw [front_iff]; exact fun a => a ⟨hb, hn⟩), e3, if_neg (by omega), e2, hp, if_neg hx, if_neg (by rw [hy]; decide)]
theorem recR_err (h : n ≤ l.length) (h2 : splO (l.take n) (p + 1) = true) (h3 : chkR (splK (l.take n) (p + 1)) (splV (l.take n) (p + 1)) ≠ 0) : recR l = ([], [], [], chkR (splK (l.take n) (p + 1)) (splV (l.take n) (p + 1))) := by
  rw [recR_past hb hn hp hv h h2, if_pos h3]
theorem recR_off (h : n ≤ l.length) (h2 : splO (l.take n) (p + 1) = true) (h3 : chkR (splK (l.take n) (p + 1)) (splV (l.take n) (p + 1)) = 0) (h4 : recL (splK (l.take n) (p + 1)) (splV (l.take n) (p + 1)) ≠ l.take n) : recR l = ([], [], [], 3) := by
  rw [recR_past hb hn hp hv h h2, if_neg (by simpa using h3), if_pos h4]
theorem recR_yes (h : n ≤ l.length) (h2 : splO (l.take n) (p + 1) = true) (h3 : chkR (splK (l.take n) (p + 1)) (splV (l.take n) (p + 1)) = 0) (h4 : recL (splK (l.take n) (p + 1)) (splV (l.take n) (p + 1)) = l.take n) : recR l = (splK (l.take n) (p + 1), splV (l.take n) (p + 1), l.drop n, 0) := by
  rw [recR_past hb hn hp hv h h2, if_neg (by simpa using h3), if_neg (by simpa using h4)]
end
end Go.Proofs.YtilofjaigpngoaaDoor
