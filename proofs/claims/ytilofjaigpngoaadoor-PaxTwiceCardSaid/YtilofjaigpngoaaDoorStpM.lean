/- Plain mathematics of times as texts; nothing of the program. -/
import Derived.Test.YtilofjaigpngoaaDoorFldM
import Derived.Lib.ItoaMem
import Derived.Lib.TrimByte
import Derived.Lib.AtoiTie
set_option linter.unusedVariables false
namespace Go.Proofs.YtilofjaigpngoaaDoor
open Go.RowKit
/-! ### decimal digits -/
theorem dig_toNat (r : Nat) (h : r < 10) : (UInt8.ofNat (48 + r)).toNat = 48 + r := by rw [UInt8.toNat_ofNat']; omega
theorem digitVal_dig (r : Nat) (h : r < 10) : Lib.digitVal (UInt8.ofNat (48 + r)) = some r := by
  unfold Lib.digitVal; rw [dig_toNat r h, if_pos (by omega)]; congr 1; omega
theorem decFrom_app (l r : List UInt8) (acc v : Nat) (h : Lib.decFrom acc l = some v) : Lib.decFrom acc (l ++ r) = Lib.decFrom v r := by
  induction l generalizing acc with
  | nil => simp only [Lib.decFrom, Option.some.injEq] at h; subst h; rfl
  | cons c l ih =>
    cases hc : Lib.digitVal c with
    | none => simp [Lib.decFrom, hc] at h
    | some d =>
      simp only [Lib.decFrom, hc, List.cons_append] at h ⊢
      exact ih _ h
theorem decFrom_decDigits (u : Nat) : Lib.decFrom 0 (Lib.decDigits u) = some u := by
  induction u using Nat.strongRecOn with
  | _ u ih =>
    by_cases h : u < 10
    · rw [Lib.decDigits, dif_pos h]; simp only [Lib.decFrom, digitVal_dig u h]; congr 1; omega
    · rw [Lib.decDigits, dif_neg h, decFrom_app _ _ _ _ (ih (u / 10) (by omega))]
      simp only [Lib.decFrom, digitVal_dig (u % 10) (by omega)]
      congr 1; omega
theorem decDigits_len (u k : Nat) (h : u < 10 ^ (k + 1)) : (Lib.decDigits u).length ≤ k + 1 := by
  induction k generalizing u with
  | zero => rw [Lib.decDigits, dif_pos (by simpa using h)]; simp
  | succ k ih =>
    by_cases h' : u < 10
    · rw [Lib.decDigits, dif_pos h']; simp
    · rw [Lib.decDigits, dif_neg h', List.length_append, List.length_singleton]
      have := ih (u / 10) (by rw [Nat.pow_succ] at h; omega)
      omega
theorem decDigits_dig (u : Nat) : ∀ c ∈ Lib.decDigits u, 48 ≤ c.toNat ∧ c.toNat ≤ 57 := by
  induction u using Nat.strongRecOn with
  | _ u ih =>
    intro c hc
    by_cases h : u < 10
    · rw [Lib.decDigits, dif_pos h, List.mem_singleton] at hc
      subst hc; rw [dig_toNat u h]; omega
    · rw [Lib.decDigits, dif_neg h, List.mem_append, List.mem_singleton] at hc
      rcases hc with hc | rfl
      · exact ih _ (by omega) c hc
      · rw [dig_toNat _ (by omega)]; omega
theorem decDigits_cons (u : Nat) : ∃ c r, Lib.decDigits u = c :: r ∧ 48 ≤ c.toNat ∧ c.toNat ≤ 57 ∧ (1 ≤ u → c.toNat ≠ 48) := by
  induction u using Nat.strongRecOn with
  | _ u ih =>
    by_cases h : u < 10
    · rw [Lib.decDigits, dif_pos h]
      refine ⟨_, _, rfl, ?_⟩
      rw [dig_toNat u h]; omega
    · obtain ⟨c, r, e, h1, h2, h3⟩ := ih (u / 10) (by omega)
      rw [Lib.decDigits, dif_neg h, e]
      exact ⟨c, r ++ _, rfl, h1, h2, fun _ => h3 (by omega)⟩
theorem hasB_dig (l : List UInt8) (h : ∀ c ∈ l, 48 ≤ c.toNat ∧ c.toNat ≤ 57) (x : UInt8) (hx : x.toNat < 48) : hasB x l = false := by
  unfold hasB
  rw [← Bool.not_eq_true, List.any_eq_true]
  rintro ⟨c, hc, e⟩
  have := h c hc
  rw [beq_iff_eq] at e
  rw [e] at this; omega
/-- the last j digits of m, all of them -/
def d10 : Nat → Nat → List UInt8
  | 0, _ => []
  | j + 1, m => UInt8.ofNat (48 + m / 10 ^ j) :: d10 j (m % 10 ^ j)
/-- the same without the zeros at the end -/
def fr : Nat → Nat → List UInt8
  | 0, _ => []
  | j + 1, m => if m = 0 then [] else UInt8.ofNat (48 + m / 10 ^ j) :: fr j (m % 10 ^ j)
theorem pow10_pos (j : Nat) : 0 < 10 ^ j := Nat.pow_pos (by omega)
theorem div10_lt {m j : Nat} (h : m < 10 ^ (j + 1)) : m / 10 ^ j < 10 := by
  rw [Nat.div_lt_iff_lt_mul (pow10_pos j), Nat.mul_comm]; rwa [Nat.pow_succ] at h
theorem mod10_lt (m j : Nat) : m % 10 ^ j < 10 ^ j := Nat.mod_lt _ (pow10_pos j)
theorem d10_length (j m : Nat) : (d10 j m).length = j := by
  induction j generalizing m with
  | zero => rfl
  | succ j ih => simp [d10, ih]
theorem d10_snoc (j m : Nat) : d10 (j + 1) m = d10 j (m / 10) ++ [UInt8.ofNat (48 + m % 10)] ∨ ¬ m < 10 ^ (j + 1) := by
  by_cases h : m < 10 ^ (j + 1)
  · left
    induction j generalizing m with
    | zero =>
      have : m < 10 := by simpa using h
      simp only [d10, Nat.pow_zero, Nat.div_one, List.nil_append]
      congr 3; omega
    | succ j ih =>
      rw [d10, ih _ (mod10_lt m (j + 1)), d10]
      have e1 : m % 10 ^ (j + 1) / 10 = m / 10 % 10 ^ j := by rw [Nat.pow_succ, Nat.mul_comm, Nat.mod_mul_right_div_self]
      have e2 : m % 10 ^ (j + 1) % 10 = m % 10 := by rw [Nat.pow_succ, Nat.mod_mul_left_mod]
      have e3 : m / 10 ^ (j + 1) = m / 10 / 10 ^ j := by rw [Nat.div_div_eq_div_mul, Nat.pow_succ, Nat.mul_comm]
      rw [e1, e2, e3]; rfl
  · exact .inr h
theorem decDigits_lead (j m : Nat) (h : m < 10 ^ j) : Lib.decDigits (10 ^ j + m) = 49 :: d10 j m := by
  induction j generalizing m with
  | zero =>
    have : m = 0 := by simpa using h
    subst this
    rw [Lib.decDigits, dif_pos (by decide)]; rfl
  | succ j ih =>
    have hp := pow10_pos j
    have e1 : (10 ^ (j + 1) + m) / 10 = 10 ^ j + m / 10 := by rw [Nat.pow_succ]; omega
    have e2 : (10 ^ (j + 1) + m) % 10 = m % 10 := by rw [Nat.pow_succ]; omega
    have h' : m / 10 < 10 ^ j := by rw [Nat.pow_succ] at h; omega
    rw [Lib.decDigits, dif_neg (by rw [Nat.pow_succ]; omega), e1, e2, ih _ h']
    rcases d10_snoc j m with e | e
    · rw [e]; rfl
    · exact absurd h e
theorem trimR_cons (c : UInt8) (l : List UInt8) : Lib.trimRightB (c :: l) 48 = if Lib.trimRightB l 48 = [] then (if c = 48 then [] else [c]) else c :: Lib.trimRightB l 48 := by
  unfold Lib.trimRightB
  rw [List.reverse_cons, List.dropWhile_append]
  by_cases h : l.reverse.dropWhile (· == (48 : UInt8)) = []
  · rw [h]
    by_cases hc : c = 48
    · simp [hc]
    · simp [hc]
  · have h2 : ¬ (l.reverse.dropWhile (· == (48 : UInt8))).isEmpty = true := by simpa using h
    rw [if_neg h2, if_neg (by simpa using h), List.reverse_append]; rfl
theorem fr_zero (j : Nat) : fr j 0 = [] := by cases j <;> simp [fr]
theorem fr_nil {j m : Nat} (h : m < 10 ^ j) (e : fr j m = []) : m = 0 := by
  cases j with
  | zero => simpa using h
  | succ j =>
    rw [fr] at e
    split at e
    · assumption
    · cases e
theorem trimR_d10 (j m : Nat) (h : m < 10 ^ j) : Lib.trimRightB (d10 j m) 48 = fr j m := by
  induction j generalizing m with
  | zero => rfl
  | succ j ih =>
    rw [d10, trimR_cons, ih _ (mod10_lt m j), fr]
    have hd := div10_lt h
    have hdm := Nat.div_add_mod m (10 ^ j)
    by_cases h0 : m = 0
    · subst h0; simp [fr_zero]
    · rw [if_neg h0]
      by_cases hf : fr j (m % 10 ^ j) = []
      · rw [if_pos hf, hf]
        have hm := fr_nil (mod10_lt m j) hf
        rw [hm] at hdm
        rw [if_neg ?_]
        intro e
        have e2 := congrArg UInt8.toNat e
        rw [dig_toNat _ hd] at e2
        have : (48 : UInt8).toNat = 48 := rfl
        have h1 : m / 10 ^ j = 0 := by omega
        rw [h1] at hdm; omega
      · rw [if_neg hf]
theorem fr_len (j m : Nat) : (fr j m).length ≤ j := by
  induction j generalizing m with
  | zero => simp [fr]
  | succ j ih =>
    rw [fr]; split
    · simp
    · have := ih (m % 10 ^ j); simp; omega
theorem fr_dig (j m : Nat) (h : m < 10 ^ j) : ∀ c ∈ fr j m, 48 ≤ c.toNat ∧ c.toNat ≤ 57 := by
  induction j generalizing m with
  | zero => intro c hc; cases hc
  | succ j ih =>
    intro c hc
    rw [fr] at hc
    split at hc
    · cases hc
    · rcases List.mem_cons.1 hc with rfl | hc
      · have := div10_lt h; rw [dig_toNat _ this]; revert this; generalize m / 10 ^ j = q; omega
      · exact ih _ (mod10_lt m j) c hc
theorem fr_last (j m : Nat) (h : m < 10 ^ j) (h0 : m ≠ 0) : ∃ r c, fr j m = r ++ [c] ∧ c.toNat ≠ 48 := by
  induction j generalizing m with
  | zero => simp at h; omega
  | succ j ih =>
    have hd := div10_lt h
    have hdm := Nat.div_add_mod m (10 ^ j)
    rw [fr, if_neg h0]
    by_cases hm : m % 10 ^ j = 0
    · refine ⟨[], _, by rw [hm, fr_zero]; rfl, ?_⟩
      rw [dig_toNat _ hd]
      intro e
      have h1 : m / 10 ^ j = 0 := by omega
      rw [h1] at hdm; omega
    · obtain ⟨r, c, e, hc⟩ := ih _ (mod10_lt m j) hm
      exact ⟨_ :: r, c, by rw [e]; rfl, hc⟩
theorem decFrom_zeros (k acc : Nat) : Lib.decFrom acc (List.replicate k 48) = some (acc * 10 ^ k) := by
  induction k generalizing acc with
  | zero => simp [Lib.decFrom]
  | succ k ih =>
    rw [List.replicate_succ]
    have : Lib.digitVal 48 = some 0 := rfl
    simp only [Lib.decFrom, this]
    rw [ih, Nat.pow_succ]; congr 1; rw [Nat.add_zero, Nat.mul_assoc, Nat.mul_comm 10]
theorem decFrom_fr (j m acc : Nat) (h : m < 10 ^ j) : Lib.decFrom acc (fr j m ++ List.replicate (j - (fr j m).length) 48) = some (acc * 10 ^ j + m) := by
  induction j generalizing m acc with
  | zero =>
    have : m = 0 := by simpa using h
    subst this; simp [fr, Lib.decFrom]
  | succ j ih =>
    rw [fr]
    by_cases h0 : m = 0
    · subst h0; rw [if_pos rfl, List.nil_append, List.length_nil, decFrom_zeros]; rfl
    · have hd := div10_lt h
      have hdm := Nat.div_add_mod m (10 ^ j)
      rw [if_neg h0, List.length_cons, List.cons_append, Nat.add_sub_add_right]
      simp only [Lib.decFrom, digitVal_dig _ hd]
      rw [ih _ _ (mod10_lt m j), Nat.add_mul, Nat.mul_assoc, Nat.pow_succ, Nat.mul_comm 10, Nat.add_assoc, Nat.mul_comm (m / 10 ^ j), hdm]
/-! ### the text of a time -/
def fracL (n : Nat) : List UInt8 := if n = 0 then [] else 46 :: fr 9 n
/-- seconds and nanoseconds of the time with the other sign -/
def negV (a b : Int) : Int × Int := if b = 0 then (if a = -9223372036854775808 then -9223372036854775808 else -a, 0) else (if a = -9223372036854775808 then 9223372036854775807 else -a - 1, 1000000000 - b)
def inT (a b : Int) : Bool := decide (-1099511627776 ≤ a ∧ a ≤ 1099511627776 ∧ 0 ≤ b ∧ b ≤ 999999999)
def absT (m n : Nat) : List UInt8 := Lib.decDigits m ++ fracL n
def textL (a b : Int) : List UInt8 := if a < 0 then 45 :: absT (negV a b).1.toNat (negV a b).2.toNat else absT a.toNat b.toNat
def tText (a b : Int) : ByteArray × Int := if inT a b = true then (bs (textL a b), 0) else (⟨#[]⟩, 4)
theorem inT_mk {a b : Int} (h : -1099511627776 ≤ a ∧ a ≤ 1099511627776 ∧ 0 ≤ b ∧ b ≤ 999999999) : inT a b = true := decide_eq_true h
theorem inT_no {a b : Int} (h : ¬ (-1099511627776 ≤ a ∧ a ≤ 1099511627776 ∧ 0 ≤ b ∧ b ≤ 999999999)) : inT a b = false := decide_eq_false h
theorem inT_of {a b : Int} (h : inT a b = true) : -1099511627776 ≤ a ∧ a ≤ 1099511627776 ∧ 0 ≤ b ∧ b ≤ 999999999 := of_decide_eq_true h
theorem fracL_len (n : Nat) : (fracL n).length ≤ 10 := by
  unfold fracL; split
  · simp
  · have := fr_len 9 n; simp; omega
theorem absT_len (m n : Nat) (h : m < 10 ^ 14) : (absT m n).length ≤ 24 := by
  have h1 := decDigits_len m 13 h
  have h2 := fracL_len n
  rw [absT, List.length_append]; omega
/-- which part of a text is read: the sign, what stands behind it -/
def minusL : List UInt8 → Bool
  | [] => false
  | c :: _ => c == 45
def sizeL (l : List UInt8) : List UInt8 := if minusL l = true then l.drop 1 else l
def wholeL (l : List UInt8) : List UInt8 := l.take (pos 46 l)
def digsL (l : List UInt8) : List UInt8 := l.drop (pos 46 l + 1)
def numO : Lib.NumEnd Int → Option Int
  | .ok v => some v
  | _ => none
def fracO (d : List UInt8) : Option Int := if d.length ≤ 9 then numO (Lib.atoiAll (d ++ List.replicate (9 - d.length) 48)) else none
/-- what the program reads, before it looks whether the text is the one of it -/
def parseO (l : List UInt8) : Option (Int × Int) :=
  match numO (Lib.atoiAll (wholeL (sizeL l))), fracO (digsL (sizeL l)) with
  | some a, some b => some (if minusL l = true then negV a b else (a, b))
  | _, _ => none
def tparse (l : List UInt8) : Int × Int × Int :=
  match parseO l with
  | some (a, b) => if inT a b = true ∧ textL a b = l then (a, b, 0) else (0, 0, 3)
  | none => (0, 0, 3)
theorem tparse_none {l : List UInt8} (h : parseO l = none) : tparse l = (0, 0, 3) := by simp [tparse, h]
theorem tparse_yes {l : List UInt8} {a b : Int} (h : parseO l = some (a, b)) (h1 : inT a b = true) (h2 : textL a b = l) : tparse l = (a, b, 0) := by
  simp only [tparse, h]; rw [if_pos ⟨h1, h2⟩]
theorem tparse_no {l : List UInt8} {a b : Int} (h : parseO l = some (a, b)) (h1 : ¬ (inT a b = true ∧ textL a b = l)) : tparse l = (0, 0, 3) := by
  simp only [tparse, h]; rw [if_neg h1]
theorem atoi_dec (u : Nat) (h : u < 10 ^ 14) : Lib.atoiAll (Lib.decDigits u) = .ok (u : Int) := by
  rw [Lib.atoiAll_short _ (Nat.le_trans (decDigits_len u 13 h) (by decide))]
  obtain ⟨c, r, e, h1, h2, -⟩ := decDigits_cons u
  have hv := decFrom_decDigits u
  rw [e] at hv ⊢
  have c1 : (c == 45) = false := by rw [beq_eq_false_iff_ne]; rintro rfl; exact absurd h1 (by decide)
  have c2 : (c == 43) = false := by rw [beq_eq_false_iff_ne]; rintro rfl; exact absurd h1 (by decide)
  simp only [Lib.atoi, c1, c2]
  simp [Lib.decNat, hv, Lib.NumEnd.ofOption]
theorem atoi_fr (m : Nat) (h : m < 10 ^ 9) : fracO (fr 9 m) = some (m : Int) := by
  have hl := fr_len 9 m
  have hv := decFrom_fr 9 m 0 h
  rw [Nat.zero_mul, Nat.zero_add] at hv
  unfold fracO
  rw [if_pos hl, Lib.atoiAll_short _ (by rw [List.length_append, List.length_replicate]; omega)]
  have hd : ∀ c ∈ fr 9 m ++ List.replicate (9 - (fr 9 m).length) 48, 48 ≤ c.toNat := by
    intro c hc
    rcases List.mem_append.1 hc with hc | hc
    · exact (fr_dig 9 m h c hc).1
    · rw [(List.mem_replicate.1 hc).2]; decide
  have hn : (fr 9 m ++ List.replicate (9 - (fr 9 m).length) 48).length = 9 := by rw [List.length_append, List.length_replicate]; omega
  revert hv hd hn
  generalize fr 9 m ++ List.replicate (9 - (fr 9 m).length) 48 = L
  intro hv hd hn
  cases L with
  | nil => cases hn
  | cons c r =>
    have h1 := hd c (by simp)
    have c1 : (c == 45) = false := by rw [beq_eq_false_iff_ne]; rintro rfl; exact absurd h1 (by decide)
    have c2 : (c == 43) = false := by rw [beq_eq_false_iff_ne]; rintro rfl; exact absurd h1 (by decide)
    simp only [Lib.atoi, c1, c2]
    simp [Lib.decNat, hv, Lib.NumEnd.ofOption, numO]
theorem absT_parts (m n : Nat) : wholeL (absT m n) = Lib.decDigits m ∧ digsL (absT m n) = fr 9 n := by
  have h1 : hasB 46 (Lib.decDigits m) = false := hasB_dig _ (decDigits_dig m) 46 (by decide)
  have h2 : pos 46 (absT m n) = (Lib.decDigits m).length := by
    rw [absT, pos_app _ _ _ h1]
    unfold fracL; split
    · rfl
    · rw [pos_cons, if_pos rfl]; rfl
  unfold wholeL digsL
  rw [h2]
  refine ⟨by rw [absT]; simp, ?_⟩
  rw [absT, List.drop_append, List.drop_of_length_le (by omega), List.nil_append, Nat.add_sub_cancel_left]
  unfold fracL; split
  · rename_i h; subst h; rw [fr_zero]; rfl
  · rfl
theorem minusL_abs (m n : Nat) : minusL (absT m n) = false := by
  obtain ⟨c, r, e, h1, -, -⟩ := decDigits_cons m
  rw [absT, e]
  show (c == 45) = false
  rw [beq_eq_false_iff_ne]; rintro rfl; exact absurd h1 (by decide)
theorem textL_abs (a b : Int) (h : inT a b = true) : ∃ m n : Nat, m < 10 ^ 14 ∧ n < 10 ^ 9 ∧ ((a < 0 ∧ textL a b = 45 :: absT m n ∧ negV m n = (a, b) ∧ negV a b = ((m : Int), (n : Int))) ∨ (0 ≤ a ∧ textL a b = absT m n ∧ (a, b) = ((m : Int), (n : Int)))) := by
  have hr := inT_of h
  have e14 : (10 : Nat) ^ 14 = 100000000000000 := by decide
  have e9 : (10 : Nat) ^ 9 = 1000000000 := by decide
  rw [e14, e9]
  by_cases h0 : a < 0
  · unfold textL
    rw [if_pos h0]
    by_cases hb : b = 0
    · subst hb
      have e : negV a 0 = (-a, 0) := by unfold negV; rw [if_pos rfl, if_neg (by omega)]
      refine ⟨(-a).toNat, 0, by omega, by omega, .inl ⟨h0, by rw [e]; rfl, ?_, ?_⟩⟩
      · unfold negV; rw [if_pos (show ((0 : Nat) : Int) = 0 from rfl), if_neg (by omega)]; apply Prod.ext
        · show -((-a).toNat : Int) = a; omega
        · rfl
      · rw [e]; apply Prod.ext
        · show -a = ((-a).toNat : Int); omega
        · rfl
    · have e : negV a b = (-a - 1, 1000000000 - b) := by unfold negV; rw [if_neg hb, if_neg (by omega)]
      refine ⟨(-a - 1).toNat, (1000000000 - b).toNat, by omega, by omega, .inl ⟨h0, by rw [e], ?_, ?_⟩⟩
      · unfold negV; rw [if_neg (by omega), if_neg (by omega)]; apply Prod.ext
        · show -((-a - 1).toNat : Int) - 1 = a; omega
        · show 1000000000 - ((1000000000 - b).toNat : Int) = b; omega
      · rw [e]; apply Prod.ext
        · show -a - 1 = ((-a - 1).toNat : Int); omega
        · show 1000000000 - b = ((1000000000 - b).toNat : Int); omega
  · refine ⟨a.toNat, b.toNat, by omega, by omega, .inr ⟨by omega, by unfold textL; rw [if_neg h0], ?_⟩⟩
    apply Prod.ext
    · show a = (a.toNat : Int); omega
    · show b = (b.toNat : Int); omega
theorem parseO_text (a b : Int) (h : inT a b = true) : parseO (textL a b) = some (a, b) := by
  obtain ⟨m, n, hm, hn, ⟨h0, e, e2, -⟩ | ⟨h0, e, e2⟩⟩ := textL_abs a b h
  · have hs : sizeL (45 :: absT m n) = absT m n := rfl
    rw [e]
    unfold parseO
    rw [hs, (absT_parts m n).1, (absT_parts m n).2, atoi_dec m hm, atoi_fr n hn]
    show some (negV m n) = _
    rw [e2]
  · have hs : sizeL (absT m n) = absT m n := by unfold sizeL; rw [minusL_abs]; rfl
    rw [e]
    unfold parseO
    rw [hs, (absT_parts m n).1, (absT_parts m n).2, atoi_dec m hm, atoi_fr n hn, minusL_abs]
    show some ((m : Int), (n : Int)) = _
    rw [e2]
theorem tparse_text (a b : Int) (h : inT a b = true) : tparse (textL a b) = (a, b, 0) := tparse_yes (parseO_text a b h) h rfl
theorem tparse_cases (l : List UInt8) : (∃ a b, inT a b = true ∧ textL a b = l ∧ tparse l = (a, b, 0)) ∨ (tparse l = (0, 0, 3) ∧ ∀ a b, inT a b = true → textL a b ≠ l) := by
  cases h : parseO l with
  | none => exact .inr ⟨tparse_none h, fun a b hi e => by rw [← e, parseO_text a b hi] at h; cases h⟩
  | some p =>
    obtain ⟨a, b⟩ := p
    by_cases hc : inT a b = true ∧ textL a b = l
    · exact .inl ⟨a, b, hc.1, hc.2, tparse_yes h hc.1 hc.2⟩
    · refine .inr ⟨tparse_no h hc, fun a' b' hi e => ?_⟩
      rw [← e, parseO_text a' b' hi] at h
      obtain ⟨rfl, rfl⟩ := Prod.mk.inj (Option.some.inj h)
      exact hc ⟨hi, e⟩
/-! ### the reference's reading -/
def isD (c : UInt8) : Bool := decide (48 ≤ c.toNat ∧ c.toNat ≤ 57)
def rdInt : Nat → Nat → List UInt8 → Nat × List UInt8
  | 0, acc, l => (acc, l)
  | f + 1, acc, [] => (acc, [])
  | f + 1, acc, c :: r => if isD c = true then rdInt f (10 * acc + (c.toNat - 48)) r else (acc, c :: r)
def rdFrac : Nat → Nat → List UInt8 → Nat
  | 0, acc, _ => acc
  | j + 1, acc, [] => acc
  | j + 1, acc, c :: r => if isD c = true then rdFrac j (acc + 10 ^ j * (c.toNat - 48)) r else acc
def afterDot : List UInt8 → Nat
  | [] => 0
  | c :: r => if c = 46 then rdFrac 9 0 r else 0
def refV (l : List UInt8) : Int × Int :=
  if minusL l = true then
    (if afterDot (rdInt 14 0 (sizeL l)).2 = 0 then (-((rdInt 14 0 (sizeL l)).1 : Int), 0) else (-((rdInt 14 0 (sizeL l)).1 : Int) - 1, 1000000000 - (afterDot (rdInt 14 0 (sizeL l)).2 : Int)))
  else ((rdInt 14 0 (sizeL l)).1, afterDot (rdInt 14 0 (sizeL l)).2)
theorem isD_val {c : UInt8} {d : Nat} (h : Lib.digitVal c = some d) : isD c = true ∧ c.toNat - 48 = d := by
  obtain ⟨h1, h2, h3⟩ := Lib.digitVal_eq h
  exact ⟨decide_eq_true ⟨h1, h2⟩, h3.symm⟩
theorem rdInt_dec (l r : List UInt8) (f acc v : Nat) (h : Lib.decFrom acc l = some v) (hl : l.length ≤ f) (hr : ∀ c t, r = c :: t → isD c = false) : rdInt f acc (l ++ r) = (v, r) := by
  induction l generalizing f acc with
  | nil =>
    simp only [Lib.decFrom, Option.some.injEq] at h; subst h
    cases f with
    | zero => rfl
    | succ f =>
      cases r with
      | nil => rfl
      | cons c t => show rdInt (f + 1) acc (c :: t) = _; rw [rdInt, hr c t rfl]; rfl
  | cons c l ih =>
    cases f with
    | zero => simp at hl
    | succ f =>
      cases hc : Lib.digitVal c with
      | none => simp [Lib.decFrom, hc] at h
      | some d =>
        simp only [Lib.decFrom, hc] at h
        obtain ⟨h1, h2⟩ := isD_val hc
        rw [List.cons_append, rdInt, if_pos h1, h2, Nat.mul_comm]
        exact ih f _ h (by simpa using hl)
theorem rdFrac_fr (j m acc : Nat) (h : m < 10 ^ j) : rdFrac j acc (fr j m) = acc + m := by
  induction j generalizing m acc with
  | zero =>
    have : m = 0 := by simpa using h
    subst this; rfl
  | succ j ih =>
    by_cases h0 : m = 0
    · subst h0; rw [fr_zero]; rfl
    · have hd := div10_lt h
      have hdm := Nat.div_add_mod m (10 ^ j)
      have hD : isD (UInt8.ofNat (48 + m / 10 ^ j)) = true := by unfold isD; rw [dig_toNat _ hd]; refine decide_eq_true ?_; revert hd; generalize m / 10 ^ j = q; omega
      rw [fr, if_neg h0, rdFrac, if_pos hD, dig_toNat _ hd, Nat.add_sub_cancel_left, ih _ _ (mod10_lt m j), Nat.add_assoc, hdm]
theorem rd_abs (m n : Nat) (hm : m < 10 ^ 14) (hn : n < 10 ^ 9) : (rdInt 14 0 (absT m n)).1 = m ∧ afterDot (rdInt 14 0 (absT m n)).2 = n := by
  have h : rdInt 14 0 (absT m n) = (m, fracL n) := by
    refine rdInt_dec _ _ _ _ _ (decFrom_decDigits m) (decDigits_len m 13 hm) ?_
    intro c t e
    unfold fracL at e
    split at e
    · cases e
    · injection e with e1 _; subst e1; rfl
  rw [h]
  refine ⟨rfl, ?_⟩
  show afterDot (fracL n) = n
  unfold fracL
  split
  · rename_i e; rw [e]; rfl
  · rw [afterDot, if_pos rfl, rdFrac_fr 9 n 0 hn, Nat.zero_add]
theorem refV_text (a b : Int) (h : inT a b = true) : refV (textL a b) = (a, b) := by
  obtain ⟨m, n, hm, hn, ⟨h0, e, e2, -⟩ | ⟨h0, e, e2⟩⟩ := textL_abs a b h
  · have hs : sizeL (45 :: absT m n) = absT m n := rfl
    have e14 : (10 : Nat) ^ 14 = 100000000000000 := by decide
    rw [e]
    unfold refV
    rw [if_pos (show minusL (45 :: absT m n) = true from rfl), hs, (rd_abs m n hm hn).1, (rd_abs m n hm hn).2, ← e2]
    unfold negV
    by_cases hz : n = 0
    · subst hz; rw [if_pos rfl, if_pos (show ((0 : Nat) : Int) = 0 from rfl), if_neg (by omega)]
    · rw [if_neg hz, if_neg (by omega), if_neg (by omega)]
  · have hs : sizeL (absT m n) = absT m n := by unfold sizeL; rw [minusL_abs]; rfl
    rw [e]
    unfold refV
    rw [if_neg (by rw [minusL_abs]; decide), hs, (rd_abs m n hm hn).1, (rd_abs m n hm hn).2, e2]
theorem tparse_ref (l : List UInt8) : tparse l = if inT (refV l).1 (refV l).2 = true ∧ textL (refV l).1 (refV l).2 = l then ((refV l).1, (refV l).2, 0) else (0, 0, 3) := by
  rcases tparse_cases l with ⟨a, b, h1, h2, h3⟩ | ⟨h1, h2⟩
  · have e : refV l = (a, b) := by rw [← h2, refV_text a b h1]
    rw [e, h3, if_pos ⟨h1, h2⟩]
  · rw [h1, if_neg]
    rintro ⟨x, y⟩; exact h2 _ _ x y
end Go.Proofs.YtilofjaigpngoaaDoor
