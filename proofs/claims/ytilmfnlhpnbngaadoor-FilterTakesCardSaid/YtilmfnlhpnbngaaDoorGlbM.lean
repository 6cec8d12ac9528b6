/- Plain mathematics of patterns: things that fit signs, some of which stand for any number; the signs of a part of a pattern; patterns and paths. Nothing of the program. -/
import Derived.Test.YtilmfnlhpnbngaaDoorPrtM
set_option linter.unusedVariables false
namespace Go.Proofs.YtilmfnlhpnbngaaDoor
open Go.RowKit
section
variable {α β : Type} (star : α → Bool) (fits : α → β → Bool)
/-- do things fit signs, one by one, where a star stands for any number? -/
def fitL : List α → List β → Bool
  | [], [] => true
  | [], _ :: _ => false
  | a :: us, [] => star a && fitL us []
  | a :: us, b :: bs => if star a then fitL us (b :: bs) || fitL (a :: us) bs else fits a b && fitL us bs
termination_by us bs => us.length + bs.length
variable {star fits}
theorem fitL_nil_nil : fitL star fits [] [] = true := by rw [fitL]
theorem fitL_nil_cons (b : β) (bs : List β) : fitL star fits [] (b :: bs) = false := by rw [fitL]
theorem fitL_cons_nil (a : α) (us : List α) : fitL star fits (a :: us) [] = (star a && fitL star fits us []) := by rw [fitL]
theorem fitL_cons_cons (a : α) (us : List α) (b : β) (bs : List β) : fitL star fits (a :: us) (b :: bs) = if star a then fitL star fits us (b :: bs) || fitL star fits (a :: us) bs else fits a b && fitL star fits us bs := by rw [fitL]
/-- a star in front -/
theorem fitL_star {a : α} (h : star a = true) (us : List α) (bs : List β) : fitL star fits (a :: us) bs = true ↔ ∃ b1 b2, bs = b1 ++ b2 ∧ fitL star fits us b2 = true := by
  induction bs with
  | nil =>
    rw [fitL_cons_nil, h, Bool.true_and]
    constructor
    · intro h1; exact ⟨[], [], rfl, h1⟩
    · rintro ⟨b1, b2, e, h1⟩
      obtain ⟨rfl, rfl⟩ := List.append_eq_nil_iff.1 e.symm
      exact h1
  | cons b bs ih =>
    rw [fitL_cons_cons, if_pos h, Bool.or_eq_true, ih]
    constructor
    · rintro (h1 | ⟨b1, b2, e, h1⟩)
      · exact ⟨[], _, rfl, h1⟩
      · exact ⟨b :: b1, b2, by rw [e]; rfl, h1⟩
    · rintro ⟨b1, b2, e, h1⟩
      cases b1 with
      | nil => left; rw [List.nil_append] at e; rw [e]; exact h1
      | cons c b1 =>
        right
        rw [List.cons_append] at e
        injection e with _ e
        exact ⟨b1, b2, e, h1⟩
/-- another sign in front -/
theorem fitL_sign {a : α} (h : star a = false) (us : List α) (bs : List β) : fitL star fits (a :: us) bs = true ↔ ∃ b bs', bs = b :: bs' ∧ fits a b = true ∧ fitL star fits us bs' = true := by
  cases bs with
  | nil =>
    rw [fitL_cons_nil, h, Bool.false_and]
    constructor
    · intro h1; cases h1
    · rintro ⟨b, bs', e, -⟩; cases e
  | cons b bs =>
    rw [fitL_cons_cons, if_neg (by rw [h]; decide), Bool.and_eq_true]
    constructor
    · rintro ⟨h1, h2⟩; exact ⟨b, bs, rfl, h1, h2⟩
    · rintro ⟨b', bs', e, h1, h2⟩
      injection e with e1 e2
      subst e1 e2
      exact ⟨h1, h2⟩
/-- what fits two lists of signs behind one another is what fits the one, and behind it what fits the other -/
theorem fitL_app (u1 u2 : List α) (bs : List β) : fitL star fits (u1 ++ u2) bs = true ↔ ∃ b1 b2, bs = b1 ++ b2 ∧ fitL star fits u1 b1 = true ∧ fitL star fits u2 b2 = true := by
  induction u1 generalizing bs with
  | nil =>
    rw [List.nil_append]
    constructor
    · intro h; exact ⟨[], bs, rfl, fitL_nil_nil, h⟩
    · rintro ⟨b1, b2, e, h1, h2⟩
      cases b1 with
      | nil => rw [e]; exact h2
      | cons b b1 => rw [fitL_nil_cons] at h1; cases h1
  | cons a u1 ih =>
    rw [List.cons_append]
    rcases h : star a with _ | _
    · rw [fitL_sign h]
      constructor
      · rintro ⟨b, bs', rfl, h1, h2⟩
        obtain ⟨b1, b2, rfl, h3, h4⟩ := (ih bs').1 h2
        exact ⟨b :: b1, b2, rfl, (fitL_sign h _ _).2 ⟨b, b1, rfl, h1, h3⟩, h4⟩
      · rintro ⟨b1, b2, rfl, h1, h2⟩
        obtain ⟨b, b1', rfl, h3, h4⟩ := (fitL_sign h _ _).1 h1
        exact ⟨b, b1' ++ b2, rfl, h3, (ih _).2 ⟨b1', b2, rfl, h4, h2⟩⟩
    · rw [fitL_star h]
      constructor
      · rintro ⟨c1, c2, rfl, h1⟩
        obtain ⟨b1, b2, rfl, h3, h4⟩ := (ih c2).1 h1
        exact ⟨c1 ++ b1, b2, by rw [List.append_assoc], (fitL_star h _ _).2 ⟨c1, b1, rfl, h3⟩, h4⟩
      · rintro ⟨b1, b2, rfl, h1, h2⟩
        obtain ⟨c1, c2, rfl, h3⟩ := (fitL_star h _ _).1 h1
        exact ⟨c1, c2 ++ b2, by rw [List.append_assoc], (ih _).2 ⟨c2, b2, rfl, h3, h2⟩⟩
/-- one sign alone -/
theorem fitL_one_star {a : α} (h : star a = true) (bs : List β) : fitL star fits [a] bs = true := (fitL_star h _ _).2 ⟨bs, [], by simp, fitL_nil_nil⟩
theorem fitL_one {a : α} (h : star a = false) (bs : List β) : fitL star fits [a] bs = true ↔ ∃ b, bs = [b] ∧ fits a b = true := by
  rw [fitL_sign h]
  constructor
  · rintro ⟨b, bs', rfl, h1, h2⟩
    cases bs' with
    | nil => exact ⟨b, rfl, h1⟩
    | cons c bs' => rw [fitL_nil_cons] at h2; cases h2
  · rintro ⟨b, rfl, h1⟩; exact ⟨b, [], rfl, h1, fitL_nil_nil⟩
/-- from the end: the rows of a table -/
theorem fitL_snoc_nil (us : List α) (a : α) : fitL star fits (us ++ [a]) [] = (fitL star fits us [] && star a) := by
  rw [Bool.eq_iff_iff, fitL_app, Bool.and_eq_true]
  constructor
  · rintro ⟨b1, b2, e, h1, h2⟩
    obtain ⟨rfl, rfl⟩ := List.append_eq_nil_iff.1 e.symm
    refine ⟨h1, ?_⟩
    rcases h : star a with _ | _
    · obtain ⟨b, e, -⟩ := (fitL_one h _).1 h2; cases e
    · rfl
  · rintro ⟨h1, h2⟩
    exact ⟨[], [], rfl, h1, fitL_one_star h2 _⟩
theorem fitL_snoc_snoc (us : List α) (a : α) (bs : List β) (b : β) : fitL star fits (us ++ [a]) (bs ++ [b]) = if star a then fitL star fits us (bs ++ [b]) || fitL star fits (us ++ [a]) bs else fitL star fits us bs && fits a b := by
  rcases h : star a with _ | _
  · rw [if_neg (by decide), Bool.eq_iff_iff, fitL_app, Bool.and_eq_true]
    constructor
    · rintro ⟨b1, b2, e, h1, h2⟩
      obtain ⟨c, rfl, h3⟩ := (fitL_one h _).1 h2
      obtain ⟨rfl, e2⟩ := List.append_inj' e rfl
      injection e2 with e2
      subst e2
      exact ⟨h1, h3⟩
    · rintro ⟨h1, h2⟩
      exact ⟨bs, [b], rfl, h1, (fitL_one h _).2 ⟨b, rfl, h2⟩⟩
  · rw [if_pos rfl, Bool.eq_iff_iff, fitL_app, Bool.or_eq_true, fitL_app]
    constructor
    · rintro ⟨b1, b2, e, h1, h2⟩
      rcases List.eq_nil_or_concat b2 with rfl | ⟨b2', c, rfl⟩
      · left
        rw [List.append_nil] at e
        rw [e]; exact h1
      · right
        rw [List.concat_eq_append, ← List.append_assoc] at e
        obtain ⟨rfl, -⟩ := List.append_inj' e rfl
        exact ⟨b1, b2', rfl, h1, fitL_one_star h _⟩
    · rintro (h1 | ⟨b1, b2, rfl, h1, h2⟩)
      · exact ⟨_, [], by rw [List.append_nil], h1, fitL_one_star h _⟩
      · exact ⟨b1, b2 ++ [b], by rw [List.append_assoc], h1, fitL_one_star h _⟩
/-- the table's four rules -/
theorem fitL_table (us : List α) (bs : List β) (da : α) (db : β) : (fitL star fits (us.take 0) (bs.take 0) = true) ∧ (∀ k, k < bs.length → fitL star fits (us.take 0) (bs.take (k + 1)) = false) ∧
    (∀ i, i < us.length → fitL star fits (us.take (i + 1)) (bs.take 0) = (fitL star fits (us.take i) (bs.take 0) && star (us.getD i da))) ∧
    (∀ i k, i < us.length → k < bs.length → fitL star fits (us.take (i + 1)) (bs.take (k + 1)) = if star (us.getD i da) then fitL star fits (us.take i) (bs.take (k + 1)) || fitL star fits (us.take (i + 1)) (bs.take k) else fitL star fits (us.take i) (bs.take k) && fits (us.getD i da) (bs.getD k db)) := by
  have eu : ∀ i, (h : i < us.length) → us.take (i + 1) = us.take i ++ [us.getD i da] := fun i h => by rw [List.take_succ_eq_append_getElem h]; simp [h]
  have eb : ∀ i, (h : i < bs.length) → bs.take (i + 1) = bs.take i ++ [bs.getD i db] := fun i h => by rw [List.take_succ_eq_append_getElem h]; simp [h]
  refine ⟨fitL_nil_nil, fun k hk => ?_, fun i hi => ?_, fun i k hi hk => ?_⟩
  · rw [List.take_zero]
    cases bs with
    | nil => simp at hk
    | cons b bs => exact fitL_nil_cons _ _
  · rw [eu i hi, List.take_zero, fitL_snoc_nil]
  · rw [eu i hi, eb k hk, fitL_snoc_snoc]
end
/-! ### the signs of a part -/
/-- a sign: a star; which bytes fit -/
abbrev Tok : Type := Bool × (UInt8 → Bool)
/-- the bytes from low to high -/
def span (low high : UInt8) : UInt8 → Bool := fun x => decide (low ≤ x ∧ x ≤ high)
/-- a set's bytes from here on, and what is behind its end -/
def setG (first : Bool) (acc : UInt8 → Bool) : List UInt8 → Option ((UInt8 → Bool) × List UInt8)
  | [] => none
  | [c] => if first = false ∧ c = 93 then some (acc, []) else none
  | [c, d] => if first = false ∧ c = 93 then some (acc, [d]) else setG false (fun x => acc x || span c c x) [d]
  | c :: d :: h :: r => if first = false ∧ c = 93 then some (acc, d :: h :: r) else if d = 45 ∧ h ≠ 93 then setG false (fun x => acc x || span c h x) r else setG false (fun x => acc x || span c c x) (d :: h :: r)
termination_by l => l.length
theorem setG_less : ∀ (n : Nat) (first : Bool) (acc : UInt8 → Bool) (l : List UInt8) (f : UInt8 → Bool) (r : List UInt8), l.length ≤ n → setG first acc l = some (f, r) → r.length < l.length := by
  intro n
  induction n with
  | zero =>
    intro first acc l f r hl h
    rw [List.eq_nil_of_length_eq_zero (Nat.le_zero.1 hl)] at h
    rw [setG] at h; cases h
  | succ n ih =>
    intro first acc l f r hl h
    match l, hl, h with
    | [], _, h => rw [setG] at h; cases h
    | [c], _, h =>
      rw [setG] at h
      split at h
      · injection h with h; injection h with _ h; rw [← h]; simp
      · cases h
    | [c, d], hl, h =>
      rw [setG] at h
      split at h
      · injection h with h; injection h with _ h; rw [← h]; simp
      · have := ih _ _ _ _ _ (by simp only [List.length_cons, List.length_nil] at hl ⊢; omega) h
        simp only [List.length_cons, List.length_nil] at this ⊢; omega
    | c :: d :: e :: l, hl, h =>
      rw [setG] at h
      simp only [List.length_cons] at hl
      split at h
      · injection h with h; injection h with _ h; rw [← h]; simp
      · split at h
        · have := ih _ _ _ _ _ (by omega) h
          simp only [List.length_cons]; omega
        · have := ih _ _ _ _ _ (by simp only [List.length_cons]; omega) h
          simp only [List.length_cons] at this ⊢; omega
/-- a set, behind its '[' -/
def setP (r : List UInt8) : Option ((UInt8 → Bool) × List UInt8) :=
  match r with
  | [] => none
  | c :: r' => if c = 33 then (setG true (fun _ => false) r').map fun q => (fun x => !q.1 x, q.2) else setG true (fun _ => false) (c :: r')
theorem setP_less {r : List UInt8} {f : UInt8 → Bool} {r2 : List UInt8} (h : setP r = some (f, r2)) : r2.length < r.length := by
  unfold setP at h
  cases r with
  | nil => cases h
  | cons c r =>
    simp only at h
    split at h
    · obtain ⟨q, hq, e⟩ := Option.map_eq_some_iff.1 h
      obtain ⟨g, r3⟩ := q
      injection e with _ e
      simp only at e
      subst e
      have := setG_less _ _ _ _ _ _ (Nat.le_refl _) hq
      rw [List.length_cons]; omega
    · exact setG_less _ _ _ _ _ _ (Nat.le_refl _) h
/-- the signs of a part; none: a set has no end -/
def tokL : List UInt8 → Option (List Tok)
  | [] => some []
  | c :: r =>
    if c = 91 then
      match h : setP r with
      | none => none
      | some (f, r2) => (tokL r2).map fun ts => (false, f) :: ts
    else (tokL r).map fun ts => (if c = 42 then (true, span 42 42) else if c = 63 then (false, fun _ => true) else (false, span c c)) :: ts
termination_by l => l.length
decreasing_by
  · have := setP_less h
    simp only [List.length_cons]; omega
  · simp
theorem tokL_len : ∀ (n : Nat) (l : List UInt8) (ts : List Tok), l.length ≤ n → tokL l = some ts → ts.length ≤ l.length := by
  intro n
  induction n with
  | zero =>
    intro l ts hl h
    rw [List.eq_nil_of_length_eq_zero (Nat.le_zero.1 hl), tokL] at h
    injection h with h; rw [← h]; simp
  | succ n ih =>
    intro l ts hl h
    cases l with
    | nil => rw [tokL] at h; injection h with h; rw [← h]; simp
    | cons c r =>
      rw [List.length_cons] at hl ⊢
      rw [tokL] at h
      split at h
      · split at h
        · cases h
        · rename_i f r2 hp
          obtain ⟨us, hu, e⟩ := Option.map_eq_some_iff.1 h
          have h1 := setP_less hp
          have := ih r2 us (by omega) hu
          subst e
          show us.length + 1 ≤ r.length + 1
          omega
      · obtain ⟨us, hu, e⟩ := Option.map_eq_some_iff.1 h
        have := ih r us (by omega) hu
        subst e
        show us.length + 1 ≤ r.length + 1
        omega
def tokStar (t : Tok) : Bool := t.1
def tokFits (t : Tok) (c : UInt8) : Bool := t.2 c
/-- does a part of a path fit a part of a pattern? -/
def partF (p s : List UInt8) : Bool := fitL tokStar tokFits ((tokL p).getD []) s
/-- is a part a pattern's sign for any number of parts? -/
def twoStars (p : List UInt8) : Bool := decide (p = [42, 42])
/-- what is said of a pattern -/
def partsE : List (List UInt8) → Int
  | [] => 0
  | s :: l => if s = [] then 9 else if (tokL s).isNone then 3 else partsE l
def globE (p : List UInt8) : Int := if p = [] ∨ 400 < p.length then 1 else partsE (partsL 47 p)
def globF (p s : List UInt8) : Bool := fitL twoStars partF (partsL 47 p) (partsL 47 s)
end Go.Proofs.YtilmfnlhpnbngaaDoor
