/- Plain mathematics of the program's patterns: a set's size and its members, a part's pieces; they are the signs that the reference reads. Nothing of the program. -/
import Derived.Test.YtilmfnlhpnbngaaGreatDoorGlbF
import Derived.Test.YtilmfnlhpnbngaaGreatDoorMth
set_option linter.unusedVariables false
namespace Go.Proofs.YtilmfnlhpnbngaaGreatDoor
open Go.RowKit
/-- a set's members, by themselves -/
def setM (acc : UInt8 → Bool) : List UInt8 → (UInt8 → Bool)
  | [] => acc
  | [c] => fun x => acc x || span c c x
  | [c, d] => setM (fun x => acc x || span c c x) [d]
  | c :: d :: h :: r => if d = 45 then setM (fun x => acc x || span c h x) r else setM (fun x => acc x || span c c x) (d :: h :: r)
termination_by l => l.length
theorem setM_nil (acc : UInt8 → Bool) : setM acc [] = acc := by rw [setM]
theorem setM_one (acc : UInt8 → Bool) (c : UInt8) (r : List UInt8) (h : ∀ h2 r2, r ≠ 45 :: h2 :: r2) : setM acc (c :: r) = setM (fun x => acc x || span c c x) r := by
  match r, h with
  | [], _ => rw [setM, setM]
  | [d], _ => conv => lhs; rw [setM]
  | d :: e :: r, h => rw [setM, if_neg]; rintro rfl; exact h e r rfl
theorem setM_rng (acc : UInt8 → Bool) (c e : UInt8) (r : List UInt8) : setM acc (c :: 45 :: e :: r) = setM (fun x => acc x || span c e x) r := by
  rw [setM, if_pos rfl]
/-- a list begins as a span goes on -/
theorem rng_cases (r : List UInt8) : (∃ e r2, r = 45 :: e :: r2) ∨ ∀ e r2, r ≠ 45 :: e :: r2 := by
  by_cases h : ∃ e r2, r = 45 :: e :: r2
  · exact .inl h
  · exact .inr fun e r2 he => h ⟨e, r2, he⟩
/-- a set with its end -/
theorem setG_shut : ∀ (n : Nat) (first : Bool) (m : List UInt8) (acc : UInt8 → Bool) (r : List UInt8), m.length ≤ n → (first = true → m ≠ []) → (∀ x ∈ (if first then m.drop 1 else m), x ≠ 93) → setG first acc (m ++ 93 :: r) = some (setM acc m, r) := by
  intro n
  induction n with
  | zero =>
    intro first m acc r hl h1 h2
    obtain rfl := List.eq_nil_of_length_eq_zero (Nat.le_zero.1 hl)
    cases first with
    | true => exact absurd rfl (h1 rfl)
    | false => rw [List.nil_append, setG_end, setM_nil]
  | succ n ih =>
    intro first m acc r hl h1 h2
    cases m with
    | nil =>
      cases first with
      | true => exact absurd rfl (h1 rfl)
      | false => rw [List.nil_append, setG_end, setM_nil]
    | cons c m =>
      have ht : ∀ x ∈ m, x ≠ 93 := fun x hx => by
        cases first with
        | true => exact h2 x (by simpa using hx)
        | false => exact h2 x (List.mem_cons_of_mem _ hx)
      have hn : ¬(first = false ∧ c = 93) := by
        rintro ⟨rfl, rfl⟩
        exact h2 93 (List.mem_cons_self ..) rfl
      rw [List.length_cons] at hl
      rw [List.cons_append]
      rcases rng_cases m with ⟨e, m2, rfl⟩ | hm
      · rw [List.cons_append, List.cons_append, setG_range _ _ hn (ht e (by simp)), setM_rng]
        refine ih false m2 _ r (by simp only [List.length_cons] at hl; omega) (fun h => by cases h) (fun x hx => ht x ?_)
        have : x ∈ m2 := by simpa using hx
        simp [this]
      · rw [setG_one _ _ hn, setM_one _ _ _ hm]
        · exact ih false m _ r (by omega) (fun h => by cases h) (fun x hx => ht x (by simpa using hx))
        · intro e r2 he
          match m, hm, he with
          | [], _, he => cases he
          | [d], _, he => simp at he; exact he.2.1.symm
          | d :: d2 :: m2, hm, he =>
            simp at he
            exact absurd (by rw [he.1]) (hm d2 m2)
/-- a set without an end -/
theorem setG_open : ∀ (n : Nat) (first : Bool) (acc : UInt8 → Bool) (l : List UInt8), l.length ≤ n → (∀ x ∈ (if first then l.drop 1 else l), x ≠ 93) → setG first acc l = none := by
  intro n
  induction n with
  | zero =>
    intro first acc l hl h
    rw [List.eq_nil_of_length_eq_zero (Nat.le_zero.1 hl), setG_nil]
  | succ n ih =>
    intro first acc l hl h
    cases l with
    | nil => exact setG_nil _ _
    | cons c m =>
      have ht : ∀ x ∈ m, x ≠ 93 := fun x hx => by
        cases first with
        | true => exact h x (by simpa using hx)
        | false => exact h x (List.mem_cons_of_mem _ hx)
      have hn : ¬(first = false ∧ c = 93) := by
        rintro ⟨rfl, rfl⟩
        exact h 93 (List.mem_cons_self ..) rfl
      rw [List.length_cons] at hl
      rcases rng_cases m with ⟨e, m2, rfl⟩ | hm
      · rw [setG_range _ _ hn (ht e (by simp))]
        refine ih false _ m2 (by simp only [List.length_cons] at hl; omega) (fun x hx => ht x ?_)
        have : x ∈ m2 := by simpa using hx
        simp [this]
      · rw [setG_one _ _ hn fun e r2 he => absurd he (hm e r2)]
        exact ih false _ m (by omega) (fun x hx => ht x (by simpa using hx))
/-- where the search for a set's end begins -/
def behL (s : List UInt8) : Nat := min ((if notS (s.drop 1) then 2 else 1) + 1) s.length
/-- a set's size; none: it has no end -/
def szL (s : List UInt8) : Nat := if hasB 93 (s.drop (behL s)) then behL s + pos 93 (s.drop (behL s)) + 1 else 0
/-- what is between the brackets of a set -/
def innL (q : List UInt8) : List UInt8 := (q.take (q.length - 1)).drop 1
/-- the bytes that a set matches, by what is between its brackets -/
def setT (i : List UInt8) : UInt8 → Bool := fun x => notS i != setM (fun _ => false) (if notS i then i.drop 1 else i) x
theorem szL_le (s : List UInt8) : szL s ≤ s.length := by
  unfold szL
  split
  · rename_i h
    rw [hasB_pos, decide_eq_true_eq, List.length_drop] at h
    omega
  · exact Nat.zero_le _
theorem has_none {l : List UInt8} {c : UInt8} (h : hasB c l = false) : ∀ x ∈ l, x ≠ c := fun x hx e => by
  unfold hasB at h
  rw [List.any_eq_false] at h
  exact h x hx (by simpa using e)
theorem pos_split {l : List UInt8} {c : UInt8} (h : hasB c l = true) : l = l.take (pos c l) ++ c :: l.drop (pos c l + 1) ∧ ∀ x ∈ l.take (pos c l), x ≠ c := by
  rw [hasB_pos, decide_eq_true_eq] at h
  refine ⟨?_, has_none (hasB_take c l _ (Nat.le_refl _))⟩
  have := pos_get c l h
  conv => lhs; rw [← List.take_append_drop (pos c l) l, List.drop_eq_getElem_cons h, this]
theorem notS_app {m t : List UInt8} (h : m ≠ []) : notS (m ++ t) = notS m := by
  cases m with
  | nil => exact absurd rfl h
  | cons a m => rfl
/-- the reference's set is the program's -/
theorem setP_sz (r : List UInt8) : setP r = if szL (91 :: r) = 0 then none else some (setT (innL ((91 :: r).take (szL (91 :: r)))), (91 :: r).drop (szL (91 :: r))) := by
  rw [setP_eq]
  have hb : behL (91 :: r) = min ((if notS r then 2 else 1) + 1) (r.length + 1) := rfl
  unfold szL
  -- what is searched
  obtain ⟨f, hf⟩ : ∃ f, f = if notS r then 2 else 1 := ⟨_, rfl⟩
  have hdd : (if notS r then r.drop 1 else r) = r.drop (f - 1) := by
    rw [hf]; split <;> simp
  have hf1 : 1 ≤ f := by rw [hf]; split <;> omega
  rw [← hf] at hb
  rw [hdd]
  have hs : (91 :: r).drop (behL (91 :: r)) = (r.drop (f - 1)).drop 1 := by
    rw [hb, List.drop_drop]
    by_cases h : f ≤ r.length
    · rw [Nat.min_eq_left (by omega), List.drop_succ_cons]; congr 1; omega
    · rw [Nat.min_eq_right (by omega), List.drop_eq_nil_of_le (by rw [List.length_cons]; omega), List.drop_eq_nil_of_le (by omega)]
  rw [hs]
  rcases hh : hasB 93 ((r.drop (f - 1)).drop 1) with _ | _
  · simp only [Bool.false_eq_true, if_false, if_true]
    rw [setG_open _ true _ _ (Nat.le_refl _) (by rw [if_pos rfl]; exact has_none hh)]; rfl
  · simp only [if_true]
    rw [if_neg (by omega)]
    obtain ⟨hp, hne⟩ := pos_split hh
    have hpl : pos 93 ((r.drop (f - 1)).drop 1) < ((r.drop (f - 1)).drop 1).length := by rwa [hasB_pos, decide_eq_true_eq] at hh
    generalize hk : pos 93 ((r.drop (f - 1)).drop 1) = k at hp hne hpl ⊢
    rw [List.length_drop, List.length_drop] at hpl
    have hfr : f ≤ r.length := by omega
    have hbe : behL (91 :: r) = f + 1 := by rw [hb, Nat.min_eq_left (by omega)]
    rw [hbe]
    -- r from f - 1 on: the first member, the others, the end, the rest
    have hm : r.drop (f - 1) = (r.drop (f - 1)).take (k + 1) ++ 93 :: r.drop (f + k + 1) := by
      have e1 : r.drop (f - 1) = r[f - 1]'(by omega) :: (r.drop (f - 1)).drop 1 := by
        rw [List.drop_eq_getElem_cons (by omega), List.drop_succ_cons, List.drop_zero]
      conv => lhs; rw [e1, hp]
      conv => rhs; rw [e1, List.take_succ_cons]
      rw [List.cons_append, List.drop_drop, List.drop_drop]
      congr 4; omega
    generalize hM : (r.drop (f - 1)).take (k + 1) = M at hm
    have hMl : M.length = k + 1 := by rw [← hM, List.length_take, List.length_drop]; omega
    have hMne : M ≠ [] := fun h => by rw [h] at hMl; cases hMl
    have hM1 : ∀ x ∈ M.drop 1, x ≠ 93 := fun x hx => by
      refine hne x ?_
      rw [← hM, List.drop_take] at hx
      exact hx
    rw [hm, setG_shut _ true M _ _ (Nat.le_refl _) (fun _ => hMne) (by rw [if_pos rfl]; exact hM1), Option.map_some]
    -- what is between the brackets
    have hin : innL ((91 :: r).take (f + 1 + k + 1)) = r.take (f + k) := by
      unfold innL
      rw [List.length_take, List.length_cons, Nat.min_eq_left (by omega), List.take_take, Nat.min_eq_left (by omega), show f + 1 + k + 1 - 1 = f + k + 1 by omega, List.take_succ_cons, List.drop_succ_cons, List.drop_zero]
    rw [hin]
    have hnr : notS (r.take (f + k)) = notS r := by
      cases r with
      | nil => rw [List.take_nil]
      | cons a r => rw [show f + k = (f + k - 1) + 1 by omega, List.take_succ_cons]; rfl
    have hMi : (if notS (r.take (f + k)) then (r.take (f + k)).drop 1 else r.take (f + k)) = M := by
      rw [hnr, ← hM]
      cases hn : notS r with
      | true =>
        rw [hn, if_pos rfl] at hf
        rw [if_pos rfl, hf, List.drop_take]; congr 1; omega
      | false =>
        rw [hn, if_neg (by decide)] at hf
        rw [if_neg (by decide), hf, Nat.sub_self, List.drop_zero]; congr 1; omega
    have hdr : (91 :: r).drop (f + 1 + k + 1) = r.drop (f + k + 1) := by
      rw [show f + 1 + k + 1 = (f + k + 1) + 1 by omega, List.drop_succ_cons]
    rw [hdr]
    congr 2
    funext x
    unfold setT
    rw [hMi, hnr]
/-- a part's pieces; none: a set has no end -/
def pieceN (l : List UInt8) : Nat := if l.head? = some 91 then szL l else 1
theorem pieceN_le (l : List UInt8) (h : l ≠ []) : pieceN l ≤ l.length := by
  unfold pieceN
  split
  · exact szL_le l
  · exact List.length_pos_iff.2 h
def pieceL : Nat → List UInt8 → Option (List (List UInt8))
  | 0, _ => some []
  | n + 1, l => if l = [] then some [] else if pieceN l = 0 then none else (pieceL n (l.drop (pieceN l))).map fun ps => l.take (pieceN l) :: ps
/-- what a piece matches -/
def pieceT (q : List UInt8) : Tok := if 1 < q.length then (false, setT (innL q)) else if q.head? = some 42 then (true, span 42 42) else if q.head? = some 63 then (false, fun _ => true) else (false, span (q.headD 0) (q.headD 0))
theorem szL_big {l : List UInt8} (h : szL l ≠ 0) : 1 < szL l := by
  unfold szL at h ⊢
  split at h
  · rename_i hh
    rw [if_pos hh]
    rw [hasB_pos, decide_eq_true_eq, List.length_drop] at hh
    have : 1 ≤ behL l := by
      unfold behL at hh ⊢
      split <;> omega
    omega
  · exact absurd rfl h
/-- the signs that the reference reads are the program's pieces -/
theorem tokL_pieces : ∀ (n : Nat) (l : List UInt8), l.length ≤ n → tokL l = (pieceL n l).map (List.map pieceT) := by
  intro n
  induction n with
  | zero =>
    intro l hl
    rw [List.eq_nil_of_length_eq_zero (Nat.le_zero.1 hl), tokL_nil]; rfl
  | succ n ih =>
    intro l hl
    rw [pieceL]
    cases l with
    | nil => rw [if_pos rfl, tokL_nil]; rfl
    | cons c r =>
      rw [if_neg (by simp)]
      rw [List.length_cons] at hl
      by_cases h : c = 91
      · subst h
        have hN : pieceN (91 :: r) = szL (91 :: r) := if_pos rfl
        have hP := setP_sz r
        rw [hN]
        by_cases hz : szL (91 :: r) = 0
        · rw [if_pos hz] at hP ⊢
          rw [tokL_none r hP]; rfl
        · rw [if_neg hz] at hP ⊢
          have hb := szL_big hz
          have hle := szL_le (91 :: r)
          rw [tokL_set _ _ _ hP, ih _ (by rw [List.length_drop, List.length_cons]; omega), Option.map_map, Option.map_map]
          congr 1
          funext ps
          show _ = pieceT _ :: _
          congr 1
          unfold pieceT
          rw [if_pos]
          rw [List.length_take]; omega
      · have hN : pieceN (c :: r) = 1 := if_neg (by simpa using h)
        rw [hN, if_neg (by decide), tokL_other c r h, List.drop_succ_cons, List.drop_zero, ih r (by omega), Option.map_map, Option.map_map]
        have e1 : pieceT [c] = (if c = 42 then (true, span 42 42) else if c = 63 then (false, fun _ => true) else (false, span c c)) := by
          unfold pieceT
          rw [if_neg (by simp)]
          simp only [List.head?_cons, Option.some.injEq, List.headD_cons]
        rw [← e1]
        rfl
/-- a part's pieces; none: a set has no end -/
def pieceF (l : List UInt8) : Option (List (List UInt8)) := pieceL l.length l
theorem pieceN_pos {l : List UInt8} (h : pieceN l ≠ 0) : 1 ≤ pieceN l := by omega
theorem pieceL_fuel : ∀ (n : Nat) (l : List UInt8), l.length ≤ n → pieceL n l = pieceF l := by
  intro n
  induction n using Nat.strongRecOn with
  | _ n ih =>
    intro l hl
    unfold pieceF
    cases l with
    | nil => cases n <;> simp [pieceL]
    | cons c r =>
      rw [List.length_cons] at hl ⊢
      cases n with
      | zero => omega
      | succ n =>
        have e : ∀ k, pieceL (k + 1) (c :: r) = if pieceN (c :: r) = 0 then none else (pieceL k ((c :: r).drop (pieceN (c :: r)))).map fun ps => (c :: r).take (pieceN (c :: r)) :: ps := fun k => by
          rw [pieceL, if_neg (by simp)]
        rw [e, e]
        by_cases h : pieceN (c :: r) = 0
        · rw [if_pos h, if_pos h]
        · rw [if_neg h, if_neg h]
          have hd : ((c :: r).drop (pieceN (c :: r))).length ≤ r.length := by rw [List.length_drop, List.length_cons]; omega
          rw [ih n (by omega) _ (by omega), ih r.length (by omega) _ hd]
theorem pieceF_nil : pieceF [] = some [] := rfl
theorem pieceF_step {l : List UInt8} (hl : l ≠ []) : pieceF l = if pieceN l = 0 then none else (pieceF (l.drop (pieceN l))).map fun ps => l.take (pieceN l) :: ps := by
  cases l with
  | nil => exact absurd rfl hl
  | cons c r =>
    conv => lhs; unfold pieceF
    rw [List.length_cons, pieceL, if_neg (by simp)]
    by_cases h : pieceN (c :: r) = 0
    · rw [if_pos h, if_pos h]
    · rw [if_neg h, if_neg h, pieceL_fuel r.length _ (by rw [List.length_drop, List.length_cons]; omega)]
theorem tokL_pieceF (l : List UInt8) : tokL l = (pieceF l).map (List.map pieceT) := tokL_pieces l.length l (Nat.le_refl _)
theorem pieceF_none (l : List UInt8) : (tokL l).isSome = (pieceF l).isSome := by rw [tokL_pieceF]; cases pieceF l <;> rfl
/-- every piece has a byte, and no more than the part -/
theorem pieceF_mem : ∀ (n : Nat) (l : List UInt8) (ps : List (List UInt8)), l.length ≤ n → pieceF l = some ps → ps.length ≤ l.length ∧ ∀ p ∈ ps, 1 ≤ p.length ∧ p.length ≤ l.length := by
  intro n
  induction n with
  | zero =>
    intro l ps hl h
    rw [List.eq_nil_of_length_eq_zero (Nat.le_zero.1 hl), pieceF_nil] at h
    injection h with h; subst h
    exact ⟨Nat.zero_le _, fun p hp => by cases hp⟩
  | succ n ih =>
    intro l ps hl h
    by_cases hn : l = []
    · rw [hn, pieceF_nil] at h
      injection h with h; subst h
      exact ⟨Nat.zero_le _, fun p hp => by cases hp⟩
    · rw [pieceF_step hn] at h
      by_cases hz : pieceN l = 0
      · rw [if_pos hz] at h; cases h
      · rw [if_neg hz] at h
        obtain ⟨qs, hq, rfl⟩ := Option.map_eq_some_iff.1 h
        have hle := pieceN_le l hn
        have hll : (l.drop (pieceN l)).length = l.length - pieceN l := List.length_drop ..
        obtain ⟨h1, h2⟩ := ih _ qs (by omega) hq
        refine ⟨by rw [List.length_cons]; omega, fun p hp => ?_⟩
        rcases List.mem_cons.1 hp with rfl | hp
        · rw [List.length_take]; omega
        · have := h2 p hp; omega
end Go.Proofs.YtilmfnlhpnbngaaGreatDoor
