/- Texts of one kind, in one file: GlqM, GlqA, GlqB, GlqS. -/
import Derived.Test.YtoikpnjnljdpaaaGreatDoorGla
import Derived.Test.YtoikpnjnljdpaaaGreatDoorMth
import Derived.Test.YtoikpnjnljdpaaaGreatDoorPth
import Derived.Shelf.Abstract
import Derived.BigQuiet
/- Plain mathematics of the program's patterns: a set's size and its members, a part's pieces; they are the signs that the reference reads. Nothing of the program. -/
set_option linter.unusedVariables false
namespace Go.Proofs.YtoikpnjnljdpaaaGreatDoor
open Go.RowKit
/-- a set's members, by themselves -/
def setM (acc : UInt8 → Bool) : List UInt8 → (UInt8 → Bool)
  | [] => acc
  | [c] => fun x => acc x || span c c x
  | [c, d] => setM (fun x => acc x || span c c x) [d]
  | c :: d :: h :: r => if d = 45 then setM (fun x => acc x || span c h x) r else setM (fun x => acc x || span c c x) (d :: h :: r)
termination_by l => l.length
theorem setM_nil (acc : UInt8 → Bool) : setM acc [] = acc := by rw [setM]
theorem setM_one (acc : UInt8 → Bool) (c : UInt8) (r : List UInt8) (h : ∀ h2 r2, r ≠ 45 :: h2 :: r2) : setM acc (c :: r) = setM (fun x => acc x || span c c x) r := by
  match r, h with
  | [], _ => rw [setM, setM]
  | [d], _ => conv => lhs; rw [setM]
  | d :: e :: r, h => rw [setM, if_neg]; rintro rfl; exact h e r rfl
theorem setM_rng (acc : UInt8 → Bool) (c e : UInt8) (r : List UInt8) : setM acc (c :: 45 :: e :: r) = setM (fun x => acc x || span c e x) r := by
  rw [setM, if_pos rfl]
/-- a list begins as a span goes on -/
theorem rng_cases (r : List UInt8) : (∃ e r2, r = 45 :: e :: r2) ∨ ∀ e r2, r ≠ 45 :: e :: r2 := by
  by_cases h : ∃ e r2, r = 45 :: e :: r2
  · exact .inl h
  · exact .inr fun e r2 he => h ⟨e, r2, he⟩
/-- a set with its end -/
theorem setG_shut : ∀ (n : Nat) (first : Bool) (m : List UInt8) (acc : UInt8 → Bool) (r : List UInt8), m.length ≤ n → (first = true → m ≠ []) → (∀ x ∈ (if first then m.drop 1 else m), x ≠ 93) → setG first acc (m ++ 93 :: r) = some (setM acc m, r) := by
  intro n
  induction n with
  | zero =>
    intro first m acc r hl h1 h2
    obtain rfl := List.eq_nil_of_length_eq_zero (Nat.le_zero.1 hl)
    cases first with
    | true => exact absurd rfl (h1 rfl)
    | false => rw [List.nil_append, setG_end, setM_nil]
  | succ n ih =>
    intro first m acc r hl h1 h2
    cases m with
    | nil =>
      cases first with
      | true => exact absurd rfl (h1 rfl)
      | false => rw [List.nil_append, setG_end, setM_nil]
    | cons c m =>
      have ht : ∀ x ∈ m, x ≠ 93 := fun x hx => by
        cases first with
        | true => exact h2 x (by simpa using hx)
        | false => exact h2 x (List.mem_cons_of_mem _ hx)
      have hn : ¬(first = false ∧ c = 93) := by
        rintro ⟨rfl, rfl⟩
        exact h2 93 (List.mem_cons_self ..) rfl
      rw [List.length_cons] at hl
      rw [List.cons_append]
      rcases rng_cases m with ⟨e, m2, rfl⟩ | hm
      · rw [List.cons_append, List.cons_append, setG_range _ _ hn (ht e (by simp)), setM_rng]
        refine ih false m2 _ r (by simp only [List.length_cons] at hl; omega) (fun h => by cases h) (fun x hx => ht x ?_)
        have : x ∈ m2 := by simpa using hx
        simp [this]
      · rw [setG_one _ _ hn, setM_one _ _ _ hm]
        · exact ih false m _ r (by omega) (fun h => by cases h) (fun x hx => ht x (by simpa using hx))
        · intro e r2 he
          match m, hm, he with
          | [], _, he => cases he
          | [d], _, he => simp at he; exact he.2.1.symm
          | d :: d2 :: m2, hm, he =>
            simp at he
            exact absurd (by rw [he.1]) (hm d2 m2)
/-- a set without an end -/
theorem setG_open : ∀ (n : Nat) (first : Bool) (acc : UInt8 → Bool) (l : List UInt8), l.length ≤ n → (∀ x ∈ (if first then l.drop 1 else l), x ≠ 93) → setG first acc l = none := by
  intro n
  induction n with
  | zero =>
    intro first acc l hl h
    rw [List.eq_nil_of_length_eq_zero (Nat.le_zero.1 hl), setG_nil]
  | succ n ih =>
    intro first acc l hl h
    cases l with
    | nil => exact setG_nil _ _
    | cons c m =>
      have ht : ∀ x ∈ m, x ≠ 93 := fun x hx => by
        cases first with
        | true => exact h x (by simpa using hx)
        | false => exact h x (List.mem_cons_of_mem _ hx)
      have hn : ¬(first = false ∧ c = 93) := by
        rintro ⟨rfl, rfl⟩
        exact h 93 (List.mem_cons_self ..) rfl
      rw [List.length_cons] at hl
      rcases rng_cases m with ⟨e, m2, rfl⟩ | hm
      · rw [setG_range _ _ hn (ht e (by simp))]
        refine ih false _ m2 (by simp only [List.length_cons] at hl; omega) (fun x hx => ht x ?_)
        have : x ∈ m2 := by simpa using hx
        simp [this]
      · rw [setG_one _ _ hn fun e r2 he => absurd he (hm e r2)]
        exact ih false _ m (by omega) (fun x hx => ht x (by simpa using hx))
/-- where the search for a set's end begins -/
def behL (s : List UInt8) : Nat := min ((if notS (s.drop 1) then 2 else 1) + 1) s.length
/-- a set's size; none: it has no end -/
def szL (s : List UInt8) : Nat := if hasB 93 (s.drop (behL s)) then behL s + pos 93 (s.drop (behL s)) + 1 else 0
/-- what is between the brackets of a set -/
def innL (q : List UInt8) : List UInt8 := (q.take (q.length - 1)).drop 1
/-- the bytes that a set matches, by what is between its brackets -/
def setT (i : List UInt8) : UInt8 → Bool := fun x => notS i != setM (fun _ => false) (if notS i then i.drop 1 else i) x
theorem szL_le (s : List UInt8) : szL s ≤ s.length := by
  unfold szL
  split
  · rename_i h
    rw [hasB_pos, decide_eq_true_eq, List.length_drop] at h
    omega
  · exact Nat.zero_le _
theorem has_none {l : List UInt8} {c : UInt8} (h : hasB c l = false) : ∀ x ∈ l, x ≠ c := fun x hx e => by
  unfold hasB at h
  rw [List.any_eq_false] at h
  exact h x hx (by simpa using e)
theorem pos_split {l : List UInt8} {c : UInt8} (h : hasB c l = true) : l = l.take (pos c l) ++ c :: l.drop (pos c l + 1) ∧ ∀ x ∈ l.take (pos c l), x ≠ c := by
  rw [hasB_pos, decide_eq_true_eq] at h
  refine ⟨?_, has_none (hasB_take c l _ (Nat.le_refl _))⟩
  have := pos_get c l h
  conv => lhs; rw [← List.take_append_drop (pos c l) l, List.drop_eq_getElem_cons h, this]
theorem notS_app {m t : List UInt8} (h : m ≠ []) : notS (m ++ t) = notS m := by
  cases m with
  | nil => exact absurd rfl h
  | cons a m => rfl
/-- the reference's set is the program's -/
theorem setP_sz (r : List UInt8) : setP r = if szL (91 :: r) = 0 then none else some (setT (innL ((91 :: r).take (szL (91 :: r)))), (91 :: r).drop (szL (91 :: r))) := by
  rw [setP_eq]
  have hb : behL (91 :: r) = min ((if notS r then 2 else 1) + 1) (r.length + 1) := rfl
  unfold szL
  -- what is searched
  obtain ⟨f, hf⟩ : ∃ f, f = if notS r then 2 else 1 := ⟨_, rfl⟩
  have hdd : (if notS r then r.drop 1 else r) = r.drop (f - 1) := by
    rw [hf]; split <;> simp
  have hf1 : 1 ≤ f := by rw [hf]; split <;> omega
  rw [← hf] at hb
  rw [hdd]
  have hs : (91 :: r).drop (behL (91 :: r)) = (r.drop (f - 1)).drop 1 := by
    rw [hb, List.drop_drop]
    by_cases h : f ≤ r.length
    · rw [Nat.min_eq_left (by omega), List.drop_succ_cons]; congr 1; omega
    · rw [Nat.min_eq_right (by omega), List.drop_eq_nil_of_le (by rw [List.length_cons]; omega), List.drop_eq_nil_of_le (by omega)]
  rw [hs]
  rcases hh : hasB 93 ((r.drop (f - 1)).drop 1) with _ | _
  · simp only [Bool.false_eq_true, if_false, if_true]
    rw [setG_open _ true _ _ (Nat.le_refl _) (by rw [if_pos rfl]; exact has_none hh)]; rfl
  · simp only [if_true]
    rw [if_neg (by omega)]
    obtain ⟨hp, hne⟩ := pos_split hh
    have hpl : pos 93 ((r.drop (f - 1)).drop 1) < ((r.drop (f - 1)).drop 1).length := by rwa [hasB_pos, decide_eq_true_eq] at hh
    generalize hk : pos 93 ((r.drop (f - 1)).drop 1) = k at hp hne hpl ⊢
    rw [List.length_drop, List.length_drop] at hpl
    have hfr : f ≤ r.length := by omega
    have hbe : behL (91 :: r) = f + 1 := by rw [hb, Nat.min_eq_left (by omega)]
    rw [hbe]
    -- r from f - 1 on: the first member, the others, the end, the rest
    have hm : r.drop (f - 1) = (r.drop (f - 1)).take (k + 1) ++ 93 :: r.drop (f + k + 1) := by
      have e1 : r.drop (f - 1) = r[f - 1]'(by omega) :: (r.drop (f - 1)).drop 1 := by
        rw [List.drop_eq_getElem_cons (by omega), List.drop_succ_cons, List.drop_zero]
      conv => lhs; rw [e1, hp]
      conv => rhs; rw [e1, List.take_succ_cons]
      rw [List.cons_append, List.drop_drop, List.drop_drop]
      congr 4; omega
    generalize hM : (r.drop (f - 1)).take (k + 1) = M at hm
    have hMl : M.length = k + 1 := by rw [← hM, List.length_take, List.length_drop]; omega
    have hMne : M ≠ [] := fun h => by rw [h] at hMl; cases hMl
    have hM1 : ∀ x ∈ M.drop 1, x ≠ 93 := fun x hx => by
      refine hne x ?_
      rw [← hM, List.drop_take] at hx
      exact hx
    rw [hm, setG_shut _ true M _ _ (Nat.le_refl _) (fun _ => hMne) (by rw [if_pos rfl]; exact hM1), Option.map_some]
    -- what is between the brackets
    have hin : innL ((91 :: r).take (f + 1 + k + 1)) = r.take (f + k) := by
      unfold innL
      rw [List.length_take, List.length_cons, Nat.min_eq_left (by omega), List.take_take, Nat.min_eq_left (by omega), show f + 1 + k + 1 - 1 = f + k + 1 by omega, List.take_succ_cons, List.drop_succ_cons, List.drop_zero]
    rw [hin]
    have hnr : notS (r.take (f + k)) = notS r := by
      cases r with
      | nil => rw [List.take_nil]
      | cons a r => rw [show f + k = (f + k - 1) + 1 by omega, List.take_succ_cons]; rfl
    have hMi : (if notS (r.take (f + k)) then (r.take (f + k)).drop 1 else r.take (f + k)) = M := by
      rw [hnr, ← hM]
      cases hn : notS r with
      | true =>
        rw [hn, if_pos rfl] at hf
        rw [if_pos rfl, hf, List.drop_take]; congr 1; omega
      | false =>
        rw [hn, if_neg (by decide)] at hf
        rw [if_neg (by decide), hf, Nat.sub_self, List.drop_zero]; congr 1; omega
    have hdr : (91 :: r).drop (f + 1 + k + 1) = r.drop (f + k + 1) := by
      rw [show f + 1 + k + 1 = (f + k + 1) + 1 by omega, List.drop_succ_cons]
    rw [hdr]
    congr 2
    funext x
    unfold setT
    rw [hMi, hnr]
/-- a part's pieces; none: a set has no end -/
def pieceN (l : List UInt8) : Nat := if l.head? = some 91 then szL l else 1
theorem pieceN_le (l : List UInt8) (h : l ≠ []) : pieceN l ≤ l.length := by
  unfold pieceN
  split
  · exact szL_le l
  · exact List.length_pos_iff.2 h
def pieceL : Nat → List UInt8 → Option (List (List UInt8))
  | 0, _ => some []
  | n + 1, l => if l = [] then some [] else if pieceN l = 0 then none else (pieceL n (l.drop (pieceN l))).map fun ps => l.take (pieceN l) :: ps
/-- what a piece matches -/
def pieceT (q : List UInt8) : Tok := if 1 < q.length then (false, setT (innL q)) else if q.head? = some 42 then (true, span 42 42) else if q.head? = some 63 then (false, fun _ => true) else (false, span (q.headD 0) (q.headD 0))
theorem szL_big {l : List UInt8} (h : szL l ≠ 0) : 1 < szL l := by
  unfold szL at h ⊢
  split at h
  · rename_i hh
    rw [if_pos hh]
    rw [hasB_pos, decide_eq_true_eq, List.length_drop] at hh
    have : 1 ≤ behL l := by
      unfold behL at hh ⊢
      split <;> omega
    omega
  · exact absurd rfl h
/-- the signs that the reference reads are the program's pieces -/
theorem tokL_pieces : ∀ (n : Nat) (l : List UInt8), l.length ≤ n → tokL l = (pieceL n l).map (List.map pieceT) := by
  intro n
  induction n with
  | zero =>
    intro l hl
    rw [List.eq_nil_of_length_eq_zero (Nat.le_zero.1 hl), tokL_nil]; rfl
  | succ n ih =>
    intro l hl
    rw [pieceL]
    cases l with
    | nil => rw [if_pos rfl, tokL_nil]; rfl
    | cons c r =>
      rw [if_neg (by simp)]
      rw [List.length_cons] at hl
      by_cases h : c = 91
      · subst h
        have hN : pieceN (91 :: r) = szL (91 :: r) := if_pos rfl
        have hP := setP_sz r
        rw [hN]
        by_cases hz : szL (91 :: r) = 0
        · rw [if_pos hz] at hP ⊢
          rw [tokL_none r hP]; rfl
        · rw [if_neg hz] at hP ⊢
          have hb := szL_big hz
          have hle := szL_le (91 :: r)
          rw [tokL_set _ _ _ hP, ih _ (by rw [List.length_drop, List.length_cons]; omega), Option.map_map, Option.map_map]
          congr 1
          funext ps
          show _ = pieceT _ :: _
          congr 1
          unfold pieceT
          rw [if_pos]
          rw [List.length_take]; omega
      · have hN : pieceN (c :: r) = 1 := if_neg (by simpa using h)
        rw [hN, if_neg (by decide), tokL_other c r h, List.drop_succ_cons, List.drop_zero, ih r (by omega), Option.map_map, Option.map_map]
        have e1 : pieceT [c] = (if c = 42 then (true, span 42 42) else if c = 63 then (false, fun _ => true) else (false, span c c)) := by
          unfold pieceT
          rw [if_neg (by simp)]
          simp only [List.head?_cons, Option.some.injEq, List.headD_cons]
        rw [← e1]
        rfl
/-- a part's pieces; none: a set has no end -/
def pieceF (l : List UInt8) : Option (List (List UInt8)) := pieceL l.length l
theorem pieceN_pos {l : List UInt8} (h : pieceN l ≠ 0) : 1 ≤ pieceN l := by omega
theorem pieceL_fuel : ∀ (n : Nat) (l : List UInt8), l.length ≤ n → pieceL n l = pieceF l := by
  intro n
  induction n using Nat.strongRecOn with
  | _ n ih =>
    intro l hl
    unfold pieceF
    cases l with
    | nil => cases n <;> simp [pieceL]
    | cons c r =>
      rw [List.length_cons] at hl ⊢
      cases n with
      | zero => omega
      | succ n =>
        have e : ∀ k, pieceL (k + 1) (c :: r) = if pieceN (c :: r) = 0 then none else (pieceL k ((c :: r).drop (pieceN (c :: r)))).map fun ps => (c :: r).take (pieceN (c :: r)) :: ps := fun k => by
          rw [pieceL, if_neg (by simp)]
        rw [e, e]
        by_cases h : pieceN (c :: r) = 0
        · rw [if_pos h, if_pos h]
        · rw [if_neg h, if_neg h]
          have hd : ((c :: r).drop (pieceN (c :: r))).length ≤ r.length := by rw [List.length_drop, List.length_cons]; omega
          rw [ih n (by omega) _ (by omega), ih r.length (by omega) _ hd]
theorem pieceF_nil : pieceF [] = some [] := rfl
theorem pieceF_step {l : List UInt8} (hl : l ≠ []) : pieceF l = if pieceN l = 0 then none else (pieceF (l.drop (pieceN l))).map fun ps => l.take (pieceN l) :: ps := by
  cases l with
  | nil => exact absurd rfl hl
  | cons c r =>
    conv => lhs; unfold pieceF
    rw [List.length_cons, pieceL, if_neg (by simp)]
    by_cases h : pieceN (c :: r) = 0
    · rw [if_pos h, if_pos h]
    · rw [if_neg h, if_neg h, pieceL_fuel r.length _ (by rw [List.length_drop, List.length_cons]; omega)]
theorem tokL_pieceF (l : List UInt8) : tokL l = (pieceF l).map (List.map pieceT) := tokL_pieces l.length l (Nat.le_refl _)
theorem pieceF_none (l : List UInt8) : (tokL l).isSome = (pieceF l).isSome := by rw [tokL_pieceF]; cases pieceF l <;> rfl
/-- every piece has a byte, and no more than the part -/
theorem pieceF_mem : ∀ (n : Nat) (l : List UInt8) (ps : List (List UInt8)), l.length ≤ n → pieceF l = some ps → ps.length ≤ l.length ∧ ∀ p ∈ ps, 1 ≤ p.length ∧ p.length ≤ l.length := by
  intro n
  induction n with
  | zero =>
    intro l ps hl h
    rw [List.eq_nil_of_length_eq_zero (Nat.le_zero.1 hl), pieceF_nil] at h
    injection h with h; subst h
    exact ⟨Nat.zero_le _, fun p hp => by cases hp⟩
  | succ n ih =>
    intro l ps hl h
    by_cases hn : l = []
    · rw [hn, pieceF_nil] at h
      injection h with h; subst h
      exact ⟨Nat.zero_le _, fun p hp => by cases hp⟩
    · rw [pieceF_step hn] at h
      by_cases hz : pieceN l = 0
      · rw [if_pos hz] at h; cases h
      · rw [if_neg hz] at h
        obtain ⟨qs, hq, rfl⟩ := Option.map_eq_some_iff.1 h
        have hle := pieceN_le l hn
        have hll : (l.drop (pieceN l)).length = l.length - pieceN l := List.length_drop ..
        obtain ⟨h1, h2⟩ := ih _ qs (by omega) hq
        refine ⟨by rw [List.length_cons]; omega, fun p hp => ?_⟩
        rcases List.mem_cons.1 hp with rfl | hp
        · rw [List.length_take]; omega
        · have := h2 p hp; omega
end Go.Proofs.YtoikpnjnljdpaaaGreatDoor
/- Function values of the program's patterns: what a sign's function does with the places in a list. Nothing of the program but its types. -/
set_option linter.unusedVariables false
set_option maxRecDepth 100000
namespace Go.Proofs.YtoikpnjnljdpaaaGreatDoor
open Go.RowKit
open Go.OpenShut
/-- a row of places under way: k truths, the others false -/
def frontR (R : Nat → Nat → Bool) (i m k : Nat) : List Bool := (List.range k).map (R i) ++ List.replicate (m + 1 - k) false
theorem frontR_len (R : Nat → Nat → Bool) (i m k : Nat) (hk : k ≤ m + 1) : (frontR R i m k).length = m + 1 := by unfold frontR; simp; omega
theorem frontR_zero (R : Nat → Nat → Bool) (i m : Nat) : frontR R i m 0 = List.replicate (m + 1) false := by unfold frontR; simp
theorem frontR_end (R : Nat → Nat → Bool) (i m : Nat) : frontR R i m (m + 1) = rowR R i m := by unfold frontR rowR; simp
theorem frontR_set (R : Nat → Nat → Bool) (i m k : Nat) (hk : k < m + 1) : (frontR R i m k).set k (R i k) = frontR R i m (k + 1) := by
  unfold frontR
  rw [List.set_append_right _ _ (by simp)]
  simp only [List.length_map, List.length_range, Nat.sub_self]
  obtain ⟨q, hq⟩ : ∃ q, m + 1 - k = q + 1 := ⟨m - k, by omega⟩
  rw [hq, List.replicate_succ, List.set_cons_zero, show m + 1 - (k + 1) = q by omega, List.range_succ, List.map_append]
  simp
theorem frontR_one (R : Nat → Nat → Bool) (i m : Nat) (h : R i 0 = false) : frontR R i m 0 = frontR R i m 1 := by
  rw [← frontR_set R i m 0 (by omega), h, frontR_zero, List.replicate_succ, List.set_cons_zero]
theorem front_cell (R : Nat → Nat → Bool) (i m k j : Nat) (hk : k ≤ m + 1) (hj : j < m + 1) : ∃ b, (bA (frontR R i m k))[j]? = some (.bool b) := by
  have hl := frontR_len R i m k hk
  refine ⟨(frontR R i m k)[j]'(by omega), ?_⟩
  rw [bA_get, List.getElem?_eq_getElem (by omega)]; rfl
theorem app21 (a b p : Value) : (#[a, b] : Array Value) ++ #[p] = #[a, b, p] := by simp
theorem app11 (a p : Value) : (#[a] : Array Value) ++ #[p] = #[a, p] := by simp
theorem app12 (a p q : Value) : (#[a] : Array Value) ++ #[p, q] = #[a, p, q] := by simp
/-- a function value that enters f with what it holds -/
def FnV (v : Value) (f : Nat) (caps : Array Value) : Prop := v = .func (.func f) #[] caps ∧ ∀ args w, (callFunc f args).run Tryz.prog w = .ok (.enter f args) w
/-- what stays of a world: a frame -/
structure Frame (Fr : World → World → Prop) : Prop where
  bel : ∀ w W, Below w.heap.size w W → Fr w W
  tr : ∀ a b c, Fr a b → Fr b c → Fr a c
/-- all that was there stays -/
def frB (w W : World) : Prop := Below w.heap.size w W
theorem frB_frame : Frame frB := ⟨fun _ _ h => h, fun _ _ _ h h2 => Below.trans h (Below.mono h2 (Below.size h))⟩
section
variable {β : Type} (Fr : World → World → Prop) (enc : β → Value) (lim : β → Prop)
/-- a list in memory -/
def ListAt (W : World) (A : Option Addr) (bs : List β) : Prop := ∀ k (h : k < bs.length), ∃ g, A = some ⟨g, 0, none⟩ ∧ W.cell? ⟨g, k, none⟩ = some (enc bs[k])
theorem ListAt.below {enc : β → Value} {w w' : World} {A : Option Addr} {bs : List β} (h : ListAt enc w A bs) (hb : Below w.heap.size w w') : ListAt enc w' A bs := by
  intro j hj
  obtain ⟨b, e, hc⟩ := h j hj
  refine ⟨b, e, ?_⟩
  have hlt : b < w.heap.size := World.block_lt_of_cell? w _ hc
  rw [← hc]
  unfold World.cell?
  simp only [hb.block b hlt]
/-- a function that tells of a thing whether it fits -/
def FitV (w : World) (v : Value) (fit : β → Bool) : Prop :=
  ∃ f caps, FnV v f caps ∧ ∀ W, Fr w W → ∀ x, lim x → ∀ args, args = #[enc x] ++ caps → Calls Tryz.prog f args W fun e w' => e = .returned (.bool (fit x)) ∧ Below W.heap.size W w'
variable {Fr enc lim}
theorem FitV.mono {w w' : World} {v : Value} {fit : β → Bool} (h : FitV Fr enc lim w v fit) (hF : Frame Fr) (hb : Fr w w') : FitV Fr enc lim w' v fit := by
  obtain ⟨f, caps, hf, h⟩ := h
  exact ⟨f, caps, hf, fun W hW => h W (hF.tr _ _ _ hb hW)⟩
variable (Fr enc lim)
/-- from the places ahead of a sign to those behind it -/
def stepR (star : Bool) (fit : β → Bool) (bs : List β) (R : Nat → Nat → Bool) (i : Nat) : Prop :=
  R (i + 1) 0 = (R i 0 && star) ∧ ∀ k, (h : k < bs.length) → R (i + 1) (k + 1) = if star then R i (k + 1) || R (i + 1) k else R i k && fit bs[k]
/-- a sign's function -/
def StepV (w : World) (v : Value) (star : Bool) (fit : β → Bool) : Prop :=
  ∃ f caps, FnV v f caps ∧ ∀ W, Fr w W → ∀ (bs : List β) (A : Option Addr) (c m m1 gr i : Nat) (R : Nat → Nat → Bool), bs.length = m → m1 = m + 1 → m ≤ 1000 → (∀ x ∈ bs, lim x) → ListAt enc W A bs → Blk W gr 4 (bA (rowR R i m)) → stepR star fit bs R i →
    ∀ args, args = #[.slice A m c, .slice (some ⟨gr, 0, none⟩) m1 m1] ++ caps → Calls Tryz.prog f args W fun e w' => ∃ gn, e = .returned (.slice (some ⟨gn, 0, none⟩) m1 m1) ∧ W.heap.size ≤ gn ∧ Blk w' gn 4 (bA (rowR R (i + 1) m)) ∧ Below W.heap.size W w'
variable {Fr enc lim}
theorem StepV.mono {w w' : World} {v : Value} {star : Bool} {fit : β → Bool} (h : StepV Fr enc lim w v star fit) (hF : Frame Fr) (hb : Fr w w') : StepV Fr enc lim w' v star fit := by
  obtain ⟨f, caps, hf, h⟩ := h
  exact ⟨f, caps, hf, fun W hW => h W (hF.tr _ _ _ hb hW)⟩
end
/-- function values in a row of the call's own -/
def Fns (w : World) (B t : Nat) (v : Value) (fs : List Value) : Prop := w.ownsRow B t 1 v fs.length fs
theorem Fns.below {w w' : World} {B t : Nat} {v : Value} {fs : List Value} (h : Fns w B t v fs) (hb : Below w.heap.size w w') : Fns w' B t v fs :=
  World.ownsRow.kept h (grown_below hb none) (by
    by_cases e : v.ownBlock = none
    · exact .inl e
    · exact .inr e)
theorem Fns.any {w : World} {B t : Nat} {v : Value} {fs : List Value} (h : Fns w B t v fs) : ∃ A cap, v = .slice A fs.length cap ∧ ∀ j (hj : j < fs.length), ∃ g, A = some ⟨g, 0, none⟩ ∧ w.cell? ⟨g, j, none⟩ = some fs[j] := by
  have h' := h
  unfold Fns World.ownsRow at h
  rcases h.2 with ⟨rfl, h0⟩ | ⟨g, cap, cur, rfl, hB, hg, hcap, hm, hs, ht⟩
  · exact ⟨none, 0, by rw [h0], fun j hj => by omega⟩
  · refine ⟨some ⟨g, 0, none⟩, cap, rfl, fun j hj => ⟨g, rfl, ?_⟩⟩
    unfold Fns at h'
    rw [h'.cellAt j (by omega), List.getElem?_eq_getElem hj]
end Go.Proofs.YtoikpnjnljdpaaaGreatDoor
/- Contracts of the program's signs over a list (the functions made by star and one, and the walk over all signs), at byte. -/
set_option linter.unusedVariables false
set_option maxRecDepth 100000
namespace Go.Proofs.YtoikpnjnljdpaaaGreatDoor
open Go.RowKit
open Go.OpenShut
set_option maxHeartbeats 4000000 in
theorem star1B_any {β : Type} (enc : β → Value) (bs : List β) (A : Option Addr) (c m m1 gr i : Nat) (R : Nat → Nat → Bool) (hm : bs.length = m) (hm1 : m1 = m + 1) (hm2 : m ≤ 1000) (fit : β → Bool) (w : World) (hr : Blk w gr 4 (bA (rowR R i m))) (hs : stepR true fit bs R i) :
    Calls Tryz.prog 173 #[.slice A m c, .slice (some ⟨gr, 0, none⟩) m1 m1] w fun e w' => ∃ gn, e = .returned (.slice (some ⟨gn, 0, none⟩) m1 m1) ∧ w.heap.size ≤ gn ∧ Blk w' gn 4 (bA (rowR R (i + 1) m)) ∧ Below w.heap.size w w' := by
  have hmk := made_bools m1 (by omega) w
  obtain ⟨hs0, hs1⟩ := hs
  have HS0 := Lib.hid hs0
  have HS1 := Lib.hid hs1
  have HM := Lib.hid hm
  have HM1 := Lib.hid hm1
  have HR := Lib.hid hr
  have HBa := Lib.hid (belowA (Below.refl w.heap.size w) (.cells (bA (List.replicate m1 false)) 4))
  have HRa := Lib.hid (hr.alloc (.cells (bA (List.replicate m1 false)) 4))
  have HN0 : Hid (Blk (w.alloc (.cells (bA (List.replicate m1 false)) 4)) w.heap.size 4 (bA (frontR R (i + 1) m 0))) := by
    unfold Hid; rw [frontR_zero, ← hm1]; exact Blk.new w 4 _
  clear hs0 hs1 hm hr hm1
  go_enter Tryz.func173, Tryz.ntmps173
  go_upto_region 2 with fail
  have hne0 : gr ≠ w.heap.size := by have := HR.out.lt; omega
  obtain ⟨gn, hgn⟩ : ∃ gn, gn = w.heap.size := ⟨_, rfl⟩
  rw [← hgn] at hne0 HN0 ⊢
  have hgw : w.heap.size ≤ gn := by omega
  generalize w.alloc (.cells (bA (List.replicate m1 false)) 4) = wz at HBa HRa HN0 ⊢
  clear hmk hgn HR
  have hmm : 1 ≤ m1 := by have := HM1.out; omega
  go_wp2_with fail
  go_loopw [6, 14] (fun rv iv wr => ∃ k : Nat, k ≤ m1 ∧ iv = .int .i64 k ∧ rv = .bool (decide (0 < k) && R (i + 1) (k - 1)) ∧ Hid (Blk wr gn 4 (bA (frontR R (i + 1) m k))) ∧ Hid (Blk wr gr 4 (bA (rowR R i m))) ∧ Hid (Below w.heap.size w wr)) (fun _ iv _ => m1 - (intOf iv).toNat)
  case atStart => exact ⟨0, Nat.zero_le _, rfl, rfl, HN0.out, HRa.out, HBa.out⟩
  case round =>
    obtain ⟨k, hk, rfl, rfl, HN, HRk, HB⟩ := hrel
    clear HN0 HRa HBa
    by_cases hlt : k < m1
    · have hkm : k < m + 1 := by have := HM1.out; omega
      have c1 : wr.cell? ⟨gr, k, none⟩ = some (.bool (R i k)) := by rw [HRk.out.cell, bA_get, rowR_get R i m k hkm]; rfl
      obtain ⟨b0, hb0⟩ := front_cell R (i + 1) m k k (by omega) hkm
      have c2 : wr.cell? ⟨gn, k, none⟩ = some (.bool b0) := by rw [HN.out.cell, hb0]
      have f2 := HN.out.frozen k
      have hv : (decide (0 < k) && R (i + 1) (k - 1) || R i k) = R (i + 1) k := by
        cases k with
        | zero => rw [HS0.out]; simp
        | succ k =>
          have := HS1.out k (by have := HM.out; omega)
          simp only [if_true] at this
          rw [this]
          cases R i (k + 1) <;> simp
      have HN1 : Hid (Blk (wr.setCell ⟨gn, k, none⟩ (.bool (R (i + 1) k))) gn 4 (bA (frontR R (i + 1) m (k + 1)))) := by
        have := HN.out.set_ k (.bool (R (i + 1) k))
        rwa [bA_set, frontR_set R (i + 1) m k hkm] at this
      have HR1 := Lib.hid (HRk.out.far (p := ⟨gn, k, none⟩) hne0 (.bool (R (i + 1) k)))
      have HB1 : Hid (Below w.heap.size w (wr.setCell ⟨gn, k, none⟩ (.bool (R (i + 1) k)))) := Below.set1 HB.out hgw k _
      have hnx : R (i + 1) k = (decide (0 < k + 1) && R (i + 1) (k + 1 - 1)) := by simp
      have HX := Lib.hid hnx
      generalize (decide (0 < k) && R (i + 1) (k - 1)) = p at hv ⊢
      rw [← hv] at HN1 HR1 HB1 HX
      clear HN HRk HB hb0 hv hnx
      cases p with
      | true =>
        rw [Bool.true_or] at HN1 HR1 HB1 HX
        go_wp2_with fail
        go_roundw
        case rel => exact ⟨k + 1, by omega, by go_num, by rw [← HX.out], HN1.out, HR1.out, HB1.out⟩
        case measure => simp [intOf]; omega
      | false =>
        rw [Bool.false_or] at HN1 HR1 HB1 HX
        go_wp2_with fail
        go_roundw
        case rel => exact ⟨k + 1, by omega, by go_num, by rw [← HX.out], HN1.out, HR1.out, HB1.out⟩
        case measure => simp [intOf]; omega
    · obtain rfl : k = m1 := by omega
      have h9 := HN.out
      rw [HM1.out, frontR_end] at h9
      have H9 := Lib.hid h9
      clear h9 HN
      go_wp2_with fail
      go_ret
      exact ⟨gn, rfl, hgw, H9.out, HB.out⟩
/-- star gives the sign for any number of things -/
theorem starB_any {β : Type} (Fr : World → World → Prop) (enc : β → Value) (lim : β → Prop) (fit : β → Bool) (w : World) : Calls Tryz.prog 166 #[] w fun e w' => ∃ v, e = .returned v ∧ v.oneCell' = true ∧ v.cells = #[v] ∧ StepV Fr enc lim w v true fit ∧ w = w' := by
  go_enter Tryz.func166, Tryz.ntmps166
  go_wp2_with fail
  go_ret
  refine ⟨_, rfl, rfl, rfl, ⟨173, #[], ⟨rfl, enters_of Tryz.func173 (by kernel_rfl) rfl⟩, fun W hW bs A c m m1 gr i R e1 e2 e3 e4 e5 e6 e7 args ha => ?_⟩, rfl⟩
  subst ha
  exact star1B_any enc bs A c m m1 gr i R e1 e2 e3 fit W e6 e7
set_option maxHeartbeats 4000000 in
theorem one1B_any {β : Type} (Fr : World → World → Prop) (hF : Frame Fr) (enc : β → Value) (lim : β → Prop) (fv : Value) (fit : β → Bool) (a : Nat) (bs : List β) (A : Option Addr) (c m m1 gr i : Nat) (R : Nat → Nat → Bool) (hm : bs.length = m) (hm1 : m1 = m + 1) (hm2 : m ≤ 1000) (hlim : ∀ x ∈ bs, lim x) (w : World)
    (hf : FitV Fr enc lim w fv fit) (ha : w.cell? ⟨a, 0, none⟩ = some fv) (hA : ListAt enc w A bs) (hr : Blk w gr 4 (bA (rowR R i m))) (hs : stepR false fit bs R i) :
    Calls Tryz.prog 170 #[.slice A m c, .slice (some ⟨gr, 0, none⟩) m1 m1, .pointer (some ⟨a, 0, none⟩)] w fun e w' => ∃ gn, e = .returned (.slice (some ⟨gn, 0, none⟩) m1 m1) ∧ w.heap.size ≤ gn ∧ Blk w' gn 4 (bA (rowR R (i + 1) m)) ∧ Below w.heap.size w w' := by
  have hmk := made_bools m1 (by omega) w
  obtain ⟨hs0, hs1⟩ := hs
  rw [Bool.and_false] at hs0
  have HS1 := Lib.hid hs1
  have HM := Lib.hid hm
  have HM1 := Lib.hid hm1
  have HR := Lib.hid hr
  have HL := Lib.hid hlim
  have HA := Lib.hid hA
  obtain ⟨f, caps, ⟨rfl, ef⟩, hf⟩ := hf
  have HF := Lib.hid hf
  have HAc := Lib.hid ha
  have HBa := Lib.hid (belowA (Below.refl w.heap.size w) (.cells (bA (List.replicate m1 false)) 4))
  have HRa := Lib.hid (hr.alloc (.cells (bA (List.replicate m1 false)) 4))
  have HN0 : Hid (Blk (w.alloc (.cells (bA (List.replicate m1 false)) 4)) w.heap.size 4 (bA (frontR R (i + 1) m 1))) := by
    unfold Hid; rw [← frontR_one R (i + 1) m hs0, frontR_zero, ← hm1]; exact Blk.new w 4 _
  have hmm : m < m1 := by omega
  have hm12 : m1 ≤ 1001 := by omega
  clear hs0 hs1 hm hr hlim hA hf ha hm1
  go_enter Tryz.func170, Tryz.ntmps170
  go_upto_region 2 with fail
  have hne0 : gr ≠ w.heap.size := by have := HR.out.lt; omega
  obtain ⟨gn, hgn⟩ : ∃ gn, gn = w.heap.size := ⟨_, rfl⟩
  rw [← hgn] at hne0 HN0 ⊢
  have hgw : w.heap.size ≤ gn := by omega
  generalize w.alloc (.cells (bA (List.replicate m1 false)) 4) = wz at HBa HRa HN0 ⊢
  clear hmk hgn HR
  go_wp2_with fail
  go_loopw [14] (fun iv wr => ∃ k : Nat, k ≤ m ∧ iv = .int .i64 k ∧ Hid (Blk wr gn 4 (bA (frontR R (i + 1) m (k + 1)))) ∧ Hid (Blk wr gr 4 (bA (rowR R i m))) ∧ Hid (Below w.heap.size w wr)) (fun iv _ => m - (intOf iv).toNat)
  case atStart => exact ⟨0, Nat.zero_le _, rfl, HN0.out, HRa.out, HBa.out⟩
  case round =>
    obtain ⟨k, hk, rfl, HN, HRk, HB⟩ := hrel
    clear HN0 HRa HBa
    by_cases hlt : k < m
    · have hkm : k < m + 1 := by omega
      have hkb : k < bs.length := by rw [HM.out]; exact hlt
      obtain ⟨k1, hk1⟩ : ∃ k1, k1 = k + 1 := ⟨_, rfl⟩
      have wk : IntKind.i64.wrap ((k : Int) + 1) = (k1 : Int) := by rw [IntKind.wrap_i64]; omega
      have hk1m : k1 < m1 := by have := HM1.out; omega
      have hkm1 : k < m1 := by omega
      obtain ⟨g, rfl, hc⟩ := (HA.out.below HB.out) k hkb
      have hac : wr.cell? ⟨a, 0, none⟩ = some (.func (.func f) #[] caps) := by rw [HB.out.cell (p := ⟨a, 0, none⟩) (World.block_lt_of_cell? w _ HAc.out)]; exact HAc.out
      have c1 : wr.cell? ⟨gr, k, none⟩ = some (.bool (R i k)) := by rw [HRk.out.cell, bA_get, rowR_get R i m k hkm]; rfl
      have hx := HL.out bs[k] (List.getElem_mem ..)
      have hstep := HS1.out k hkb
      rw [if_neg (by decide)] at hstep
      generalize bs[k] = x at hc hx hstep
      have HC : Hid (∀ W, Blk W gn 4 (bA (frontR R (i + 1) m (k + 1))) → (∃ b, W.cell? ⟨gn, k1, none⟩ = some (.bool b)) ∧ W.frozen? ⟨gn, k1, none⟩ = false) := fun W h1 => by
        refine ⟨?_, h1.frozen k1⟩
        obtain ⟨b, hb⟩ := front_cell R (i + 1) m (k + 1) k1 (by omega) (by omega)
        exact ⟨b, by rw [h1.cell, hb]⟩
      have HFin : Hid (∀ W, Blk W gn 4 (bA (frontR R (i + 1) m (k + 1))) → Blk W gr 4 (bA (rowR R i m)) → Below w.heap.size w W → Blk (W.setCell ⟨gn, k1, none⟩ (.bool (R (i + 1) (k + 1)))) gn 4 (bA (frontR R (i + 1) m (k1 + 1))) ∧ Blk (W.setCell ⟨gn, k1, none⟩ (.bool (R (i + 1) (k + 1)))) gr 4 (bA (rowR R i m)) ∧ Below w.heap.size w (W.setCell ⟨gn, k1, none⟩ (.bool (R (i + 1) (k + 1))))) := fun W h1 h2 h3 => by
        refine ⟨?_, h2.far hne0 _, Below.set1 h3 hgw k1 _⟩
        have := h1.set_ k1 (.bool (R (i + 1) (k + 1)))
        rw [bA_set, hk1, frontR_set R (i + 1) m (k + 1) (by omega)] at this
        rw [hk1]; exact this
      have HK := Lib.hid hk1
      clear hk1
      cases hb : R i k with
      | false =>
        rw [hb] at c1 hstep
        rw [Bool.false_and] at hstep
        obtain ⟨⟨b0, c4⟩, f4⟩ := HC.out wr HN.out
        have HE := Lib.hid (HFin.out wr HN.out HRk.out HB.out)
        rw [hstep] at HE
        clear HFin HC HN HRk HB hb hac
        go_wp2_with fail
        go_roundw
        case rel => exact ⟨k1, by have := HK.out; omega, rfl, HE.out.1, HE.out.2.1, HE.out.2.2⟩
        case measure => have := HK.out; simp [intOf]; omega
      | true =>
        rw [hb] at c1 hstep
        rw [Bool.true_and] at hstep
        have HFw := Lib.hid (HF.out wr (hF.bel _ _ HB.out) x hx _ rfl)
        clear hb hx
        go_wp2_with fail
        refine HFw.out.mono ?_; rintro e w2 ⟨rfl, hbl⟩
        have hN2 := HN.out.below hbl HN.out.lt
        have hR2 := HRk.out.below hbl HRk.out.lt
        have hB2 := HB.out.trans (hbl.mono HB.out.size)
        obtain ⟨⟨b0, c4⟩, f4⟩ := HC.out w2 hN2
        have HE := Lib.hid (HFin.out w2 hN2 hR2 hB2)
        rw [hstep] at HE
        clear HFin HC HN HRk HB hN2 hR2 hB2 hbl HFw c1 hac hc
        go_wp2_with fail
        go_roundw
        case rel => exact ⟨k1, by have := HK.out; omega, rfl, HE.out.1, HE.out.2.1, HE.out.2.2⟩
        case measure => have := HK.out; simp [intOf]; omega
    · obtain rfl : k = m := by omega
      have h9 := HN.out
      rw [frontR_end] at h9
      have H9 := Lib.hid h9
      clear h9 HN
      go_wp2_with fail
      go_ret
      exact ⟨gn, rfl, hgw, H9.out, HB.out⟩
/-- one gives the sign for one thing that fits -/
theorem oneB_any {β : Type} (Fr : World → World → Prop) (hF : Frame Fr) (hk : ∀ w W b cs, Blk w b 192 cs → Fr w W → Blk W b 192 cs) (enc : β → Value) (lim : β → Prop) (fv : Value) (fit : β → Bool) (w : World) (hf : FitV Fr enc lim w fv fit) : Calls Tryz.prog 164 #[fv] w fun e w' => ∃ v, e = .returned v ∧ v.oneCell' = true ∧ v.cells = #[v] ∧ StepV Fr enc lim w' v false fit ∧ Below w.heap.size w w' := by
  have hf0 := hf
  obtain ⟨f, caps, ⟨rfl, ef⟩, -⟩ := hf
  have HF := Lib.hid hf0
  clear hf0 ef
  go_enter Tryz.func164, Tryz.ntmps164
  go_wp2_with fail
  go_ret
  refine ⟨_, rfl, rfl, rfl, ⟨170, #[.pointer (some ⟨w.heap.size, 0, none⟩)], ⟨rfl, enters_of Tryz.func170 (by kernel_rfl) rfl⟩, fun W hW bs A c m m1 gr i R e1 e2 e3 e4 e5 e6 e7 args ha => ?_⟩, belowA (Below.refl w.heap.size w) _⟩
  rw [app21] at ha
  subst ha
  have hb := Blk.new w 192 #[.func (.func f) #[] caps]
  exact one1B_any Fr hF enc lim _ fit w.heap.size bs A c m m1 gr i R e1 e2 e3 e4 W ((HF.out.mono hF (hF.bel _ _ (belowA (Below.refl w.heap.size w) _))).mono hF hW) (by rw [(hk _ _ _ _ hb hW).cell]; rfl) e5 e6 e7
set_option maxHeartbeats 4000000 in
/-- the walk over all signs -/
theorem leadsB_any {α β : Type} (Fr : World → World → Prop) (hF : Frame Fr) (enc : β → Value) (lim : β → Prop) (star : α → Bool) (fits : α → β → Bool) (us : List α) (bs : List β) (da : α) (db : β) (fs : List Value) (n : Nat) (A A' : Option Addr) (c c' m : Nat) (hn : us.length = n) (hfs : fs.length = n) (hn2 : n ≤ 1000000) (hm : bs.length = m) (hm2 : m ≤ 1000)
    (hlim : ∀ x ∈ bs, lim x) (w : World) (hs : ∀ j (hj : j < n), StepV Fr enc lim w (fs[j]'(by omega)) (star (us[j]'(by omega))) (fits (us[j]'(by omega)))) (hA : ∀ j (hj : j < n), ∃ g, A = some ⟨g, 0, none⟩ ∧ w.cell? ⟨g, j, none⟩ = some (fs[j]'(by omega))) (hA' : ListAt enc w A' bs) :
    Calls Tryz.prog 160 #[.slice A n c, .slice A' m c'] w fun e w' => e = .returned (.bool (fitL star fits us bs)) ∧ Below w.heap.size w w' := by
  obtain ⟨h1, h2, h3, h4⟩ := fitL_table (star := star) (fits := fits) us bs da db
  have hend : fitL star fits us bs = fitL star fits (us.take n) (bs.take m) := by rw [List.take_of_length_le (by omega), List.take_of_length_le (by omega)]
  rw [hend]
  obtain ⟨R, hR⟩ : ∃ R : Nat → Nat → Bool, R = fun i k => fitL star fits (us.take i) (bs.take k) := ⟨_, rfl⟩
  have hR0 : R 0 0 = true := by rw [hR]; exact h1
  have hR1 : ∀ k, k < m → R 0 (k + 1) = false := fun k hk => by rw [hR]; exact h2 k (by omega)
  have hRs : ∀ j (hj : j < n), stepR (star (us[j]'(by omega))) (fits (us[j]'(by omega))) bs R j := fun j hj => by
    have eu : us.getD j da = us[j]'(by omega) := by rw [List.getD_eq_getElem?_getD, List.getElem?_eq_getElem (by omega)]; rfl
    refine ⟨?_, fun k hk => ?_⟩
    · rw [hR]
      have := h3 j (by omega)
      rwa [eu] at this
    · rw [hR]
      have := h4 j k (by omega) hk
      rwa [eu, show bs.getD k db = bs[k] by rw [List.getD_eq_getElem?_getD, List.getElem?_eq_getElem hk]; rfl] at this
  have hre : fitL star fits (us.take n) (bs.take m) = R n m := by rw [hR]
  rw [hre]
  clear hre hR hend h1 h2 h3 h4
  obtain ⟨m1, hm1⟩ : ∃ m1, m1 = m + 1 := ⟨_, rfl⟩
  have wm : IntKind.i64.wrap ((m : Int) + 1) = (m1 : Int) := by rw [IntKind.wrap_i64]; omega
  have hmk := made_bools m1 (by omega) w
  have hm10 : 0 < m1 := by omega
  have hst : (List.replicate m1 false).set 0 true = rowR R 0 m := by
    rw [← hR0, hm1, ← frontR_zero R 0 m, frontR_set R 0 m 0 (by omega), ← frontR_end R 0 m]
    unfold frontR
    apply List.ext_getElem?
    intro j
    cases j with
    | zero => simp [List.range_succ_eq_map]
    | succ j =>
      by_cases hj : j < m
      · rw [List.getElem?_append_right (by simp), List.getElem?_append_left (by simp; omega)]
        simp [hj, hR1 j hj]
        try omega
      · rw [List.getElem?_eq_none (by simp; omega), List.getElem?_eq_none (by simp; omega)]
  have HB0 := Lib.hid (Blk.new w 4 (bA (List.replicate m1 false)))
  have HBe0 := Lib.hid (belowA (Below.refl w.heap.size w) (.cells (bA (List.replicate m1 false)) 4))
  have hc0 : (w.alloc (.cells (bA (List.replicate m1 false)) 4)).cell? ⟨w.heap.size, 0, none⟩ = some (.bool false) := by
    rw [HB0.out.cell, bA_get, List.getElem?_eq_getElem (by rw [List.length_replicate]; omega), List.getElem_replicate]; rfl
  have hf0 := HB0.out.frozen 0
  have HM1 := Lib.hid hm1
  have HM := Lib.hid hm
  have HST0 := Lib.hid hst
  have HRS := Lib.hid hRs
  have HS := Lib.hid hs
  have HL := Lib.hid hlim
  have HA := Lib.hid hA
  have HA' := Lib.hid hA'
  have HFS := Lib.hid hfs
  clear hst hm1 hm hRs hs hlim hA hA' hR0 hR1
  go_enter Tryz.func160, Tryz.ntmps160
  go_upto_region 2 with fail
  obtain ⟨g0, hg0⟩ : ∃ g0, g0 = w.heap.size := ⟨_, rfl⟩
  have hgg : w.heap.size ≤ g0 := by omega
  rw [← hg0] at hc0 hf0 ⊢
  have HB0' : Hid (Blk (w.alloc (.cells (bA (List.replicate m1 false)) 4)) g0 4 (bA (List.replicate m1 false))) := by rw [hg0]; exact HB0.out
  generalize w.alloc (.cells (bA (List.replicate m1 false)) 4) = wz at HB0' HBe0 hc0 hf0 ⊢
  have HR0 : Hid (Blk (wz.setCell ⟨g0, 0, none⟩ (.bool true)) g0 4 (bA (rowR R 0 m))) := by
    have := HB0'.out.set_ 0 (.bool true)
    rw [bA_set, HST0.out] at this; exact this
  have HBe1 : Hid (Below w.heap.size w (wz.setCell ⟨g0, 0, none⟩ (.bool true))) := Below.set1 HBe0.out hgg 0 _
  clear hg0 hmk HB0
  go_wp2_with fail
  go_loopw [5, 16] (fun rv iv wr => ∃ (k gr : Nat), k ≤ n ∧ iv = .int .i64 k ∧ rv = .slice (some ⟨gr, 0, none⟩) m1 m1 ∧ Hid (Blk wr gr 4 (bA (rowR R k m))) ∧ Hid (Below w.heap.size w wr)) (fun _ iv _ => n - (intOf iv).toNat)
  case atStart => exact ⟨0, g0, Nat.zero_le _, rfl, rfl, HR0.out, HBe1.out⟩
  case round =>
    obtain ⟨k, gr, hk, rfl, rfl, HR, HB⟩ := hrel
    clear HB0' HBe0 hc0 hf0 HR0 HBe1
    by_cases hlt : k < n
    · obtain ⟨g, rfl, hc⟩ := HA.out k hlt
      have hc' : wr.cell? ⟨g, k, none⟩ = some (fs[k]'(by rw [HFS.out]; exact hlt)) := by rw [HB.out.cell (p := ⟨g, k, none⟩) (World.block_lt_of_cell? w _ hc)]; exact hc
      obtain ⟨f, caps, ⟨hv, ef⟩, hf⟩ := HS.out k hlt
      rw [hv] at hc'
      have HFw := Lib.hid (hf wr (hF.bel _ _ HB.out) bs A' c' m m1 gr k R HM.out HM1.out hm2 HL.out (HA'.out.below HB.out) HR.out (HRS.out k hlt) _ rfl)
      clear hf hv hc
      go_wp2_with fail
      refine HFw.out.mono ?_; rintro e w2 ⟨gn, rfl, -, hb2, hbl⟩
      have HR2 := Lib.hid hb2
      have HB2 := Lib.hid (HB.out.trans (hbl.mono HB.out.size))
      clear hb2 hbl HFw HR HB
      go_wp2_with fail
      go_roundw
      case rel => exact ⟨k + 1, gn, by omega, by go_num, rfl, HR2.out, HB2.out⟩
      case measure => simp [intOf]; omega
    · obtain rfl : k = n := by omega
      have hmm : m < m1 := by have := HM1.out; omega
      have c1 : wr.cell? ⟨gr, m, none⟩ = some (.bool (R k m)) := by rw [HR.out.cell, bA_get, rowR_get R k m m (by omega)]; rfl
      clear HR
      go_wp2_with fail
      go_ret
      exact ⟨rfl, HB.out⟩
theorem info_stepB : (Tryz.prog.info? 183).map (fun i => (i.zero, i.size, i.bytes)) = some (some .nilFunc, 1, 8) := by kernel_rfl
/-- a function value is appended to a row of the call's own -/
theorem append_fnB {w : World} {ops : Array Oper} {rest : List Oper} {o : Oper} {a : Act} {Q : Exit → Act → World → Prop} (hgd : o.guard = none) (s x : Operand)
    (ho : o.op = .call { callee := .builtin .append, args := #[s, x], argTypes := #[181, 181] }) (B : Nat) (v : Value) (fs : List Value) (hs : a.eval s = v) (hown : Fns w B 183 v fs)
    (g c : Nat) (u : Value) (hx : a.eval x = .slice (some ⟨g, 0, none⟩) 1 c) (hc : w.cell? ⟨g, 0, none⟩ = some u) (hu : u.oneCell' = true) (hbig : fs.length ≤ 1000000) (hB : B ≤ w.heap.size)
    (h : ∀ v' w', Fns w' B 183 v' (fs ++ [u]) → w.grownBy w' v.ownBlock → wpList Tryz.prog ops Q rest (a.put o.dst v') w') : wpList Tryz.prog ops Q (o :: rest) a w := by
  obtain ⟨i0, hi, hz0, hz1, hz2⟩ := info_parts info_stepB
  refine wpList_append_own _ hgd s x 181 ho B 183 i0 _ 1 8 Tryz.underlying181 hi hz0 hz1 hz2 rfl (by decide) v _ _ hs hown ⟨g, 0, none⟩ 1 c [u] hx rfl (fun j q hq => ?_) (fun q hq => ?_) (by unfold maxLen; omega) (by omega) hB ?_
  · cases j with
    | zero => simp at hq; subst hq; exact hc
    | succ j => simp at hq
  · obtain rfl := List.mem_singleton.1 hq; exact hu
  · intro v6 w6 hown6 hgrow _
    exact h v6 w6 (by unfold Fns; rw [List.length_append]; exact hown6) hgrow
end Go.Proofs.YtoikpnjnljdpaaaGreatDoor
/- Contracts of the program's signs over a list (the functions made by star and one, and the walk over all signs), at string. -/
set_option linter.unusedVariables false
set_option maxRecDepth 100000
namespace Go.Proofs.YtoikpnjnljdpaaaGreatDoor
open Go.RowKit
open Go.OpenShut
set_option maxHeartbeats 4000000 in
theorem star1S_any {β : Type} (enc : β → Value) (bs : List β) (A : Option Addr) (c m m1 gr i : Nat) (R : Nat → Nat → Bool) (hm : bs.length = m) (hm1 : m1 = m + 1) (hm2 : m ≤ 1000) (fit : β → Bool) (w : World) (hr : Blk w gr 4 (bA (rowR R i m))) (hs : stepR true fit bs R i) :
    Calls Tryz.prog 156 #[.slice A m c, .slice (some ⟨gr, 0, none⟩) m1 m1] w fun e w' => ∃ gn, e = .returned (.slice (some ⟨gn, 0, none⟩) m1 m1) ∧ w.heap.size ≤ gn ∧ Blk w' gn 4 (bA (rowR R (i + 1) m)) ∧ Below w.heap.size w w' := by
  have hmk := made_bools m1 (by omega) w
  obtain ⟨hs0, hs1⟩ := hs
  have HS0 := Lib.hid hs0
  have HS1 := Lib.hid hs1
  have HM := Lib.hid hm
  have HM1 := Lib.hid hm1
  have HR := Lib.hid hr
  have HBa := Lib.hid (belowA (Below.refl w.heap.size w) (.cells (bA (List.replicate m1 false)) 4))
  have HRa := Lib.hid (hr.alloc (.cells (bA (List.replicate m1 false)) 4))
  have HN0 : Hid (Blk (w.alloc (.cells (bA (List.replicate m1 false)) 4)) w.heap.size 4 (bA (frontR R (i + 1) m 0))) := by
    unfold Hid; rw [frontR_zero, ← hm1]; exact Blk.new w 4 _
  clear hs0 hs1 hm hr hm1
  go_enter Tryz.func156, Tryz.ntmps156
  go_upto_region 2 with fail
  have hne0 : gr ≠ w.heap.size := by have := HR.out.lt; omega
  obtain ⟨gn, hgn⟩ : ∃ gn, gn = w.heap.size := ⟨_, rfl⟩
  rw [← hgn] at hne0 HN0 ⊢
  have hgw : w.heap.size ≤ gn := by omega
  generalize w.alloc (.cells (bA (List.replicate m1 false)) 4) = wz at HBa HRa HN0 ⊢
  clear hmk hgn HR
  have hmm : 1 ≤ m1 := by have := HM1.out; omega
  go_wp2_with fail
  go_loopw [6, 14] (fun rv iv wr => ∃ k : Nat, k ≤ m1 ∧ iv = .int .i64 k ∧ rv = .bool (decide (0 < k) && R (i + 1) (k - 1)) ∧ Hid (Blk wr gn 4 (bA (frontR R (i + 1) m k))) ∧ Hid (Blk wr gr 4 (bA (rowR R i m))) ∧ Hid (Below w.heap.size w wr)) (fun _ iv _ => m1 - (intOf iv).toNat)
  case atStart => exact ⟨0, Nat.zero_le _, rfl, rfl, HN0.out, HRa.out, HBa.out⟩
  case round =>
    obtain ⟨k, hk, rfl, rfl, HN, HRk, HB⟩ := hrel
    clear HN0 HRa HBa
    by_cases hlt : k < m1
    · have hkm : k < m + 1 := by have := HM1.out; omega
      have c1 : wr.cell? ⟨gr, k, none⟩ = some (.bool (R i k)) := by rw [HRk.out.cell, bA_get, rowR_get R i m k hkm]; rfl
      obtain ⟨b0, hb0⟩ := front_cell R (i + 1) m k k (by omega) hkm
      have c2 : wr.cell? ⟨gn, k, none⟩ = some (.bool b0) := by rw [HN.out.cell, hb0]
      have f2 := HN.out.frozen k
      have hv : (decide (0 < k) && R (i + 1) (k - 1) || R i k) = R (i + 1) k := by
        cases k with
        | zero => rw [HS0.out]; simp
        | succ k =>
          have := HS1.out k (by have := HM.out; omega)
          simp only [if_true] at this
          rw [this]
          cases R i (k + 1) <;> simp
      have HN1 : Hid (Blk (wr.setCell ⟨gn, k, none⟩ (.bool (R (i + 1) k))) gn 4 (bA (frontR R (i + 1) m (k + 1)))) := by
        have := HN.out.set_ k (.bool (R (i + 1) k))
        rwa [bA_set, frontR_set R (i + 1) m k hkm] at this
      have HR1 := Lib.hid (HRk.out.far (p := ⟨gn, k, none⟩) hne0 (.bool (R (i + 1) k)))
      have HB1 : Hid (Below w.heap.size w (wr.setCell ⟨gn, k, none⟩ (.bool (R (i + 1) k)))) := Below.set1 HB.out hgw k _
      have hnx : R (i + 1) k = (decide (0 < k + 1) && R (i + 1) (k + 1 - 1)) := by simp
      have HX := Lib.hid hnx
      generalize (decide (0 < k) && R (i + 1) (k - 1)) = p at hv ⊢
      rw [← hv] at HN1 HR1 HB1 HX
      clear HN HRk HB hb0 hv hnx
      cases p with
      | true =>
        rw [Bool.true_or] at HN1 HR1 HB1 HX
        go_wp2_with fail
        go_roundw
        case rel => exact ⟨k + 1, by omega, by go_num, by rw [← HX.out], HN1.out, HR1.out, HB1.out⟩
        case measure => simp [intOf]; omega
      | false =>
        rw [Bool.false_or] at HN1 HR1 HB1 HX
        go_wp2_with fail
        go_roundw
        case rel => exact ⟨k + 1, by omega, by go_num, by rw [← HX.out], HN1.out, HR1.out, HB1.out⟩
        case measure => simp [intOf]; omega
    · obtain rfl : k = m1 := by omega
      have h9 := HN.out
      rw [HM1.out, frontR_end] at h9
      have H9 := Lib.hid h9
      clear h9 HN
      go_wp2_with fail
      go_ret
      exact ⟨gn, rfl, hgw, H9.out, HB.out⟩
/-- star gives the sign for any number of things -/
theorem starS_any {β : Type} (Fr : World → World → Prop) (enc : β → Value) (lim : β → Prop) (fit : β → Bool) (w : World) : Calls Tryz.prog 144 #[] w fun e w' => ∃ v, e = .returned v ∧ v.oneCell' = true ∧ v.cells = #[v] ∧ StepV Fr enc lim w v true fit ∧ w = w' := by
  go_enter Tryz.func144, Tryz.ntmps144
  go_wp2_with fail
  go_ret
  refine ⟨_, rfl, rfl, rfl, ⟨156, #[], ⟨rfl, enters_of Tryz.func156 (by kernel_rfl) rfl⟩, fun W hW bs A c m m1 gr i R e1 e2 e3 e4 e5 e6 e7 args ha => ?_⟩, rfl⟩
  subst ha
  exact star1S_any enc bs A c m m1 gr i R e1 e2 e3 fit W e6 e7
set_option maxHeartbeats 4000000 in
theorem one1S_any {β : Type} (Fr : World → World → Prop) (hF : Frame Fr) (enc : β → Value) (lim : β → Prop) (fv : Value) (fit : β → Bool) (a : Nat) (bs : List β) (A : Option Addr) (c m m1 gr i : Nat) (R : Nat → Nat → Bool) (hm : bs.length = m) (hm1 : m1 = m + 1) (hm2 : m ≤ 1000) (hlim : ∀ x ∈ bs, lim x) (w : World)
    (hf : FitV Fr enc lim w fv fit) (ha : w.cell? ⟨a, 0, none⟩ = some fv) (hA : ListAt enc w A bs) (hr : Blk w gr 4 (bA (rowR R i m))) (hs : stepR false fit bs R i) :
    Calls Tryz.prog 157 #[.slice A m c, .slice (some ⟨gr, 0, none⟩) m1 m1, .pointer (some ⟨a, 0, none⟩)] w fun e w' => ∃ gn, e = .returned (.slice (some ⟨gn, 0, none⟩) m1 m1) ∧ w.heap.size ≤ gn ∧ Blk w' gn 4 (bA (rowR R (i + 1) m)) ∧ Below w.heap.size w w' := by
  have hmk := made_bools m1 (by omega) w
  obtain ⟨hs0, hs1⟩ := hs
  rw [Bool.and_false] at hs0
  have HS1 := Lib.hid hs1
  have HM := Lib.hid hm
  have HM1 := Lib.hid hm1
  have HR := Lib.hid hr
  have HL := Lib.hid hlim
  have HA := Lib.hid hA
  obtain ⟨f, caps, ⟨rfl, ef⟩, hf⟩ := hf
  have HF := Lib.hid hf
  have HAc := Lib.hid ha
  have HBa := Lib.hid (belowA (Below.refl w.heap.size w) (.cells (bA (List.replicate m1 false)) 4))
  have HRa := Lib.hid (hr.alloc (.cells (bA (List.replicate m1 false)) 4))
  have HN0 : Hid (Blk (w.alloc (.cells (bA (List.replicate m1 false)) 4)) w.heap.size 4 (bA (frontR R (i + 1) m 1))) := by
    unfold Hid; rw [← frontR_one R (i + 1) m hs0, frontR_zero, ← hm1]; exact Blk.new w 4 _
  have hmm : m < m1 := by omega
  have hm12 : m1 ≤ 1001 := by omega
  clear hs0 hs1 hm hr hlim hA hf ha hm1
  go_enter Tryz.func157, Tryz.ntmps157
  go_upto_region 2 with fail
  have hne0 : gr ≠ w.heap.size := by have := HR.out.lt; omega
  obtain ⟨gn, hgn⟩ : ∃ gn, gn = w.heap.size := ⟨_, rfl⟩
  rw [← hgn] at hne0 HN0 ⊢
  have hgw : w.heap.size ≤ gn := by omega
  generalize w.alloc (.cells (bA (List.replicate m1 false)) 4) = wz at HBa HRa HN0 ⊢
  clear hmk hgn HR
  go_wp2_with fail
  go_loopw [14] (fun iv wr => ∃ k : Nat, k ≤ m ∧ iv = .int .i64 k ∧ Hid (Blk wr gn 4 (bA (frontR R (i + 1) m (k + 1)))) ∧ Hid (Blk wr gr 4 (bA (rowR R i m))) ∧ Hid (Below w.heap.size w wr)) (fun iv _ => m - (intOf iv).toNat)
  case atStart => exact ⟨0, Nat.zero_le _, rfl, HN0.out, HRa.out, HBa.out⟩
  case round =>
    obtain ⟨k, hk, rfl, HN, HRk, HB⟩ := hrel
    clear HN0 HRa HBa
    by_cases hlt : k < m
    · have hkm : k < m + 1 := by omega
      have hkb : k < bs.length := by rw [HM.out]; exact hlt
      obtain ⟨k1, hk1⟩ : ∃ k1, k1 = k + 1 := ⟨_, rfl⟩
      have wk : IntKind.i64.wrap ((k : Int) + 1) = (k1 : Int) := by rw [IntKind.wrap_i64]; omega
      have hk1m : k1 < m1 := by have := HM1.out; omega
      have hkm1 : k < m1 := by omega
      obtain ⟨g, rfl, hc⟩ := (HA.out.below HB.out) k hkb
      have hac : wr.cell? ⟨a, 0, none⟩ = some (.func (.func f) #[] caps) := by rw [HB.out.cell (p := ⟨a, 0, none⟩) (World.block_lt_of_cell? w _ HAc.out)]; exact HAc.out
      have c1 : wr.cell? ⟨gr, k, none⟩ = some (.bool (R i k)) := by rw [HRk.out.cell, bA_get, rowR_get R i m k hkm]; rfl
      have hx := HL.out bs[k] (List.getElem_mem ..)
      have hstep := HS1.out k hkb
      rw [if_neg (by decide)] at hstep
      generalize bs[k] = x at hc hx hstep
      have HC : Hid (∀ W, Blk W gn 4 (bA (frontR R (i + 1) m (k + 1))) → (∃ b, W.cell? ⟨gn, k1, none⟩ = some (.bool b)) ∧ W.frozen? ⟨gn, k1, none⟩ = false) := fun W h1 => by
        refine ⟨?_, h1.frozen k1⟩
        obtain ⟨b, hb⟩ := front_cell R (i + 1) m (k + 1) k1 (by omega) (by omega)
        exact ⟨b, by rw [h1.cell, hb]⟩
      have HFin : Hid (∀ W, Blk W gn 4 (bA (frontR R (i + 1) m (k + 1))) → Blk W gr 4 (bA (rowR R i m)) → Below w.heap.size w W → Blk (W.setCell ⟨gn, k1, none⟩ (.bool (R (i + 1) (k + 1)))) gn 4 (bA (frontR R (i + 1) m (k1 + 1))) ∧ Blk (W.setCell ⟨gn, k1, none⟩ (.bool (R (i + 1) (k + 1)))) gr 4 (bA (rowR R i m)) ∧ Below w.heap.size w (W.setCell ⟨gn, k1, none⟩ (.bool (R (i + 1) (k + 1))))) := fun W h1 h2 h3 => by
        refine ⟨?_, h2.far hne0 _, Below.set1 h3 hgw k1 _⟩
        have := h1.set_ k1 (.bool (R (i + 1) (k + 1)))
        rw [bA_set, hk1, frontR_set R (i + 1) m (k + 1) (by omega)] at this
        rw [hk1]; exact this
      have HK := Lib.hid hk1
      clear hk1
      cases hb : R i k with
      | false =>
        rw [hb] at c1 hstep
        rw [Bool.false_and] at hstep
        obtain ⟨⟨b0, c4⟩, f4⟩ := HC.out wr HN.out
        have HE := Lib.hid (HFin.out wr HN.out HRk.out HB.out)
        rw [hstep] at HE
        clear HFin HC HN HRk HB hb hac
        go_wp2_with fail
        go_roundw
        case rel => exact ⟨k1, by have := HK.out; omega, rfl, HE.out.1, HE.out.2.1, HE.out.2.2⟩
        case measure => have := HK.out; simp [intOf]; omega
      | true =>
        rw [hb] at c1 hstep
        rw [Bool.true_and] at hstep
        have HFw := Lib.hid (HF.out wr (hF.bel _ _ HB.out) x hx _ rfl)
        clear hb hx
        go_wp2_with fail
        refine HFw.out.mono ?_; rintro e w2 ⟨rfl, hbl⟩
        have hN2 := HN.out.below hbl HN.out.lt
        have hR2 := HRk.out.below hbl HRk.out.lt
        have hB2 := HB.out.trans (hbl.mono HB.out.size)
        obtain ⟨⟨b0, c4⟩, f4⟩ := HC.out w2 hN2
        have HE := Lib.hid (HFin.out w2 hN2 hR2 hB2)
        rw [hstep] at HE
        clear HFin HC HN HRk HB hN2 hR2 hB2 hbl HFw c1 hac hc
        go_wp2_with fail
        go_roundw
        case rel => exact ⟨k1, by have := HK.out; omega, rfl, HE.out.1, HE.out.2.1, HE.out.2.2⟩
        case measure => have := HK.out; simp [intOf]; omega
    · obtain rfl : k = m := by omega
      have h9 := HN.out
      rw [frontR_end] at h9
      have H9 := Lib.hid h9
      clear h9 HN
      go_wp2_with fail
      go_ret
      exact ⟨gn, rfl, hgw, H9.out, HB.out⟩
/-- one gives the sign for one thing that fits -/
theorem oneS_any {β : Type} (Fr : World → World → Prop) (hF : Frame Fr) (hk : ∀ w W b cs, Blk w b 142 cs → Fr w W → Blk W b 142 cs) (enc : β → Value) (lim : β → Prop) (fv : Value) (fit : β → Bool) (w : World) (hf : FitV Fr enc lim w fv fit) : Calls Tryz.prog 145 #[fv] w fun e w' => ∃ v, e = .returned v ∧ v.oneCell' = true ∧ v.cells = #[v] ∧ StepV Fr enc lim w' v false fit ∧ Below w.heap.size w w' := by
  have hf0 := hf
  obtain ⟨f, caps, ⟨rfl, ef⟩, -⟩ := hf
  have HF := Lib.hid hf0
  clear hf0 ef
  go_enter Tryz.func145, Tryz.ntmps145
  go_wp2_with fail
  go_ret
  refine ⟨_, rfl, rfl, rfl, ⟨157, #[.pointer (some ⟨w.heap.size, 0, none⟩)], ⟨rfl, enters_of Tryz.func157 (by kernel_rfl) rfl⟩, fun W hW bs A c m m1 gr i R e1 e2 e3 e4 e5 e6 e7 args ha => ?_⟩, belowA (Below.refl w.heap.size w) _⟩
  rw [app21] at ha
  subst ha
  have hb := Blk.new w 142 #[.func (.func f) #[] caps]
  exact one1S_any Fr hF enc lim _ fit w.heap.size bs A c m m1 gr i R e1 e2 e3 e4 W ((HF.out.mono hF (hF.bel _ _ (belowA (Below.refl w.heap.size w) _))).mono hF hW) (by rw [(hk _ _ _ _ hb hW).cell]; rfl) e5 e6 e7
set_option maxHeartbeats 4000000 in
/-- the walk over all signs -/
theorem leadsS_any {α β : Type} (Fr : World → World → Prop) (hF : Frame Fr) (enc : β → Value) (lim : β → Prop) (star : α → Bool) (fits : α → β → Bool) (us : List α) (bs : List β) (da : α) (db : β) (fs : List Value) (n : Nat) (A A' : Option Addr) (c c' m : Nat) (hn : us.length = n) (hfs : fs.length = n) (hn2 : n ≤ 1000000) (hm : bs.length = m) (hm2 : m ≤ 1000)
    (hlim : ∀ x ∈ bs, lim x) (w : World) (hs : ∀ j (hj : j < n), StepV Fr enc lim w (fs[j]'(by omega)) (star (us[j]'(by omega))) (fits (us[j]'(by omega)))) (hA : ∀ j (hj : j < n), ∃ g, A = some ⟨g, 0, none⟩ ∧ w.cell? ⟨g, j, none⟩ = some (fs[j]'(by omega))) (hA' : ListAt enc w A' bs) :
    Calls Tryz.prog 116 #[.slice A n c, .slice A' m c'] w fun e w' => e = .returned (.bool (fitL star fits us bs)) ∧ Below w.heap.size w w' := by
  obtain ⟨h1, h2, h3, h4⟩ := fitL_table (star := star) (fits := fits) us bs da db
  have hend : fitL star fits us bs = fitL star fits (us.take n) (bs.take m) := by rw [List.take_of_length_le (by omega), List.take_of_length_le (by omega)]
  rw [hend]
  obtain ⟨R, hR⟩ : ∃ R : Nat → Nat → Bool, R = fun i k => fitL star fits (us.take i) (bs.take k) := ⟨_, rfl⟩
  have hR0 : R 0 0 = true := by rw [hR]; exact h1
  have hR1 : ∀ k, k < m → R 0 (k + 1) = false := fun k hk => by rw [hR]; exact h2 k (by omega)
  have hRs : ∀ j (hj : j < n), stepR (star (us[j]'(by omega))) (fits (us[j]'(by omega))) bs R j := fun j hj => by
    have eu : us.getD j da = us[j]'(by omega) := by rw [List.getD_eq_getElem?_getD, List.getElem?_eq_getElem (by omega)]; rfl
    refine ⟨?_, fun k hk => ?_⟩
    · rw [hR]
      have := h3 j (by omega)
      rwa [eu] at this
    · rw [hR]
      have := h4 j k (by omega) hk
      rwa [eu, show bs.getD k db = bs[k] by rw [List.getD_eq_getElem?_getD, List.getElem?_eq_getElem hk]; rfl] at this
  have hre : fitL star fits (us.take n) (bs.take m) = R n m := by rw [hR]
  rw [hre]
  clear hre hR hend h1 h2 h3 h4
  obtain ⟨m1, hm1⟩ : ∃ m1, m1 = m + 1 := ⟨_, rfl⟩
  have wm : IntKind.i64.wrap ((m : Int) + 1) = (m1 : Int) := by rw [IntKind.wrap_i64]; omega
  have hmk := made_bools m1 (by omega) w
  have hm10 : 0 < m1 := by omega
  have hst : (List.replicate m1 false).set 0 true = rowR R 0 m := by
    rw [← hR0, hm1, ← frontR_zero R 0 m, frontR_set R 0 m 0 (by omega), ← frontR_end R 0 m]
    unfold frontR
    apply List.ext_getElem?
    intro j
    cases j with
    | zero => simp [List.range_succ_eq_map]
    | succ j =>
      by_cases hj : j < m
      · rw [List.getElem?_append_right (by simp), List.getElem?_append_left (by simp; omega)]
        simp [hj, hR1 j hj]
        try omega
      · rw [List.getElem?_eq_none (by simp; omega), List.getElem?_eq_none (by simp; omega)]
  have HB0 := Lib.hid (Blk.new w 4 (bA (List.replicate m1 false)))
  have HBe0 := Lib.hid (belowA (Below.refl w.heap.size w) (.cells (bA (List.replicate m1 false)) 4))
  have hc0 : (w.alloc (.cells (bA (List.replicate m1 false)) 4)).cell? ⟨w.heap.size, 0, none⟩ = some (.bool false) := by
    rw [HB0.out.cell, bA_get, List.getElem?_eq_getElem (by rw [List.length_replicate]; omega), List.getElem_replicate]; rfl
  have hf0 := HB0.out.frozen 0
  have HM1 := Lib.hid hm1
  have HM := Lib.hid hm
  have HST0 := Lib.hid hst
  have HRS := Lib.hid hRs
  have HS := Lib.hid hs
  have HL := Lib.hid hlim
  have HA := Lib.hid hA
  have HA' := Lib.hid hA'
  have HFS := Lib.hid hfs
  clear hst hm1 hm hRs hs hlim hA hA' hR0 hR1
  go_enter Tryz.func116, Tryz.ntmps116
  go_upto_region 2 with fail
  obtain ⟨g0, hg0⟩ : ∃ g0, g0 = w.heap.size := ⟨_, rfl⟩
  have hgg : w.heap.size ≤ g0 := by omega
  rw [← hg0] at hc0 hf0 ⊢
  have HB0' : Hid (Blk (w.alloc (.cells (bA (List.replicate m1 false)) 4)) g0 4 (bA (List.replicate m1 false))) := by rw [hg0]; exact HB0.out
  generalize w.alloc (.cells (bA (List.replicate m1 false)) 4) = wz at HB0' HBe0 hc0 hf0 ⊢
  have HR0 : Hid (Blk (wz.setCell ⟨g0, 0, none⟩ (.bool true)) g0 4 (bA (rowR R 0 m))) := by
    have := HB0'.out.set_ 0 (.bool true)
    rw [bA_set, HST0.out] at this; exact this
  have HBe1 : Hid (Below w.heap.size w (wz.setCell ⟨g0, 0, none⟩ (.bool true))) := Below.set1 HBe0.out hgg 0 _
  clear hg0 hmk HB0
  go_wp2_with fail
  go_loopw [5, 16] (fun rv iv wr => ∃ (k gr : Nat), k ≤ n ∧ iv = .int .i64 k ∧ rv = .slice (some ⟨gr, 0, none⟩) m1 m1 ∧ Hid (Blk wr gr 4 (bA (rowR R k m))) ∧ Hid (Below w.heap.size w wr)) (fun _ iv _ => n - (intOf iv).toNat)
  case atStart => exact ⟨0, g0, Nat.zero_le _, rfl, rfl, HR0.out, HBe1.out⟩
  case round =>
    obtain ⟨k, gr, hk, rfl, rfl, HR, HB⟩ := hrel
    clear HB0' HBe0 hc0 hf0 HR0 HBe1
    by_cases hlt : k < n
    · obtain ⟨g, rfl, hc⟩ := HA.out k hlt
      have hc' : wr.cell? ⟨g, k, none⟩ = some (fs[k]'(by rw [HFS.out]; exact hlt)) := by rw [HB.out.cell (p := ⟨g, k, none⟩) (World.block_lt_of_cell? w _ hc)]; exact hc
      obtain ⟨f, caps, ⟨hv, ef⟩, hf⟩ := HS.out k hlt
      rw [hv] at hc'
      have HFw := Lib.hid (hf wr (hF.bel _ _ HB.out) bs A' c' m m1 gr k R HM.out HM1.out hm2 HL.out (HA'.out.below HB.out) HR.out (HRS.out k hlt) _ rfl)
      clear hf hv hc
      go_wp2_with fail
      refine HFw.out.mono ?_; rintro e w2 ⟨gn, rfl, -, hb2, hbl⟩
      have HR2 := Lib.hid hb2
      have HB2 := Lib.hid (HB.out.trans (hbl.mono HB.out.size))
      clear hb2 hbl HFw HR HB
      go_wp2_with fail
      go_roundw
      case rel => exact ⟨k + 1, gn, by omega, by go_num, rfl, HR2.out, HB2.out⟩
      case measure => simp [intOf]; omega
    · obtain rfl : k = n := by omega
      have hmm : m < m1 := by have := HM1.out; omega
      have c1 : wr.cell? ⟨gr, m, none⟩ = some (.bool (R k m)) := by rw [HR.out.cell, bA_get, rowR_get R k m m (by omega)]; rfl
      clear HR
      go_wp2_with fail
      go_ret
      exact ⟨rfl, HB.out⟩
theorem info_stepS : (Tryz.prog.info? 171).map (fun i => (i.zero, i.size, i.bytes)) = some (some .nilFunc, 1, 8) := by kernel_rfl
/-- a function value is appended to a row of the call's own -/
theorem append_fnS {w : World} {ops : Array Oper} {rest : List Oper} {o : Oper} {a : Act} {Q : Exit → Act → World → Prop} (hgd : o.guard = none) (s x : Operand)
    (ho : o.op = .call { callee := .builtin .append, args := #[s, x], argTypes := #[149, 149] }) (B : Nat) (v : Value) (fs : List Value) (hs : a.eval s = v) (hown : Fns w B 171 v fs)
    (g c : Nat) (u : Value) (hx : a.eval x = .slice (some ⟨g, 0, none⟩) 1 c) (hc : w.cell? ⟨g, 0, none⟩ = some u) (hu : u.oneCell' = true) (hbig : fs.length ≤ 1000000) (hB : B ≤ w.heap.size)
    (h : ∀ v' w', Fns w' B 171 v' (fs ++ [u]) → w.grownBy w' v.ownBlock → wpList Tryz.prog ops Q rest (a.put o.dst v') w') : wpList Tryz.prog ops Q (o :: rest) a w := by
  obtain ⟨i0, hi, hz0, hz1, hz2⟩ := info_parts info_stepS
  refine wpList_append_own _ hgd s x 149 ho B 171 i0 _ 1 8 Tryz.underlying149 hi hz0 hz1 hz2 rfl (by decide) v _ _ hs hown ⟨g, 0, none⟩ 1 c [u] hx rfl (fun j q hq => ?_) (fun q hq => ?_) (by unfold maxLen; omega) (by omega) hB ?_
  · cases j with
    | zero => simp at hq; subst hq; exact hc
    | succ j => simp at hq
  · obtain rfl := List.mem_singleton.1 hq; exact hu
  · intro v6 w6 hown6 hgrow _
    exact h v6 w6 (by unfold Fns; rw [List.length_append]; exact hown6) hgrow
end Go.Proofs.YtoikpnjnljdpaaaGreatDoor
