/- Texts of one kind, in one file: GlqM, GlqA, GlqB, GlqC, GlqD, GlqE, GlqF, GlqS, GlqG, GlbP. -/
import Derived.Test.YtldffnmoafhidaaGreatDoorGlb
import Derived.Test.YtldffnmoafhidaaGreatDoorMth
import Derived.Test.YtldffnmoafhidaaGreatDoorPth
import Derived.Shelf.Abstract
import Derived.BigQuiet
import Derived.Test.YtldffnmoafhidaaGreatDoorTxs
import Derived.Test.YtldffnmoafhidaaGreatDoorSpl
import Derived.Test.YtldffnmoafhidaaGreatDoorFld
import Derived.Lib.MinMax
import Derived.Lib.ConvBytes
import Derived.Deep.RegionWith
import Derived.Deep.RegionLaw
/- Plain mathematics of the program's patterns: a set's size and its members, a part's pieces; they are the signs that the reference reads. Nothing of the program. -/
set_option linter.unusedVariables false
namespace Go.Proofs.YtldffnmoafhidaaGreatDoor
open Go.RowKit
/-- a set's members, by themselves -/
def setM (acc : UInt8 → Bool) : List UInt8 → (UInt8 → Bool)
  | [] => acc
  | [c] => fun x => acc x || span c c x
  | [c, d] => setM (fun x => acc x || span c c x) [d]
  | c :: d :: h :: r => if d = 45 then setM (fun x => acc x || span c h x) r else setM (fun x => acc x || span c c x) (d :: h :: r)
termination_by l => l.length
theorem setM_nil (acc : UInt8 → Bool) : setM acc [] = acc := by rw [setM]
theorem setM_one (acc : UInt8 → Bool) (c : UInt8) (r : List UInt8) (h : ∀ h2 r2, r ≠ 45 :: h2 :: r2) : setM acc (c :: r) = setM (fun x => acc x || span c c x) r := by
  match r, h with
  | [], _ => rw [setM, setM]
  | [d], _ => conv => lhs; rw [setM]
  | d :: e :: r, h => rw [setM, if_neg]; rintro rfl; exact h e r rfl
theorem setM_rng (acc : UInt8 → Bool) (c e : UInt8) (r : List UInt8) : setM acc (c :: 45 :: e :: r) = setM (fun x => acc x || span c e x) r := by
  rw [setM, if_pos rfl]
/-- a list begins as a span goes on -/
theorem rng_cases (r : List UInt8) : (∃ e r2, r = 45 :: e :: r2) ∨ ∀ e r2, r ≠ 45 :: e :: r2 := by
  by_cases h : ∃ e r2, r = 45 :: e :: r2
  · exact .inl h
  · exact .inr fun e r2 he => h ⟨e, r2, he⟩
/-- a set with its end -/
theorem setG_shut : ∀ (n : Nat) (first : Bool) (m : List UInt8) (acc : UInt8 → Bool) (r : List UInt8), m.length ≤ n → (first = true → m ≠ []) → (∀ x ∈ (if first then m.drop 1 else m), x ≠ 93) → setG first acc (m ++ 93 :: r) = some (setM acc m, r) := by
  intro n
  induction n with
  | zero =>
    intro first m acc r hl h1 h2
    obtain rfl := List.eq_nil_of_length_eq_zero (Nat.le_zero.1 hl)
    cases first with
    | true => exact absurd rfl (h1 rfl)
    | false => rw [List.nil_append, setG_end, setM_nil]
  | succ n ih =>
    intro first m acc r hl h1 h2
    cases m with
    | nil =>
      cases first with
      | true => exact absurd rfl (h1 rfl)
      | false => rw [List.nil_append, setG_end, setM_nil]
    | cons c m =>
      have ht : ∀ x ∈ m, x ≠ 93 := fun x hx => by
        cases first with
        | true => exact h2 x (by simpa using hx)
        | false => exact h2 x (List.mem_cons_of_mem _ hx)
      have hn : ¬(first = false ∧ c = 93) := by
        rintro ⟨rfl, rfl⟩
        exact h2 93 (List.mem_cons_self ..) rfl
      rw [List.length_cons] at hl
      rw [List.cons_append]
      rcases rng_cases m with ⟨e, m2, rfl⟩ | hm
      · rw [List.cons_append, List.cons_append, setG_range _ _ hn (ht e (by simp)), setM_rng]
        refine ih false m2 _ r (by simp only [List.length_cons] at hl; omega) (fun h => by cases h) (fun x hx => ht x ?_)
        have : x ∈ m2 := by simpa using hx
        simp [this]
      · rw [setG_one _ _ hn, setM_one _ _ _ hm]
        · exact ih false m _ r (by omega) (fun h => by cases h) (fun x hx => ht x (by simpa using hx))
        · intro e r2 he
          match m, hm, he with
          | [], _, he => cases he
          | [d], _, he => simp at he; exact he.2.1.symm
          | d :: d2 :: m2, hm, he =>
            simp at he
            exact absurd (by rw [he.1]) (hm d2 m2)
/-- a set without an end -/
theorem setG_open : ∀ (n : Nat) (first : Bool) (acc : UInt8 → Bool) (l : List UInt8), l.length ≤ n → (∀ x ∈ (if first then l.drop 1 else l), x ≠ 93) → setG first acc l = none := by
  intro n
  induction n with
  | zero =>
    intro first acc l hl h
    rw [List.eq_nil_of_length_eq_zero (Nat.le_zero.1 hl), setG_nil]
  | succ n ih =>
    intro first acc l hl h
    cases l with
    | nil => exact setG_nil _ _
    | cons c m =>
      have ht : ∀ x ∈ m, x ≠ 93 := fun x hx => by
        cases first with
        | true => exact h x (by simpa using hx)
        | false => exact h x (List.mem_cons_of_mem _ hx)
      have hn : ¬(first = false ∧ c = 93) := by
        rintro ⟨rfl, rfl⟩
        exact h 93 (List.mem_cons_self ..) rfl
      rw [List.length_cons] at hl
      rcases rng_cases m with ⟨e, m2, rfl⟩ | hm
      · rw [setG_range _ _ hn (ht e (by simp))]
        refine ih false _ m2 (by simp only [List.length_cons] at hl; omega) (fun x hx => ht x ?_)
        have : x ∈ m2 := by simpa using hx
        simp [this]
      · rw [setG_one _ _ hn fun e r2 he => absurd he (hm e r2)]
        exact ih false _ m (by omega) (fun x hx => ht x (by simpa using hx))
/-- where the search for a set's end begins -/
def behL (s : List UInt8) : Nat := min ((if notS (s.drop 1) then 2 else 1) + 1) s.length
/-- a set's size; none: it has no end -/
def szL (s : List UInt8) : Nat := if hasB 93 (s.drop (behL s)) then behL s + pos 93 (s.drop (behL s)) + 1 else 0
/-- what is between the brackets of a set -/
def innL (q : List UInt8) : List UInt8 := (q.take (q.length - 1)).drop 1
/-- the bytes that a set matches, by what is between its brackets -/
def setT (i : List UInt8) : UInt8 → Bool := fun x => notS i != setM (fun _ => false) (if notS i then i.drop 1 else i) x
theorem szL_le (s : List UInt8) : szL s ≤ s.length := by
  unfold szL
  split
  · rename_i h
    rw [hasB_pos, decide_eq_true_eq, List.length_drop] at h
    omega
  · exact Nat.zero_le _
theorem has_none {l : List UInt8} {c : UInt8} (h : hasB c l = false) : ∀ x ∈ l, x ≠ c := fun x hx e => by
  unfold hasB at h
  rw [List.any_eq_false] at h
  exact h x hx (by simpa using e)
theorem pos_split {l : List UInt8} {c : UInt8} (h : hasB c l = true) : l = l.take (pos c l) ++ c :: l.drop (pos c l + 1) ∧ ∀ x ∈ l.take (pos c l), x ≠ c := by
  rw [hasB_pos, decide_eq_true_eq] at h
  refine ⟨?_, has_none (hasB_take c l _ (Nat.le_refl _))⟩
  have := pos_get c l h
  conv => lhs; rw [← List.take_append_drop (pos c l) l, List.drop_eq_getElem_cons h, this]
/-- the reference's set is the program's -/
theorem setP_sz (r : List UInt8) : setP r = if szL (91 :: r) = 0 then none else some (setT (innL ((91 :: r).take (szL (91 :: r)))), (91 :: r).drop (szL (91 :: r))) := by
  rw [setP_eq]
  have hb : behL (91 :: r) = min ((if notS r then 2 else 1) + 1) (r.length + 1) := rfl
  unfold szL
  -- what is searched
  obtain ⟨f, hf⟩ : ∃ f, f = if notS r then 2 else 1 := ⟨_, rfl⟩
  have hdd : (if notS r then r.drop 1 else r) = r.drop (f - 1) := by
    rw [hf]; split <;> simp
  have hf1 : 1 ≤ f := by rw [hf]; split <;> omega
  rw [← hf] at hb
  rw [hdd]
  have hs : (91 :: r).drop (behL (91 :: r)) = (r.drop (f - 1)).drop 1 := by
    rw [hb, List.drop_drop]
    by_cases h : f ≤ r.length
    · rw [Nat.min_eq_left (by omega), List.drop_succ_cons]; congr 1; omega
    · rw [Nat.min_eq_right (by omega), List.drop_eq_nil_of_le (by rw [List.length_cons]; omega), List.drop_eq_nil_of_le (by omega)]
  rw [hs]
  rcases hh : hasB 93 ((r.drop (f - 1)).drop 1) with _ | _
  · simp only [Bool.false_eq_true, if_false, if_true]
    rw [setG_open _ true _ _ (Nat.le_refl _) (by rw [if_pos rfl]; exact has_none hh)]; rfl
  · simp only [if_true]
    rw [if_neg (by omega)]
    obtain ⟨hp, hne⟩ := pos_split hh
    have hpl : pos 93 ((r.drop (f - 1)).drop 1) < ((r.drop (f - 1)).drop 1).length := by rwa [hasB_pos, decide_eq_true_eq] at hh
    generalize hk : pos 93 ((r.drop (f - 1)).drop 1) = k at hp hne hpl ⊢
    rw [List.length_drop, List.length_drop] at hpl
    have hfr : f ≤ r.length := by omega
    have hbe : behL (91 :: r) = f + 1 := by rw [hb, Nat.min_eq_left (by omega)]
    rw [hbe]
    -- r from f - 1 on: the first member, the others, the end, the rest
    have hm : r.drop (f - 1) = (r.drop (f - 1)).take (k + 1) ++ 93 :: r.drop (f + k + 1) := by
      have e1 : r.drop (f - 1) = r[f - 1]'(by omega) :: (r.drop (f - 1)).drop 1 := by
        rw [List.drop_eq_getElem_cons (by omega), List.drop_succ_cons, List.drop_zero]
      conv => lhs; rw [e1, hp]
      conv => rhs; rw [e1, List.take_succ_cons]
      rw [List.cons_append, List.drop_drop, List.drop_drop]
      congr 4; omega
    generalize hM : (r.drop (f - 1)).take (k + 1) = M at hm
    have hMl : M.length = k + 1 := by rw [← hM, List.length_take, List.length_drop]; omega
    have hMne : M ≠ [] := fun h => by rw [h] at hMl; cases hMl
    have hM1 : ∀ x ∈ M.drop 1, x ≠ 93 := fun x hx => by
      refine hne x ?_
      rw [← hM, List.drop_take] at hx
      exact hx
    rw [hm, setG_shut _ true M _ _ (Nat.le_refl _) (fun _ => hMne) (by rw [if_pos rfl]; exact hM1), Option.map_some]
    -- what is between the brackets
    have hin : innL ((91 :: r).take (f + 1 + k + 1)) = r.take (f + k) := by
      unfold innL
      rw [List.length_take, List.length_cons, Nat.min_eq_left (by omega), List.take_take, Nat.min_eq_left (by omega), show f + 1 + k + 1 - 1 = f + k + 1 by omega, List.take_succ_cons, List.drop_succ_cons, List.drop_zero]
    rw [hin]
    have hnr : notS (r.take (f + k)) = notS r := by
      cases r with
      | nil => rw [List.take_nil]
      | cons a r => rw [show f + k = (f + k - 1) + 1 by omega, List.take_succ_cons]; rfl
    have hMi : (if notS (r.take (f + k)) then (r.take (f + k)).drop 1 else r.take (f + k)) = M := by
      rw [hnr, ← hM]
      cases hn : notS r with
      | true =>
        rw [hn, if_pos rfl] at hf
        rw [if_pos rfl, hf, List.drop_take]; congr 1; omega
      | false =>
        rw [hn, if_neg (by decide)] at hf
        rw [if_neg (by decide), hf, Nat.sub_self, List.drop_zero]; congr 1; omega
    have hdr : (91 :: r).drop (f + 1 + k + 1) = r.drop (f + k + 1) := by
      rw [show f + 1 + k + 1 = (f + k + 1) + 1 by omega, List.drop_succ_cons]
    rw [hdr]
    congr 2
    funext x
    unfold setT
    rw [hMi, hnr]
/-- a part's pieces; none: a set has no end -/
def pieceN (l : List UInt8) : Nat := if l.head? = some 91 then szL l else 1
theorem pieceN_le (l : List UInt8) (h : l ≠ []) : pieceN l ≤ l.length := by
  unfold pieceN
  split
  · exact szL_le l
  · exact List.length_pos_iff.2 h
def pieceL : Nat → List UInt8 → Option (List (List UInt8))
  | 0, _ => some []
  | n + 1, l => if l = [] then some [] else if pieceN l = 0 then none else (pieceL n (l.drop (pieceN l))).map fun ps => l.take (pieceN l) :: ps
/-- what a piece matches -/
def pieceT (q : List UInt8) : Tok := if 1 < q.length then (false, setT (innL q)) else if q.head? = some 42 then (true, span 42 42) else if q.head? = some 63 then (false, fun _ => true) else (false, span (q.headD 0) (q.headD 0))
theorem szL_big {l : List UInt8} (h : szL l ≠ 0) : 1 < szL l := by
  unfold szL at h ⊢
  split at h
  · rename_i hh
    rw [if_pos hh]
    rw [hasB_pos, decide_eq_true_eq, List.length_drop] at hh
    have : 1 ≤ behL l := by
      unfold behL at hh ⊢
      split <;> omega
    omega
  · exact absurd rfl h
/-- the signs that the reference reads are the program's pieces -/
theorem tokL_pieces : ∀ (n : Nat) (l : List UInt8), l.length ≤ n → tokL l = (pieceL n l).map (List.map pieceT) := by
  intro n
  induction n with
  | zero =>
    intro l hl
    rw [List.eq_nil_of_length_eq_zero (Nat.le_zero.1 hl), tokL_nil]; rfl
  | succ n ih =>
    intro l hl
    rw [pieceL]
    cases l with
    | nil => rw [if_pos rfl, tokL_nil]; rfl
    | cons c r =>
      rw [if_neg (by simp)]
      rw [List.length_cons] at hl
      by_cases h : c = 91
      · subst h
        have hN : pieceN (91 :: r) = szL (91 :: r) := if_pos rfl
        have hP := setP_sz r
        rw [hN]
        by_cases hz : szL (91 :: r) = 0
        · rw [if_pos hz] at hP ⊢
          rw [tokL_none r hP]; rfl
        · rw [if_neg hz] at hP ⊢
          have hb := szL_big hz
          have hle := szL_le (91 :: r)
          rw [tokL_set _ _ _ hP, ih _ (by rw [List.length_drop, List.length_cons]; omega), Option.map_map, Option.map_map]
          congr 1
          funext ps
          show _ = pieceT _ :: _
          congr 1
          unfold pieceT
          rw [if_pos]
          rw [List.length_take]; omega
      · have hN : pieceN (c :: r) = 1 := if_neg (by simpa using h)
        rw [hN, if_neg (by decide), tokL_other c r h, List.drop_succ_cons, List.drop_zero, ih r (by omega), Option.map_map, Option.map_map]
        have e1 : pieceT [c] = (if c = 42 then (true, span 42 42) else if c = 63 then (false, fun _ => true) else (false, span c c)) := by
          unfold pieceT
          rw [if_neg (by simp)]
          simp only [List.head?_cons, Option.some.injEq, List.headD_cons]
        rw [← e1]
        rfl
/-- a part's pieces; none: a set has no end -/
def pieceF (l : List UInt8) : Option (List (List UInt8)) := pieceL l.length l
theorem pieceL_fuel : ∀ (n : Nat) (l : List UInt8), l.length ≤ n → pieceL n l = pieceF l := by
  intro n
  induction n using Nat.strongRecOn with
  | _ n ih =>
    intro l hl
    unfold pieceF
    cases l with
    | nil => cases n <;> simp [pieceL]
    | cons c r =>
      rw [List.length_cons] at hl ⊢
      cases n with
      | zero => omega
      | succ n =>
        have e : ∀ k, pieceL (k + 1) (c :: r) = if pieceN (c :: r) = 0 then none else (pieceL k ((c :: r).drop (pieceN (c :: r)))).map fun ps => (c :: r).take (pieceN (c :: r)) :: ps := fun k => by
          rw [pieceL, if_neg (by simp)]
        rw [e, e]
        by_cases h : pieceN (c :: r) = 0
        · rw [if_pos h, if_pos h]
        · rw [if_neg h, if_neg h]
          have hd : ((c :: r).drop (pieceN (c :: r))).length ≤ r.length := by rw [List.length_drop, List.length_cons]; omega
          rw [ih n (by omega) _ (by omega), ih r.length (by omega) _ hd]
theorem pieceF_nil : pieceF [] = some [] := rfl
theorem pieceF_step {l : List UInt8} (hl : l ≠ []) : pieceF l = if pieceN l = 0 then none else (pieceF (l.drop (pieceN l))).map fun ps => l.take (pieceN l) :: ps := by
  cases l with
  | nil => exact absurd rfl hl
  | cons c r =>
    conv => lhs; unfold pieceF
    rw [List.length_cons, pieceL, if_neg (by simp)]
    by_cases h : pieceN (c :: r) = 0
    · rw [if_pos h, if_pos h]
    · rw [if_neg h, if_neg h, pieceL_fuel r.length _ (by rw [List.length_drop, List.length_cons]; omega)]
theorem tokL_pieceF (l : List UInt8) : tokL l = (pieceF l).map (List.map pieceT) := tokL_pieces l.length l (Nat.le_refl _)
theorem pieceF_none (l : List UInt8) : (tokL l).isSome = (pieceF l).isSome := by rw [tokL_pieceF]; cases pieceF l <;> rfl
/-- every piece has a byte, and no more than the part -/
theorem pieceF_mem : ∀ (n : Nat) (l : List UInt8) (ps : List (List UInt8)), l.length ≤ n → pieceF l = some ps → ps.length ≤ l.length ∧ ∀ p ∈ ps, 1 ≤ p.length ∧ p.length ≤ l.length := by
  intro n
  induction n with
  | zero =>
    intro l ps hl h
    rw [List.eq_nil_of_length_eq_zero (Nat.le_zero.1 hl), pieceF_nil] at h
    injection h with h; subst h
    exact ⟨Nat.zero_le _, fun p hp => by cases hp⟩
  | succ n ih =>
    intro l ps hl h
    by_cases hn : l = []
    · rw [hn, pieceF_nil] at h
      injection h with h; subst h
      exact ⟨Nat.zero_le _, fun p hp => by cases hp⟩
    · rw [pieceF_step hn] at h
      by_cases hz : pieceN l = 0
      · rw [if_pos hz] at h; cases h
      · rw [if_neg hz] at h
        obtain ⟨qs, hq, rfl⟩ := Option.map_eq_some_iff.1 h
        have hle := pieceN_le l hn
        have hll : (l.drop (pieceN l)).length = l.length - pieceN l := List.length_drop ..
        obtain ⟨h1, h2⟩ := ih _ qs (by omega) hq
        refine ⟨by rw [List.length_cons]; omega, fun p hp => ?_⟩
        rcases List.mem_cons.1 hp with rfl | hp
        · rw [List.length_take]; omega
        · have := h2 p hp; omega
end Go.Proofs.YtldffnmoafhidaaGreatDoor
/- Function values of the program's patterns: what a sign's function does with the places in a list. Nothing of the program but its types. -/
set_option linter.unusedVariables false
set_option maxRecDepth 100000
namespace Go.Proofs.YtldffnmoafhidaaGreatDoor
open Go.RowKit
open Go.OpenShut
/-- a row of places under way: k truths, the others false -/
def frontR (R : Nat → Nat → Bool) (i m k : Nat) : List Bool := (List.range k).map (R i) ++ List.replicate (m + 1 - k) false
theorem frontR_len (R : Nat → Nat → Bool) (i m k : Nat) (hk : k ≤ m + 1) : (frontR R i m k).length = m + 1 := by unfold frontR; simp; omega
theorem frontR_zero (R : Nat → Nat → Bool) (i m : Nat) : frontR R i m 0 = List.replicate (m + 1) false := by unfold frontR; simp
theorem frontR_end (R : Nat → Nat → Bool) (i m : Nat) : frontR R i m (m + 1) = rowR R i m := by unfold frontR rowR; simp
theorem frontR_set (R : Nat → Nat → Bool) (i m k : Nat) (hk : k < m + 1) : (frontR R i m k).set k (R i k) = frontR R i m (k + 1) := by
  unfold frontR
  rw [List.set_append_right _ _ (by simp)]
  simp only [List.length_map, List.length_range, Nat.sub_self]
  obtain ⟨q, hq⟩ : ∃ q, m + 1 - k = q + 1 := ⟨m - k, by omega⟩
  rw [hq, List.replicate_succ, List.set_cons_zero, show m + 1 - (k + 1) = q by omega, List.range_succ, List.map_append]
  simp
theorem frontR_one (R : Nat → Nat → Bool) (i m : Nat) (h : R i 0 = false) : frontR R i m 0 = frontR R i m 1 := by
  rw [← frontR_set R i m 0 (by omega), h, frontR_zero, List.replicate_succ, List.set_cons_zero]
theorem front_cell (R : Nat → Nat → Bool) (i m k j : Nat) (hk : k ≤ m + 1) (hj : j < m + 1) : ∃ b, (bA (frontR R i m k))[j]? = some (.bool b) := by
  have hl := frontR_len R i m k hk
  refine ⟨(frontR R i m k)[j]'(by omega), ?_⟩
  rw [bA_get, List.getElem?_eq_getElem (by omega)]; rfl
theorem app21 (a b p : Value) : (#[a, b] : Array Value) ++ #[p] = #[a, b, p] := by simp
theorem app11 (a p : Value) : (#[a] : Array Value) ++ #[p] = #[a, p] := by simp
theorem app12 (a p q : Value) : (#[a] : Array Value) ++ #[p, q] = #[a, p, q] := by simp
/-- a function value that enters f with what it holds -/
def FnV (v : Value) (f : Nat) (caps : Array Value) : Prop := v = .func (.func f) #[] caps ∧ ∀ args w, (callFunc f args).run Tryz.prog w = .ok (.enter f args) w
/-- what stays of a world: a frame -/
structure Frame (Fr : World → World → Prop) : Prop where
  bel : ∀ w W, Below w.heap.size w W → Fr w W
  tr : ∀ a b c, Fr a b → Fr b c → Fr a c
/-- all that was there stays -/
def frB (w W : World) : Prop := Below w.heap.size w W
section
variable {β : Type} (Fr : World → World → Prop) (enc : β → Value) (lim : β → Prop)
/-- a list in memory -/
def ListAt (W : World) (A : Option Addr) (bs : List β) : Prop := ∀ k (h : k < bs.length), ∃ g, A = some ⟨g, 0, none⟩ ∧ W.cell? ⟨g, k, none⟩ = some (enc bs[k])
theorem ListAt.below {enc : β → Value} {w w' : World} {A : Option Addr} {bs : List β} (h : ListAt enc w A bs) (hb : Below w.heap.size w w') : ListAt enc w' A bs := by
  intro j hj
  obtain ⟨b, e, hc⟩ := h j hj
  refine ⟨b, e, ?_⟩
  have hlt : b < w.heap.size := World.block_lt_of_cell? w _ hc
  rw [← hc]
  unfold World.cell?
  simp only [hb.block b hlt]
/-- a function that tells of a thing whether it fits -/
def FitV (w : World) (v : Value) (fit : β → Bool) : Prop :=
  ∃ f caps, FnV v f caps ∧ ∀ W, Fr w W → ∀ x, lim x → ∀ args, args = #[enc x] ++ caps → Calls Tryz.prog f args W fun e w' => e = .returned (.bool (fit x)) ∧ Below W.heap.size W w'
variable {Fr enc lim}
theorem FitV.mono {w w' : World} {v : Value} {fit : β → Bool} (h : FitV Fr enc lim w v fit) (hF : Frame Fr) (hb : Fr w w') : FitV Fr enc lim w' v fit := by
  obtain ⟨f, caps, hf, h⟩ := h
  exact ⟨f, caps, hf, fun W hW => h W (hF.tr _ _ _ hb hW)⟩
variable (Fr enc lim)
/-- from the places ahead of a sign to those behind it -/
def stepR (star : Bool) (fit : β → Bool) (bs : List β) (R : Nat → Nat → Bool) (i : Nat) : Prop :=
  R (i + 1) 0 = (R i 0 && star) ∧ ∀ k, (h : k < bs.length) → R (i + 1) (k + 1) = if star then R i (k + 1) || R (i + 1) k else R i k && fit bs[k]
/-- a sign's function -/
def StepV (w : World) (v : Value) (star : Bool) (fit : β → Bool) : Prop :=
  ∃ f caps, FnV v f caps ∧ ∀ W, Fr w W → ∀ (bs : List β) (A : Option Addr) (c m m1 gr i : Nat) (R : Nat → Nat → Bool), bs.length = m → m1 = m + 1 → m ≤ 1000 → (∀ x ∈ bs, lim x) → ListAt enc W A bs → Blk W gr 4 (bA (rowR R i m)) → stepR star fit bs R i →
    ∀ args, args = #[.slice A m c, .slice (some ⟨gr, 0, none⟩) m1 m1] ++ caps → Calls Tryz.prog f args W fun e w' => ∃ gn, e = .returned (.slice (some ⟨gn, 0, none⟩) m1 m1) ∧ W.heap.size ≤ gn ∧ Blk w' gn 4 (bA (rowR R (i + 1) m)) ∧ Below W.heap.size W w'
variable {Fr enc lim}
theorem StepV.mono {w w' : World} {v : Value} {star : Bool} {fit : β → Bool} (h : StepV Fr enc lim w v star fit) (hF : Frame Fr) (hb : Fr w w') : StepV Fr enc lim w' v star fit := by
  obtain ⟨f, caps, hf, h⟩ := h
  exact ⟨f, caps, hf, fun W hW => h W (hF.tr _ _ _ hb hW)⟩
end
/-- function values in a row of the call's own -/
def Fns (w : World) (B t : Nat) (v : Value) (fs : List Value) : Prop := w.ownsRow B t 1 v fs.length fs
theorem Fns.below {w w' : World} {B t : Nat} {v : Value} {fs : List Value} (h : Fns w B t v fs) (hb : Below w.heap.size w w') : Fns w' B t v fs :=
  World.ownsRow.kept h (grown_below hb none) (by
    by_cases e : v.ownBlock = none
    · exact .inl e
    · exact .inr e)
theorem Fns.any {w : World} {B t : Nat} {v : Value} {fs : List Value} (h : Fns w B t v fs) : ∃ A cap, v = .slice A fs.length cap ∧ ∀ j (hj : j < fs.length), ∃ g, A = some ⟨g, 0, none⟩ ∧ w.cell? ⟨g, j, none⟩ = some fs[j] := by
  have h' := h
  unfold Fns World.ownsRow at h
  rcases h.2 with ⟨rfl, h0⟩ | ⟨g, cap, cur, rfl, hB, hg, hcap, hm, hs, ht⟩
  · exact ⟨none, 0, by rw [h0], fun j hj => by omega⟩
  · refine ⟨some ⟨g, 0, none⟩, cap, rfl, fun j hj => ⟨g, rfl, ?_⟩⟩
    unfold Fns at h'
    rw [h'.cellAt j (by omega), List.getElem?_eq_getElem hj]
end Go.Proofs.YtldffnmoafhidaaGreatDoor
/- Contracts of the program's signs over a list (the functions made by star and one, and the walk over all signs), at byte. -/
set_option linter.unusedVariables false
set_option maxRecDepth 100000
namespace Go.Proofs.YtldffnmoafhidaaGreatDoor
open Go.RowKit
open Go.OpenShut
set_option maxHeartbeats 4000000 in
theorem star1B_any {β : Type} (enc : β → Value) (bs : List β) (A : Option Addr) (c m m1 gr i : Nat) (R : Nat → Nat → Bool) (hm : bs.length = m) (hm1 : m1 = m + 1) (hm2 : m ≤ 1000) (fit : β → Bool) (w : World) (hr : Blk w gr 4 (bA (rowR R i m))) (hs : stepR true fit bs R i) :
    Calls Tryz.prog 319 #[.slice A m c, .slice (some ⟨gr, 0, none⟩) m1 m1] w fun e w' => ∃ gn, e = .returned (.slice (some ⟨gn, 0, none⟩) m1 m1) ∧ w.heap.size ≤ gn ∧ Blk w' gn 4 (bA (rowR R (i + 1) m)) ∧ Below w.heap.size w w' := by
  have hmk := made_bools m1 (by omega) w
  obtain ⟨hs0, hs1⟩ := hs
  have HS0 := Lib.hid hs0
  have HS1 := Lib.hid hs1
  have HM := Lib.hid hm
  have HM1 := Lib.hid hm1
  have HR := Lib.hid hr
  have HBa := Lib.hid (belowA (Below.refl w.heap.size w) (.cells (bA (List.replicate m1 false)) 4))
  have HRa := Lib.hid (hr.alloc (.cells (bA (List.replicate m1 false)) 4))
  have HN0 : Hid (Blk (w.alloc (.cells (bA (List.replicate m1 false)) 4)) w.heap.size 4 (bA (frontR R (i + 1) m 0))) := by
    unfold Hid; rw [frontR_zero, ← hm1]; exact Blk.new w 4 _
  clear hs0 hs1 hm hr hm1
  go_enter Tryz.func319, Tryz.ntmps319
  go_upto_region 2 with fail
  have hne0 : gr ≠ w.heap.size := by have := HR.out.lt; omega
  obtain ⟨gn, hgn⟩ : ∃ gn, gn = w.heap.size := ⟨_, rfl⟩
  rw [← hgn] at hne0 HN0 ⊢
  have hgw : w.heap.size ≤ gn := by omega
  generalize w.alloc (.cells (bA (List.replicate m1 false)) 4) = wz at HBa HRa HN0 ⊢
  clear hmk hgn HR
  have hmm : 1 ≤ m1 := by have := HM1.out; omega
  go_wp2_with fail
  go_loopw [6, 14] (fun rv iv wr => ∃ k : Nat, k ≤ m1 ∧ iv = .int .i64 k ∧ rv = .bool (decide (0 < k) && R (i + 1) (k - 1)) ∧ Hid (Blk wr gn 4 (bA (frontR R (i + 1) m k))) ∧ Hid (Blk wr gr 4 (bA (rowR R i m))) ∧ Hid (Below w.heap.size w wr)) (fun _ iv _ => m1 - (intOf iv).toNat)
  case atStart => exact ⟨0, Nat.zero_le _, rfl, rfl, HN0.out, HRa.out, HBa.out⟩
  case round =>
    obtain ⟨k, hk, rfl, rfl, HN, HRk, HB⟩ := hrel
    clear HN0 HRa HBa
    by_cases hlt : k < m1
    · have hkm : k < m + 1 := by have := HM1.out; omega
      have c1 : wr.cell? ⟨gr, k, none⟩ = some (.bool (R i k)) := by rw [HRk.out.cell, bA_get, rowR_get R i m k hkm]; rfl
      obtain ⟨b0, hb0⟩ := front_cell R (i + 1) m k k (by omega) hkm
      have c2 : wr.cell? ⟨gn, k, none⟩ = some (.bool b0) := by rw [HN.out.cell, hb0]
      have f2 := HN.out.frozen k
      have hv : (decide (0 < k) && R (i + 1) (k - 1) || R i k) = R (i + 1) k := by
        cases k with
        | zero => rw [HS0.out]; simp
        | succ k =>
          have := HS1.out k (by have := HM.out; omega)
          simp only [if_true] at this
          rw [this]
          cases R i (k + 1) <;> simp
      have HN1 : Hid (Blk (wr.setCell ⟨gn, k, none⟩ (.bool (R (i + 1) k))) gn 4 (bA (frontR R (i + 1) m (k + 1)))) := by
        have := HN.out.set_ k (.bool (R (i + 1) k))
        rwa [bA_set, frontR_set R (i + 1) m k hkm] at this
      have HR1 := Lib.hid (HRk.out.far (p := ⟨gn, k, none⟩) hne0 (.bool (R (i + 1) k)))
      have HB1 : Hid (Below w.heap.size w (wr.setCell ⟨gn, k, none⟩ (.bool (R (i + 1) k)))) := Below.set1 HB.out hgw k _
      have hnx : R (i + 1) k = (decide (0 < k + 1) && R (i + 1) (k + 1 - 1)) := by simp
      have HX := Lib.hid hnx
      generalize (decide (0 < k) && R (i + 1) (k - 1)) = p at hv ⊢
      rw [← hv] at HN1 HR1 HB1 HX
      clear HN HRk HB hb0 hv hnx
      cases p with
      | true =>
        rw [Bool.true_or] at HN1 HR1 HB1 HX
        go_wp2_with fail
        go_roundw
        case rel => exact ⟨k + 1, by omega, by go_num, by rw [← HX.out], HN1.out, HR1.out, HB1.out⟩
        case measure => simp [intOf]; omega
      | false =>
        rw [Bool.false_or] at HN1 HR1 HB1 HX
        go_wp2_with fail
        go_roundw
        case rel => exact ⟨k + 1, by omega, by go_num, by rw [← HX.out], HN1.out, HR1.out, HB1.out⟩
        case measure => simp [intOf]; omega
    · obtain rfl : k = m1 := by omega
      have h9 := HN.out
      rw [HM1.out, frontR_end] at h9
      have H9 := Lib.hid h9
      clear h9 HN
      go_wp2_with fail
      go_ret
      exact ⟨gn, rfl, hgw, H9.out, HB.out⟩
/-- star gives the sign for any number of things -/
theorem starB_any {β : Type} (Fr : World → World → Prop) (enc : β → Value) (lim : β → Prop) (fit : β → Bool) (w : World) : Calls Tryz.prog 314 #[] w fun e w' => ∃ v, e = .returned v ∧ v.oneCell' = true ∧ v.cells = #[v] ∧ StepV Fr enc lim w v true fit ∧ w = w' := by
  go_enter Tryz.func314, Tryz.ntmps314
  go_wp2_with fail
  go_ret
  refine ⟨_, rfl, rfl, rfl, ⟨319, #[], ⟨rfl, enters_of Tryz.func319 (by kernel_rfl) rfl⟩, fun W hW bs A c m m1 gr i R e1 e2 e3 e4 e5 e6 e7 args ha => ?_⟩, rfl⟩
  subst ha
  exact star1B_any enc bs A c m m1 gr i R e1 e2 e3 fit W e6 e7
set_option maxHeartbeats 4000000 in
theorem one1B_any {β : Type} (Fr : World → World → Prop) (hF : Frame Fr) (enc : β → Value) (lim : β → Prop) (fv : Value) (fit : β → Bool) (a : Nat) (bs : List β) (A : Option Addr) (c m m1 gr i : Nat) (R : Nat → Nat → Bool) (hm : bs.length = m) (hm1 : m1 = m + 1) (hm2 : m ≤ 1000) (hlim : ∀ x ∈ bs, lim x) (w : World)
    (hf : FitV Fr enc lim w fv fit) (ha : w.cell? ⟨a, 0, none⟩ = some fv) (hA : ListAt enc w A bs) (hr : Blk w gr 4 (bA (rowR R i m))) (hs : stepR false fit bs R i) :
    Calls Tryz.prog 317 #[.slice A m c, .slice (some ⟨gr, 0, none⟩) m1 m1, .pointer (some ⟨a, 0, none⟩)] w fun e w' => ∃ gn, e = .returned (.slice (some ⟨gn, 0, none⟩) m1 m1) ∧ w.heap.size ≤ gn ∧ Blk w' gn 4 (bA (rowR R (i + 1) m)) ∧ Below w.heap.size w w' := by
  have hmk := made_bools m1 (by omega) w
  obtain ⟨hs0, hs1⟩ := hs
  rw [Bool.and_false] at hs0
  have HS1 := Lib.hid hs1
  have HM := Lib.hid hm
  have HM1 := Lib.hid hm1
  have HR := Lib.hid hr
  have HL := Lib.hid hlim
  have HA := Lib.hid hA
  obtain ⟨f, caps, ⟨rfl, ef⟩, hf⟩ := hf
  have HF := Lib.hid hf
  have HAc := Lib.hid ha
  have HBa := Lib.hid (belowA (Below.refl w.heap.size w) (.cells (bA (List.replicate m1 false)) 4))
  have HRa := Lib.hid (hr.alloc (.cells (bA (List.replicate m1 false)) 4))
  have HN0 : Hid (Blk (w.alloc (.cells (bA (List.replicate m1 false)) 4)) w.heap.size 4 (bA (frontR R (i + 1) m 1))) := by
    unfold Hid; rw [← frontR_one R (i + 1) m hs0, frontR_zero, ← hm1]; exact Blk.new w 4 _
  have hmm : m < m1 := by omega
  have hm12 : m1 ≤ 1001 := by omega
  clear hs0 hs1 hm hr hlim hA hf ha hm1
  go_enter Tryz.func317, Tryz.ntmps317
  go_upto_region 2 with fail
  have hne0 : gr ≠ w.heap.size := by have := HR.out.lt; omega
  obtain ⟨gn, hgn⟩ : ∃ gn, gn = w.heap.size := ⟨_, rfl⟩
  rw [← hgn] at hne0 HN0 ⊢
  have hgw : w.heap.size ≤ gn := by omega
  generalize w.alloc (.cells (bA (List.replicate m1 false)) 4) = wz at HBa HRa HN0 ⊢
  clear hmk hgn HR
  go_wp2_with fail
  go_loopw [14] (fun iv wr => ∃ k : Nat, k ≤ m ∧ iv = .int .i64 k ∧ Hid (Blk wr gn 4 (bA (frontR R (i + 1) m (k + 1)))) ∧ Hid (Blk wr gr 4 (bA (rowR R i m))) ∧ Hid (Below w.heap.size w wr)) (fun iv _ => m - (intOf iv).toNat)
  case atStart => exact ⟨0, Nat.zero_le _, rfl, HN0.out, HRa.out, HBa.out⟩
  case round =>
    obtain ⟨k, hk, rfl, HN, HRk, HB⟩ := hrel
    clear HN0 HRa HBa
    by_cases hlt : k < m
    · have hkm : k < m + 1 := by omega
      have hkb : k < bs.length := by rw [HM.out]; exact hlt
      obtain ⟨k1, hk1⟩ : ∃ k1, k1 = k + 1 := ⟨_, rfl⟩
      have wk : IntKind.i64.wrap ((k : Int) + 1) = (k1 : Int) := by rw [IntKind.wrap_i64]; omega
      have hk1m : k1 < m1 := by have := HM1.out; omega
      have hkm1 : k < m1 := by omega
      obtain ⟨g, rfl, hc⟩ := (HA.out.below HB.out) k hkb
      have hac : wr.cell? ⟨a, 0, none⟩ = some (.func (.func f) #[] caps) := by rw [HB.out.cell (p := ⟨a, 0, none⟩) (World.block_lt_of_cell? w _ HAc.out)]; exact HAc.out
      have c1 : wr.cell? ⟨gr, k, none⟩ = some (.bool (R i k)) := by rw [HRk.out.cell, bA_get, rowR_get R i m k hkm]; rfl
      have hx := HL.out bs[k] (List.getElem_mem ..)
      have hstep := HS1.out k hkb
      rw [if_neg (by decide)] at hstep
      generalize bs[k] = x at hc hx hstep
      have HC : Hid (∀ W, Blk W gn 4 (bA (frontR R (i + 1) m (k + 1))) → (∃ b, W.cell? ⟨gn, k1, none⟩ = some (.bool b)) ∧ W.frozen? ⟨gn, k1, none⟩ = false) := fun W h1 => by
        refine ⟨?_, h1.frozen k1⟩
        obtain ⟨b, hb⟩ := front_cell R (i + 1) m (k + 1) k1 (by omega) (by omega)
        exact ⟨b, by rw [h1.cell, hb]⟩
      have HFin : Hid (∀ W, Blk W gn 4 (bA (frontR R (i + 1) m (k + 1))) → Blk W gr 4 (bA (rowR R i m)) → Below w.heap.size w W → Blk (W.setCell ⟨gn, k1, none⟩ (.bool (R (i + 1) (k + 1)))) gn 4 (bA (frontR R (i + 1) m (k1 + 1))) ∧ Blk (W.setCell ⟨gn, k1, none⟩ (.bool (R (i + 1) (k + 1)))) gr 4 (bA (rowR R i m)) ∧ Below w.heap.size w (W.setCell ⟨gn, k1, none⟩ (.bool (R (i + 1) (k + 1))))) := fun W h1 h2 h3 => by
        refine ⟨?_, h2.far hne0 _, Below.set1 h3 hgw k1 _⟩
        have := h1.set_ k1 (.bool (R (i + 1) (k + 1)))
        rw [bA_set, hk1, frontR_set R (i + 1) m (k + 1) (by omega)] at this
        rw [hk1]; exact this
      have HK := Lib.hid hk1
      clear hk1
      cases hb : R i k with
      | false =>
        rw [hb] at c1 hstep
        rw [Bool.false_and] at hstep
        obtain ⟨⟨b0, c4⟩, f4⟩ := HC.out wr HN.out
        have HE := Lib.hid (HFin.out wr HN.out HRk.out HB.out)
        rw [hstep] at HE
        clear HFin HC HN HRk HB hb hac
        go_wp2_with fail
        go_roundw
        case rel => exact ⟨k1, by have := HK.out; omega, rfl, HE.out.1, HE.out.2.1, HE.out.2.2⟩
        case measure => have := HK.out; simp [intOf]; omega
      | true =>
        rw [hb] at c1 hstep
        rw [Bool.true_and] at hstep
        have HFw := Lib.hid (HF.out wr (hF.bel _ _ HB.out) x hx _ rfl)
        clear hb hx
        go_wp2_with fail
        refine HFw.out.mono ?_; rintro e w2 ⟨rfl, hbl⟩
        have hN2 := HN.out.below hbl HN.out.lt
        have hR2 := HRk.out.below hbl HRk.out.lt
        have hB2 := HB.out.trans (hbl.mono HB.out.size)
        obtain ⟨⟨b0, c4⟩, f4⟩ := HC.out w2 hN2
        have HE := Lib.hid (HFin.out w2 hN2 hR2 hB2)
        rw [hstep] at HE
        clear HFin HC HN HRk HB hN2 hR2 hB2 hbl HFw c1 hac hc
        go_wp2_with fail
        go_roundw
        case rel => exact ⟨k1, by have := HK.out; omega, rfl, HE.out.1, HE.out.2.1, HE.out.2.2⟩
        case measure => have := HK.out; simp [intOf]; omega
    · obtain rfl : k = m := by omega
      have h9 := HN.out
      rw [frontR_end] at h9
      have H9 := Lib.hid h9
      clear h9 HN
      go_wp2_with fail
      go_ret
      exact ⟨gn, rfl, hgw, H9.out, HB.out⟩
/-- one gives the sign for one thing that fits -/
theorem oneB_any {β : Type} (Fr : World → World → Prop) (hF : Frame Fr) (hk : ∀ w W b cs, Blk w b 159 cs → Fr w W → Blk W b 159 cs) (enc : β → Value) (lim : β → Prop) (fv : Value) (fit : β → Bool) (w : World) (hf : FitV Fr enc lim w fv fit) : Calls Tryz.prog 312 #[fv] w fun e w' => ∃ v, e = .returned v ∧ v.oneCell' = true ∧ v.cells = #[v] ∧ StepV Fr enc lim w' v false fit ∧ Below w.heap.size w w' := by
  have hf0 := hf
  obtain ⟨f, caps, ⟨rfl, ef⟩, -⟩ := hf
  have HF := Lib.hid hf0
  clear hf0 ef
  go_enter Tryz.func312, Tryz.ntmps312
  go_wp2_with fail
  go_ret
  refine ⟨_, rfl, rfl, rfl, ⟨317, #[.pointer (some ⟨w.heap.size, 0, none⟩)], ⟨rfl, enters_of Tryz.func317 (by kernel_rfl) rfl⟩, fun W hW bs A c m m1 gr i R e1 e2 e3 e4 e5 e6 e7 args ha => ?_⟩, belowA (Below.refl w.heap.size w) _⟩
  rw [app21] at ha
  subst ha
  have hb := Blk.new w 159 #[.func (.func f) #[] caps]
  exact one1B_any Fr hF enc lim _ fit w.heap.size bs A c m m1 gr i R e1 e2 e3 e4 W ((HF.out.mono hF (hF.bel _ _ (belowA (Below.refl w.heap.size w) _))).mono hF hW) (by rw [(hk _ _ _ _ hb hW).cell]; rfl) e5 e6 e7
set_option maxHeartbeats 4000000 in
/-- the walk over all signs -/
theorem leadsB_any {α β : Type} (Fr : World → World → Prop) (hF : Frame Fr) (enc : β → Value) (lim : β → Prop) (star : α → Bool) (fits : α → β → Bool) (us : List α) (bs : List β) (da : α) (db : β) (fs : List Value) (n : Nat) (A A' : Option Addr) (c c' m : Nat) (hn : us.length = n) (hfs : fs.length = n) (hn2 : n ≤ 1000000) (hm : bs.length = m) (hm2 : m ≤ 1000)
    (hlim : ∀ x ∈ bs, lim x) (w : World) (hs : ∀ j (hj : j < n), StepV Fr enc lim w (fs[j]'(by omega)) (star (us[j]'(by omega))) (fits (us[j]'(by omega)))) (hA : ∀ j (hj : j < n), ∃ g, A = some ⟨g, 0, none⟩ ∧ w.cell? ⟨g, j, none⟩ = some (fs[j]'(by omega))) (hA' : ListAt enc w A' bs) :
    Calls Tryz.prog 311 #[.slice A n c, .slice A' m c'] w fun e w' => e = .returned (.bool (fitL star fits us bs)) ∧ Below w.heap.size w w' := by
  obtain ⟨h1, h2, h3, h4⟩ := fitL_table (star := star) (fits := fits) us bs da db
  have hend : fitL star fits us bs = fitL star fits (us.take n) (bs.take m) := by rw [List.take_of_length_le (by omega), List.take_of_length_le (by omega)]
  rw [hend]
  obtain ⟨R, hR⟩ : ∃ R : Nat → Nat → Bool, R = fun i k => fitL star fits (us.take i) (bs.take k) := ⟨_, rfl⟩
  have hR0 : R 0 0 = true := by rw [hR]; exact h1
  have hR1 : ∀ k, k < m → R 0 (k + 1) = false := fun k hk => by rw [hR]; exact h2 k (by omega)
  have hRs : ∀ j (hj : j < n), stepR (star (us[j]'(by omega))) (fits (us[j]'(by omega))) bs R j := fun j hj => by
    have eu : us.getD j da = us[j]'(by omega) := by rw [List.getD_eq_getElem?_getD, List.getElem?_eq_getElem (by omega)]; rfl
    refine ⟨?_, fun k hk => ?_⟩
    · rw [hR]
      have := h3 j (by omega)
      rwa [eu] at this
    · rw [hR]
      have := h4 j k (by omega) hk
      rwa [eu, show bs.getD k db = bs[k] by rw [List.getD_eq_getElem?_getD, List.getElem?_eq_getElem hk]; rfl] at this
  have hre : fitL star fits (us.take n) (bs.take m) = R n m := by rw [hR]
  rw [hre]
  clear hre hR hend h1 h2 h3 h4
  obtain ⟨m1, hm1⟩ : ∃ m1, m1 = m + 1 := ⟨_, rfl⟩
  have wm : IntKind.i64.wrap ((m : Int) + 1) = (m1 : Int) := by rw [IntKind.wrap_i64]; omega
  have hmk := made_bools m1 (by omega) w
  have hm10 : 0 < m1 := by omega
  have hst : (List.replicate m1 false).set 0 true = rowR R 0 m := by
    rw [← hR0, hm1, ← frontR_zero R 0 m, frontR_set R 0 m 0 (by omega), ← frontR_end R 0 m]
    unfold frontR
    apply List.ext_getElem?
    intro j
    cases j with
    | zero => simp [List.range_succ_eq_map]
    | succ j =>
      by_cases hj : j < m
      · rw [List.getElem?_append_right (by simp), List.getElem?_append_left (by simp; omega)]
        simp [hj, hR1 j hj]
        try omega
      · rw [List.getElem?_eq_none (by simp; omega), List.getElem?_eq_none (by simp; omega)]
  have HB0 := Lib.hid (Blk.new w 4 (bA (List.replicate m1 false)))
  have HBe0 := Lib.hid (belowA (Below.refl w.heap.size w) (.cells (bA (List.replicate m1 false)) 4))
  have hc0 : (w.alloc (.cells (bA (List.replicate m1 false)) 4)).cell? ⟨w.heap.size, 0, none⟩ = some (.bool false) := by
    rw [HB0.out.cell, bA_get, List.getElem?_eq_getElem (by rw [List.length_replicate]; omega), List.getElem_replicate]; rfl
  have hf0 := HB0.out.frozen 0
  have HM1 := Lib.hid hm1
  have HM := Lib.hid hm
  have HST0 := Lib.hid hst
  have HRS := Lib.hid hRs
  have HS := Lib.hid hs
  have HL := Lib.hid hlim
  have HA := Lib.hid hA
  have HA' := Lib.hid hA'
  have HFS := Lib.hid hfs
  clear hst hm1 hm hRs hs hlim hA hA' hR0 hR1
  go_enter Tryz.func311, Tryz.ntmps311
  go_upto_region 2 with fail
  obtain ⟨g0, hg0⟩ : ∃ g0, g0 = w.heap.size := ⟨_, rfl⟩
  have hgg : w.heap.size ≤ g0 := by omega
  rw [← hg0] at hc0 hf0 ⊢
  have HB0' : Hid (Blk (w.alloc (.cells (bA (List.replicate m1 false)) 4)) g0 4 (bA (List.replicate m1 false))) := by rw [hg0]; exact HB0.out
  generalize w.alloc (.cells (bA (List.replicate m1 false)) 4) = wz at HB0' HBe0 hc0 hf0 ⊢
  have HR0 : Hid (Blk (wz.setCell ⟨g0, 0, none⟩ (.bool true)) g0 4 (bA (rowR R 0 m))) := by
    have := HB0'.out.set_ 0 (.bool true)
    rw [bA_set, HST0.out] at this; exact this
  have HBe1 : Hid (Below w.heap.size w (wz.setCell ⟨g0, 0, none⟩ (.bool true))) := Below.set1 HBe0.out hgg 0 _
  clear hg0 hmk HB0
  go_wp2_with fail
  go_loopw [5, 16] (fun rv iv wr => ∃ (k gr : Nat), k ≤ n ∧ iv = .int .i64 k ∧ rv = .slice (some ⟨gr, 0, none⟩) m1 m1 ∧ Hid (Blk wr gr 4 (bA (rowR R k m))) ∧ Hid (Below w.heap.size w wr)) (fun _ iv _ => n - (intOf iv).toNat)
  case atStart => exact ⟨0, g0, Nat.zero_le _, rfl, rfl, HR0.out, HBe1.out⟩
  case round =>
    obtain ⟨k, gr, hk, rfl, rfl, HR, HB⟩ := hrel
    clear HB0' HBe0 hc0 hf0 HR0 HBe1
    by_cases hlt : k < n
    · obtain ⟨g, rfl, hc⟩ := HA.out k hlt
      have hc' : wr.cell? ⟨g, k, none⟩ = some (fs[k]'(by rw [HFS.out]; exact hlt)) := by rw [HB.out.cell (p := ⟨g, k, none⟩) (World.block_lt_of_cell? w _ hc)]; exact hc
      obtain ⟨f, caps, ⟨hv, ef⟩, hf⟩ := HS.out k hlt
      rw [hv] at hc'
      have HFw := Lib.hid (hf wr (hF.bel _ _ HB.out) bs A' c' m m1 gr k R HM.out HM1.out hm2 HL.out (HA'.out.below HB.out) HR.out (HRS.out k hlt) _ rfl)
      clear hf hv hc
      go_wp2_with fail
      refine HFw.out.mono ?_; rintro e w2 ⟨gn, rfl, -, hb2, hbl⟩
      have HR2 := Lib.hid hb2
      have HB2 := Lib.hid (HB.out.trans (hbl.mono HB.out.size))
      clear hb2 hbl HFw HR HB
      go_wp2_with fail
      go_roundw
      case rel => exact ⟨k + 1, gn, by omega, by go_num, rfl, HR2.out, HB2.out⟩
      case measure => simp [intOf]; omega
    · obtain rfl : k = n := by omega
      have hmm : m < m1 := by have := HM1.out; omega
      have c1 : wr.cell? ⟨gr, m, none⟩ = some (.bool (R k m)) := by rw [HR.out.cell, bA_get, rowR_get R k m m (by omega)]; rfl
      clear HR
      go_wp2_with fail
      go_ret
      exact ⟨rfl, HB.out⟩
theorem info_stepB : (Tryz.prog.info? 305).map (fun i => (i.zero, i.size, i.bytes)) = some (some .nilFunc, 1, 8) := by kernel_rfl
end Go.Proofs.YtldffnmoafhidaaGreatDoor
/- The program's sets and pieces of a part of a pattern. -/
set_option linter.unusedVariables false
set_option maxRecDepth 100000
namespace Go.Proofs.YtldffnmoafhidaaGreatDoor
open Go.RowKit
open Go.OpenShut
theorem bang_pre (s : ByteArray) (h : s.data.toList.head? = some 91) : hasPre s ⟨#[91, 33]⟩ = notS (s.data.toList.drop 1) := by
  unfold hasPre notS
  rcases e : s.data.toList with _ | ⟨a, _ | ⟨b, r⟩⟩
  · rw [e] at h; cases h
  · rw [e] at h
    injection h with h
    subst h
    rfl
  · rw [e] at h
    injection h with h
    subst h
    show decide ([91, 33] <+: 91 :: b :: r) = decide (([b] ++ r).head? = some 33)
    congr 1
    simp [List.cons_prefix_cons, eq_comm]
theorem sub_list (s : ByteArray) (k : Nat) : (s.extract k s.size).data.toList = s.data.toList.drop k := by
  rw [ByteArray.data_extract, Array.toList_extract]
  have h : s.data.toList.length = s.size := by simp
  simp only [List.extract]
  exact List.take_of_length_le (by rw [List.length_drop, h]; omega)
theorem pre_list (s : ByteArray) (k : Nat) : (s.extract 0 k).data.toList = s.data.toList.take k := by
  rw [ByteArray.data_extract, Array.toList_extract]
  simp [List.extract]
set_option maxHeartbeats 1000000 in
theorem setSize_any (s : ByteArray) (w : World) (h : s.data.toList.head? = some 91) (hs : s.size ≤ 1000) : Calls Tryz.prog 300 #[.string s] w fun e w' => e = .returned (.int .i64 (szL s.data.toList)) ∧ w = w' := by
  have hl : s.data.toList.length = s.size := by simp
  have h1 : 1 ≤ s.size := by
    rw [← hl]
    rcases e : s.data.toList with _ | ⟨a, r⟩
    · rw [e] at h; cases h
    · simp
  have hHP := fun W => HasPrefix_any s ⟨#[91, 33]⟩ W (by unfold maxLen; omega) (by decide)
  rw [bang_pre s h] at hHP
  have hb : behL s.data.toList = min ((if notS (s.data.toList.drop 1) then 2 else 1) + 1) s.size := by unfold behL; rw [hl]
  have hz : szL s.data.toList = if hasB 93 (s.data.toList.drop (behL s.data.toList)) then behL s.data.toList + pos 93 (s.data.toList.drop (behL s.data.toList)) + 1 else 0 := rfl
  obtain ⟨b, hbb⟩ : ∃ b, b = behL s.data.toList := ⟨_, rfl⟩
  rw [← hbb] at hb hz
  have hib : Hid (∀ W, Calls Tryz.prog 73 #[.string (s.extract b s.size), .int .u8 93] W fun e w' => e = .returned (.int .i64 (if hasB 93 (s.data.toList.drop b) = true then (pos 93 (s.data.toList.drop b) : Int) else -1)) ∧ W = w') := fun W => by
    have := IndexByte_any (s.extract b s.size) 93 W
    rw [sub_list, indexByte_pos] at this
    exact this
  have hle : pos 93 (s.data.toList.drop b) ≤ s.size - b := by
    have := pos_le 93 (s.data.toList.drop b)
    rwa [List.length_drop, hl] at this
  have hbs : b ≤ s.size := by rw [hb]; omega
  rw [hz]
  generalize pos 93 (s.data.toList.drop b) = q at hib hle
  have hE : b = s.size → hasB 93 (s.data.toList.drop b) = false := fun e => by
    rw [List.drop_eq_nil_of_le (by omega)]; rfl
  generalize hasB 93 (s.data.toList.drop b) = y at hib hE
  have HE := Lib.hid hE
  have HHP := Lib.hid hHP
  generalize notS (s.data.toList.drop 1) = z at hb HHP
  have HH := Lib.hid h
  clear hHP hz hbb hE hl h
  have hmin : min (if z then 3 else 2 : Int) (s.size : Int) = (b : Int) := by
    rw [hb]
    cases z <;> simp only [if_true, Bool.false_eq_true, if_false] <;> omega
  have HB := Lib.hid hb
  clear hb
  by_cases hlt : b < s.size
  · cases z with
    | true =>
      simp only [if_true] at hmin
      cases y with
      | true =>
        simp only [if_true] at hib ⊢
        go_enter Tryz.func300, Tryz.ntmps300
        go_wp2_with fail
        refine (HHP.out _).mono ?_; rintro e w' ⟨rfl, rfl⟩
        go_wp2_with fail
        refine (hib.out _).mono ?_; rintro e w' ⟨rfl, rfl⟩
        go_wp2_with fail
        go_ret
        exact ⟨ret_int (by omega), rfl⟩
      | false =>
        simp only [Bool.false_eq_true, if_false] at hib ⊢
        go_enter Tryz.func300, Tryz.ntmps300
        go_wp2_with fail
        refine (HHP.out _).mono ?_; rintro e w' ⟨rfl, rfl⟩
        go_wp2_with fail
        refine (hib.out _).mono ?_; rintro e w' ⟨rfl, rfl⟩
        go_wp2_with fail
        go_ret
        exact ⟨rfl, rfl⟩
    | false =>
      simp only [Bool.false_eq_true, if_false] at hmin
      cases y with
      | true =>
        simp only [if_true] at hib ⊢
        go_enter Tryz.func300, Tryz.ntmps300
        go_wp2_with fail
        refine (HHP.out _).mono ?_; rintro e w' ⟨rfl, rfl⟩
        go_wp2_with fail
        refine (hib.out _).mono ?_; rintro e w' ⟨rfl, rfl⟩
        go_wp2_with fail
        go_ret
        exact ⟨ret_int (by omega), rfl⟩
      | false =>
        simp only [Bool.false_eq_true, if_false] at hib ⊢
        go_enter Tryz.func300, Tryz.ntmps300
        go_wp2_with fail
        refine (HHP.out _).mono ?_; rintro e w' ⟨rfl, rfl⟩
        go_wp2_with fail
        refine (hib.out _).mono ?_; rintro e w' ⟨rfl, rfl⟩
        go_wp2_with fail
        go_ret
        exact ⟨rfl, rfl⟩
  · have hbe : b = s.size := by omega
    have hy := HE.out hbe
    subst hy
    subst hbe
    simp only [Bool.false_eq_true, if_false] at hib ⊢
    rw [show s.extract s.size s.size = ByteArray.empty by rw [← ByteArray.size_eq_zero_iff, ByteArray.size_extract]; omega] at hib
    cases z with
    | true =>
      simp only [if_true] at hmin
      go_enter Tryz.func300, Tryz.ntmps300
      go_wp2_with fail
      refine (HHP.out _).mono ?_; rintro e w' ⟨rfl, rfl⟩
      go_wp2_with fail
      refine (hib.out _).mono ?_; rintro e w' ⟨rfl, rfl⟩
      go_wp2_with fail
      go_ret
      exact ⟨rfl, rfl⟩
    | false =>
      simp only [Bool.false_eq_true, if_false] at hmin
      go_enter Tryz.func300, Tryz.ntmps300
      go_wp2_with fail
      refine (HHP.out _).mono ?_; rintro e w' ⟨rfl, rfl⟩
      go_wp2_with fail
      refine (hib.out _).mono ?_; rintro e w' ⟨rfl, rfl⟩
      go_wp2_with fail
      go_ret
      exact ⟨rfl, rfl⟩
set_option maxHeartbeats 2000000 in
theorem pieces_any (s : ByteArray) (hs : s.size ≤ 1000) (w : World) : Calls Tryz.prog 277 #[.string s] w fun e w' => ∃ v, e = .returned (.tuple #[v, .bool (pieceF s.data.toList).isSome]) ∧ Texts w' w.heap.size v ((pieceF s.data.toList).getD []) ∧ Below w.heap.size w w' := by
  go_enter Tryz.func277, Tryz.ntmps277
  go_wp2_with fail
  go_loopw [0, 4] (fun cv lv wr => ∃ (c : ByteArray) (ps : List (List UInt8)), cv = .string c ∧ c.size ≤ s.size ∧ ps.length ≤ s.size - c.size ∧ Hid (Texts wr w.heap.size lv ps) ∧ Hid (pieceF s.data.toList = (pieceF c.data.toList).map fun qs => ps ++ qs) ∧ Hid (Below w.heap.size w wr)) (fun cv _ _ => strLen cv)
  case atStart => exact ⟨s, [], rfl, Nat.le_refl _, Nat.zero_le _, Texts.nil _ _, by unfold Hid; simp, Below.refl _ _⟩
  case round =>
    obtain ⟨c, ps, rfl, hcs, hpl, HT, HI, HB⟩ := hrel
    obtain ⟨v0, hv0⟩ : ∃ v0, v0 = u4 := ⟨_, rfl⟩
    subst hv0
    have hcl : c.data.toList.length = c.size := by simp
    by_cases hlt : 0 < c.size
    · have hne : c.data.toList ≠ [] := fun h => by rw [h] at hcl; simp at hcl; omega
      have e0 : c.toList.isEmpty = false := toList_ne hne
      have hstep := pieceF_step hne
      have hnl := pieceN_le c.data.toList hne
      rw [hcl] at hnl
      have hhd : c.data.toList.head? = some c[0] := by
        rcases e : c.data.toList with _ | ⟨a, r⟩
        · exact absurd e hne
        · have h3 : c[0] = c.data.toList[0]'(by omega) := rfl
          rw [h3]; simp [e]
      have hN : pieceN c.data.toList = if c[0] = 91 then szL c.data.toList else 1 := by
        unfold pieceN; rw [hhd]; simp
      obtain ⟨n, hn⟩ : ∃ n, n = pieceN c.data.toList := ⟨_, rfl⟩
      rw [← hn] at hstep hnl hN
      have HSt := Lib.hid hstep
      have HHd := Lib.hid hhd
      have HNn := Lib.hid hN
      have hb1 : ∀ b0 : Bool, ((c[0].toNat : Int) == 91) = b0 → (b0 = true → c[0] = 91) ∧ (b0 = false → c[0] ≠ 91) := fun b0 h => by
        have h9 : ((c[0].toNat : Int) == 91) = decide (c[0] = 91) := byte_eq c[0] 91
        rw [h9] at h
        subst h
        exact ⟨fun h => of_decide_eq_true h, fun h => of_decide_eq_false h⟩
      obtain ⟨b0, hb0⟩ : ∃ b0 : Bool, ((c[0].toNat : Int) == 91) = b0 := ⟨_, rfl⟩
      have HB1 := Lib.hid (hb1 b0 hb0)
      clear hstep hhd hN hn hne hcl hb1
      go_upto_if 10 with fail
      clear hb0
      go_cut [5] (fun nv wx => nv = .int .i64 n ∧ wr = wx)
      case first =>
        have hN := HNn.out
        cases b0 with
        | true =>
          have h91 := HB1.out.1 rfl
          rw [if_pos h91] at hN
          have HZ : Hid (Calls Tryz.prog 300 #[.string c] wr fun e w' => e = .returned (.int .i64 n) ∧ wr = w') := by
            have := setSize_any c wr (by rw [HHd.out, h91]) (by omega)
            rw [← hN] at this; exact this
          clear hN h91
          go_wp2_with fail
          refine HZ.out.mono ?_; rintro e w' ⟨rfl, rfl⟩
          go_wp2_with fail
          go_meet
          exact ⟨rfl, rfl⟩
        | false =>
          rw [if_neg (HB1.out.2 rfl)] at hN
          subst hN
          go_wp2_with fail
          go_meet
          exact ⟨rfl, rfl⟩
      case rest =>
      obtain ⟨rfl, hwx⟩ := hcut
      subst hwx
      by_cases hz : n = 0
      · have hst := HSt.out
        rw [if_pos hz] at hst
        have hI := HI.out
        rw [hst, Option.map_none] at hI
        have HI2 := Lib.hid hI
        have hz2 : ((n : Int) == 0) = true := by simpa using hz
        clear hst hI HSt HNn HHd hz
        go_wp2_with fail
        refine bodyPost_ret (v := .tuple #[.slice none 0 0, .bool false]) (by simp [results, Tryz.results277, go_sem, *]) rfl ?_
        exact ⟨_, by rw [HI2.out]; rfl, by rw [HI2.out]; exact Texts.nil _ _, HB.out⟩
      · have hst := HSt.out
        rw [if_neg hz] at hst
        have hI := HI.out
        rw [hst, Option.map_map] at hI
        have HI2 := Lib.hid hI
        have hz2 : ((n : Int) == 0) = false := by simpa using hz
        have hz3 : 0 < n := by omega
        have hpl2 : (ps.length + 1) * 16 ≤ 140737488355328 := by omega
        clear hst hI HSt HNn HHd hz
        go_wp2_with (at_builtin; refine Stay.go ?_)
        refine Stay.on ?_
        have hlit := Texts.lit (w := wr) [c.data.toList.take n] (by show 1 ≤ maxLen; decide)
        rw [show (strC [c.data.toList.take n]).toArray = #[.string (c.extract 0 n)] from by
          show #[Value.string ⟨(c.data.toList.take n).toArray⟩] = _
          exact congrArg (fun z : ByteArray => #[Value.string z]) (ByteArray.ext (Array.toList_inj.1 (by rw [pre_list])))] at hlit
        have hlit2 : Texts (wr.alloc (.cells #[.string (c.extract 0 n)] 9)) w.heap.size (.slice (some ⟨wr.heap.size, 0, none⟩) 1 1) [c.data.toList.take n] := own_mono hlit HB.out.size
        have hT2 := HT.out.below ((Below.refl wr.heap.size wr).alloc (Nat.le_refl _) (.cells #[.string (c.extract 0 n)] 9))
        have hB2 := HB.out.alloc HB.out.size (.cells #[.string (c.extract 0 n)] 9)
        refine append_texts rfl (.tmp 15) (.tmp 19) rfl w.heap.size v0 ps rfl hT2 w.heap.size _ [c.data.toList.take n] rfl hlit2 hpl2 hB2.size ?_
        intro v9 w9 ho9 hg9
        have HT9 := Lib.hid ho9
        have HB9 : Hid (Below w.heap.size w w9) := hB2.grown hg9 hB2.size fun k hk => (World.ownsRow.lt hT2 k hk).1
        have hcx : (c.extract n c.size).data.toList = c.data.toList.drop n := sub_list c n
        have hcy : (c.extract n c.size).size = c.size - n := by rw [ByteArray.size_extract]; omega
        have HCX := Lib.hid hcx
        have HCY := Lib.hid hcy
        clear hlit hlit2 hT2 hB2 ho9 hg9 hcx hcy hpl2
        go_wp2_with fail
        go_roundw
        case rel =>
          refine ⟨_, ps ++ [c.data.toList.take n], rfl, by rw [HCY.out]; omega, by rw [HCY.out, List.length_append, List.length_singleton]; omega, HT9.out, ?_, HB9.out⟩
          unfold Hid
          rw [HI2.out, HCX.out]
          congr 1; funext qs; simp
        case measure => simp only [strLen]; rw [HCY.out]; omega
    · have hnil : c.data.toList = [] := List.eq_nil_of_length_eq_zero (by omega)
      have e0 : c.toList = [] := toList_nil hnil
      have hI := HI.out
      rw [hnil, pieceF_nil, Option.map_some, List.append_nil] at hI
      have HI2 := Lib.hid hI
      clear hI HI hnil
      go_wp2_with fail
      refine bodyPost_ret (v := .tuple #[v0, .bool true]) (by simp [results, Tryz.results277, go_sem, *]) rfl ?_
      exact ⟨v0, by rw [HI2.out]; rfl, by rw [HI2.out]; exact HT.out, HB.out⟩
end Go.Proofs.YtldffnmoafhidaaGreatDoor
/- The program's sets of bytes. -/
set_option linter.unusedVariables false
set_option maxRecDepth 100000
namespace Go.Proofs.YtldffnmoafhidaaGreatDoor
open Go.RowKit
open Go.OpenShut
def setC (f : UInt8 → Bool) : Array Value := (bitsC f).toArray
theorem zero_set (W : World) : (zeroValue 102).run Tryz.prog W = .ok (.agg (setC fun _ => false)) W := by kernel_rfl
/-- a set's block -/
def SetB (W : World) (g : Nat) (f : UInt8 → Bool) : Prop := Blk W g 102 (setC f)
variable {W : World} {g : Nat} {f : UInt8 → Bool}
theorem SetB.at (h : SetB W g f) (j : Nat) (hj : j < 256) : W.cell? ⟨g, j, none⟩ = some (.bool (f (UInt8.ofNat j))) ∧ W.frozen? ⟨g, j, none⟩ = false := by
  refine ⟨?_, h.frozen _⟩
  rw [h.cell]
  unfold setC
  rw [List.getElem?_toArray, bitsC_at f j hj]
theorem setC_set (v : Bool) (f g : UInt8 → Bool) (q : Nat) (hg : ∀ x, g x = if x.toNat = q then v else f x) : (setC f).setIfInBounds q (.bool v) = setC g := by
  unfold setC
  rw [List.setIfInBounds_toArray]
  congr 1
  apply List.ext_getElem?
  intro j
  by_cases hj : j < 256
  · have e : (UInt8.ofNat j).toNat = j := by rw [UInt8.toNat_ofNat']; omega
    rw [bitsC_at g j hj, hg, e]
    by_cases hc : j = q
    · rw [if_pos hc, ← hc, List.getElem?_set_self (by rw [bitsC_len]; exact hj)]
    · rw [if_neg hc, List.getElem?_set_ne (fun h => hc h.symm), bitsC_at f j hj]
  · rw [List.getElem?_eq_none (by rw [List.length_set, bitsC_len]; omega), List.getElem?_eq_none (by rw [bitsC_len]; omega)]
theorem SetB.put (h : SetB W g f) (j : Nat) (v : Bool) (f' : UInt8 → Bool) (hf : ∀ x, f' x = if x.toNat = j then v else f x) : SetB (W.setCell ⟨g, j, none⟩ (.bool v)) g f' := by
  have := h.set_ j (.bool v)
  rwa [setC_set v f f' j hf] at this
theorem SetB.same (h : SetB W g f) {f' : UInt8 → Bool} (hf : ∀ x, f x = f' x) : SetB W g f' := by
  rwa [show f' = f from funext fun x => (hf x).symm]
/-- bytes in memory -/
def encB (x : UInt8) : Value := .int .u8 x.toNat
def limB (_ : UInt8) : Prop := True
theorem bang_has (l : List UInt8) : Lib.hasPrefix l [33] = notS l := by
  cases l with
  | nil => rfl
  | cons c r =>
    show (33 == c && List.isPrefixOf [] r) = decide (some c = some 33)
    by_cases h : c = 33
    · subst h; rfl
    · rw [decide_eq_false (by simpa using h)]
      simp [beq_eq_false_iff_ne.2 (Ne.symm h)]
theorem bang_trim (l : List UInt8) : Lib.trimPrefix l [33] = if notS l then l.drop 1 else l := by
  unfold Lib.trimPrefix; rw [bang_has]; rfl
set_option maxHeartbeats 1000000 in
theorem set1_any (f : UInt8 → Bool) (nt : Bool) (a b : Nat) (W : World) (h1 : SetB W a f) (h2 : W.cell? ⟨b, 0, none⟩ = some (.bool nt)) (x : UInt8) :
    Calls Tryz.prog 318 #[.int .u8 x.toNat, .pointer (some ⟨a, 0, none⟩), .pointer (some ⟨b, 0, none⟩)] W fun e w' => e = .returned (.bool (f x != nt)) ∧ ∃ n, w' = W.drewN n := by
  have hu : x.toNat < 256 := x.toNat_lt
  have hc := (h1.at x.toNat hu).1
  rw [UInt8.ofNat_toNat] at hc
  clear h1
  go_enter Tryz.func318, Tryz.ntmps318
  go_wp2_with fail
  go_quiet (fail)
  go_wp2_with fail
  go_ret
  exact ⟨rfl, _, rfl⟩
theorem setM_step (s : ByteArray) (hs : 0 < s.size) (acc : UInt8 → Bool) :
    ∃ (n : Nat) (hi : UInt8) (rg : Bool), 1 ≤ n ∧ n ≤ s.size ∧ setM acc s.data.toList = setM (fun x => acc x || span s[0] hi x) (s.data.toList.drop n) ∧
      (∀ h : 2 < s.size, ((s[1].toNat : Int) == 45) = rg) ∧ (¬ 2 < s.size → rg = false) ∧ (rg = true → ∃ h : 2 < s.size, n = 3 ∧ hi = s[2]) ∧ (rg = false → n = 1 ∧ hi = s[0]) := by
  have e0 := drop_at s 0 hs
  rw [List.drop_zero] at e0
  by_cases h2 : 2 < s.size
  · have e1 := drop_at s 1 (by omega)
    have e2 := drop_at s 2 h2
    have hb : ((s[1].toNat : Int) == 45) = decide (s[1] = 45) := byte_eq s[1] 45
    by_cases hr : s[1] = 45
    · refine ⟨3, s[2], true, by omega, h2, ?_, fun _ => by rw [hb]; exact decide_eq_true hr, fun h => absurd h2 h, fun _ => ⟨h2, rfl, rfl⟩, fun h => by cases h⟩
      conv => lhs; rw [e0, e1, e2, hr, setM_rng]
    · refine ⟨1, s[0], false, by omega, hs, ?_, fun _ => by rw [hb]; exact decide_eq_false hr, fun _ => rfl, fun h => (by cases h), fun _ => ⟨rfl, rfl⟩⟩
      conv => lhs; rw [e0, setM_one _ _ _ (by
        intro h r e
        rw [e1] at e
        injection e with ea _
        exact hr ea)]
  · refine ⟨1, s[0], false, by omega, hs, ?_, fun h => absurd h h2, fun _ => rfl, fun h => (by cases h), fun _ => ⟨rfl, rfl⟩⟩
    conv => lhs; rw [e0, setM_one _ _ _ (by
      intro h r e
      have := congrArg List.length e
      have h3 : s.data.toList.length = s.size := by simp
      rw [List.length_drop, h3, List.length_cons, List.length_cons] at this; omega)]
set_option maxHeartbeats 8000000 in
theorem set_any (Fr : World → World → Prop) (hk1 : ∀ w W b cs, Blk w b 102 cs → Fr w W → Blk W b 102 cs) (hk2 : ∀ w W b cs, Blk w b 4 cs → Fr w W → Blk W b 4 cs) (q : ByteArray) (hq : q.size ≤ 1000) (w : World) : Calls Tryz.prog 313 #[.string q] w fun e w' => ∃ v, e = .returned v ∧ FitV Fr encB limB w' v (setT q.data.toList) ∧ Below w.heap.size w w' := by
  have hCP : ∀ W, Calls Tryz.prog 213 #[.string q, .string ⟨#[33]⟩] W fun e w' => e = .returned (.tuple #[.string (bs (if notS q.data.toList then q.data.toList.drop 1 else q.data.toList)), .bool (notS q.data.toList)]) ∧ W = w' := fun W => by
    have h := Tryz.strings_CutPrefix q ⟨#[33]⟩ W
    rw [show (⟨#[33]⟩ : ByteArray).data.toList = [33] from rfl, bang_has, bang_trim] at h
    exact h.mono fun e w' ⟨a, b⟩ => ⟨a, b.symm⟩
  have hT : ∀ x, setT q.data.toList x = (setM (fun _ => false) (if notS q.data.toList then q.data.toList.drop 1 else q.data.toList) x != notS q.data.toList) := fun x => by
    unfold setT; cases notS q.data.toList <;> simp
  have hml : (if notS q.data.toList then q.data.toList.drop 1 else q.data.toList).length ≤ 1000 := by
    have hl : q.data.toList.length = q.size := by simp
    split
    · rw [List.length_drop]; omega
    · omega
  generalize setT q.data.toList = F at hT ⊢
  generalize hM : (if notS q.data.toList then q.data.toList.drop 1 else q.data.toList) = M at hCP hT hml
  clear hM
  generalize notS q.data.toList = nt at hCP hT
  have HT := Lib.hid hT
  have HCP := Lib.hid hCP
  have hms : (bs M).size ≤ 1000 := by rw [bs_size]; exact hml
  have hmb : (bs M).data.toList = M := bs_list M
  rw [← hmb] at HT
  generalize bs M = m0 at HCP hms HT
  clear hT hCP hml hmb
  have hz := zero_set
  have HZ0 : Hid (∀ W : World, SetB (W.alloc (.cells (setC fun _ => false) 102)) W.heap.size fun _ => false) := fun W => Blk.new W 102 _
  generalize (setC fun _ => false) = z at hz HZ0
  go_enter Tryz.func313, Tryz.ntmps313
  go_wp2_with fail
  refine (HCP.out _).mono ?_; rintro e w' ⟨rfl, rfl⟩
  go_upto_region 2 with fail
  have HN1 := Lib.hid (Blk.new w 4 #[.bool nt])
  have HB1 := Lib.hid (belowA (Below.refl w.heap.size w) (.cells #[.bool nt] 4))
  obtain ⟨b4, hb4⟩ : ∃ b4, b4 = w.heap.size := ⟨_, rfl⟩
  rw [← hb4] at HN1 ⊢
  have hb4w : w.heap.size ≤ b4 := by omega
  generalize w.alloc (.cells #[.bool nt] 4) = w1 at HN1 HB1 ⊢
  clear hb4
  go_upto_region 3 with fail
  have HS2 := Lib.hid (HZ0.out w1)
  have HN2 := Lib.hid (HN1.out.alloc (.cells z 102))
  have HB2 := Lib.hid (belowA HB1.out (.cells z 102))
  have hne0 : b4 ≠ w1.heap.size := by have := HN1.out.lt; omega
  obtain ⟨b5, hb5⟩ : ∃ b5, b5 = w1.heap.size := ⟨_, rfl⟩
  have hb5w : w.heap.size ≤ b5 := by have := HB1.out.size; omega
  rw [← hb5] at HS2 hne0 ⊢
  generalize w1.alloc (.cells z 102) = w2 at HS2 HN2 HB2 ⊢
  clear hb5 hz HZ0 HN1 HB1
  go_wp2_with fail
  go_loopw [3] (fun mv wr => ∃ (m : ByteArray) (acc : UInt8 → Bool), mv = .string m ∧ m.size ≤ 1000 ∧ Hid (SetB wr b5 acc) ∧ Hid (Blk wr b4 4 #[.bool nt]) ∧ Hid (setM (fun _ => false) m0.data.toList = setM acc m.data.toList) ∧ Hid (Below w.heap.size w wr)) (fun mv _ => strLen mv)
  case atStart => exact ⟨m0, _, rfl, hms, HS2.out, HN2.out, rfl, HB2.out⟩
  case round =>
    obtain ⟨m, acc, rfl, hmm, HS, HN, HI, HB⟩ := hrel
    clear HS2 HN2 HB2
    have hml : m.data.toList.length = m.size := by simp
    by_cases hlt : 0 < m.size
    · have hne : m.data.toList ≠ [] := fun h => by rw [h] at hml; simp at hml; omega
      have e0 : m.toList.isEmpty = false := toList_ne hne
      obtain ⟨n, hi, rg, hn1, hn2, hstep, hr1, hr2, hr3, hr4⟩ := setM_step m hlt acc
      have HSt := Lib.hid hstep
      have HR1 := Lib.hid hr1
      have HR2 := Lib.hid hr2
      have HR3 := Lib.hid hr3
      have HR4 := Lib.hid hr4
      have hlo : m[0].toNat < 256 := m[0].toNat_lt
      have hhi : hi.toNat < 256 := hi.toNat_lt
      clear hne hml hstep hr1 hr2 hr3 hr4
      go_upto_region 4 with fail
      go_cut [6, 7] (fun nv lv wx => nv = .int .i64 1 ∧ lv = .int .u8 m[0].toNat ∧ ∃ d, wx = wr.drewN d)
      case first =>
        go_quiet (fail)
        go_wp2_with fail
        go_meet
        exact ⟨rfl, rfl, _, rfl⟩
      case rest =>
      obtain ⟨rfl, rfl, d, hwx⟩ := hcut
      subst hwx
      have HS' : Hid (SetB (wr.drewN d) b5 acc) := HS.out
      have HN' : Hid (Blk (wr.drewN d) b4 4 #[.bool nt]) := HN.out
      have HB' : Hid (Below w.heap.size w (wr.drewN d)) := drewN_below HB.out d
      generalize wr.drewN d = wq at HS' HN' HB' ⊢
      clear HS HN HB
      go_upto_region 5 with fail
      go_cut [25] (fun bv wx => bv = .bool rg ∧ wq = wx)
      case first =>
        by_cases h2 : 2 < m.size
        · have hr := HR1.out h2
          have h2' : (2 : Int) < (m.size : Int) := by omega
          go_wp2_with fail
          go_meet
          exact ⟨rfl, rfl⟩
        · have hr := HR2.out h2
          have h2' : ¬ (2 : Int) < (m.size : Int) := by omega
          subst hr
          go_wp2_with fail
          go_meet
          exact ⟨rfl, rfl⟩
      case rest =>
      obtain ⟨rfl, hwx⟩ := hcut
      subst hwx
      go_upto_if 25 with fail
      go_cut [6, 7] (fun nv lv wx => nv = .int .i64 n ∧ lv = .int .u8 hi.toNat ∧ ∃ d, wx = wq.drewN d)
      case first =>
        cases rg with
        | true =>
          obtain ⟨h2, rfl, rfl⟩ := HR3.out rfl
          have h2' : (2 : Int) < (m.size : Int) := by omega
          go_wp2_with fail
          go_quiet (fail)
          go_wp2_with fail
          go_meet
          exact ⟨rfl, rfl, _, rfl⟩
        | false =>
          obtain ⟨rfl, rfl⟩ := HR4.out rfl
          go_wp2_with fail
          go_meet
          exact ⟨rfl, rfl, 0, rfl⟩
      case rest =>
      obtain ⟨rfl, rfl, d2, hwx⟩ := hcut
      subst hwx
      have HS : Hid (SetB (wq.drewN d2) b5 acc) := HS'.out
      have HN : Hid (Blk (wq.drewN d2) b4 4 #[.bool nt]) := HN'.out
      have HB : Hid (Below w.heap.size w (wq.drewN d2)) := drewN_below HB'.out d2
      generalize wq.drewN d2 = ws at HS HN HB ⊢
      clear HS' HN' HB' HR1 HR2 HR3 HR4
      go_wp2_with fail
      go_loopw [8] (fun jv wy => ∃ j : Nat, m[0].toNat ≤ j ∧ j ≤ 256 ∧ (j ≤ hi.toNat + 1 ∨ j = m[0].toNat) ∧ jv = .int .i64 j ∧ Hid (SetB wy b5 (fun x => acc x || decide (m[0].toNat ≤ x.toNat ∧ x.toNat < j))) ∧ Hid (Blk wy b4 4 #[.bool nt]) ∧ Hid (Below w.heap.size w wy)) (fun jv _ => 256 - (intOf jv).toNat)
      case atStart => exact ⟨m[0].toNat, Nat.le_refl _, by omega, .inr rfl, rfl, HS.out.same (fun x => by
        rw [decide_eq_false (by omega), Bool.or_false]), HN.out, HB.out⟩
      case round =>
        obtain ⟨j, hlj, hj, hjj, rfl, HTj, HNj, HBj⟩ := hrel
        rename World => wz
        clear HS HN HB
        by_cases hle : j ≤ hi.toNat
        · have hj2 : j < 256 := by omega
          have hle' : (j : Int) ≤ (hi.toNat : Int) := by omega
          obtain ⟨hcell, hfro⟩ := HTj.out.at j hj2
          have HTn : Hid (SetB (wz.setCell ⟨b5, j, none⟩ (.bool true)) b5 fun x => acc x || decide (m[0].toNat ≤ x.toNat ∧ x.toNat < j + 1)) := HTj.out.put j true _ (fun x => by
            by_cases hx : x.toNat = j
            · rw [if_pos hx, decide_eq_true (by omega), Bool.or_true]
            · rw [if_neg hx]
              congr 2
              rw [eq_iff_iff]; omega)
          have HNn := Lib.hid (HNj.out.far (p := ⟨b5, j, none⟩) hne0 (.bool true))
          have HBn : Hid (Below w.heap.size w (wz.setCell ⟨b5, j, none⟩ (.bool true))) := Below.set1 HBj.out hb5w _ _
          clear HTj HBj HNj
          go_wp2_with fail
          go_roundw
          case rel => exact ⟨j + 1, by omega, by omega, .inl (by omega), by go_num, HTn.out, HNn.out, HBn.out⟩
          case measure => simp [intOf]; omega
        · have hle' : ¬ (j : Int) ≤ (hi.toNat : Int) := by omega
          have HTf : Hid (SetB wz b5 fun x => acc x || span m[0] hi x) := HTj.out.same (fun x => by
            unfold span
            congr 2
            rw [eq_iff_iff, UInt8.le_iff_toNat_le, UInt8.le_iff_toNat_le]; omega)
          have hcx : (m.extract n m.size).data.toList = m.data.toList.drop n := sub_list m n
          have hcy : (m.extract n m.size).size = m.size - n := by rw [ByteArray.size_extract]; omega
          have HCX := Lib.hid hcx
          have HCY := Lib.hid hcy
          clear HTj hcx hcy
          go_wp2_with fail
          go_roundw
          case rel => exact ⟨_, _, rfl, by rw [HCY.out]; omega, HTf.out, HNj.out, by
            unfold Hid
            rw [HI.out, HSt.out, HCX.out], HBj.out⟩
          case measure => simp only [strLen]; rw [HCY.out]; omega
    · have hnil : m.data.toList = [] := List.eq_nil_of_length_eq_zero (by omega)
      have e0 : m.toList = [] := toList_nil hnil
      have hI := HI.out
      rw [hnil, setM_nil] at hI
      have HT2 : Hid (∀ x, F x = (acc x != nt)) := fun x => by rw [HT.out x, hI]
      clear hI HI hnil HT
      go_wp2_with fail
      go_ret
      refine ⟨_, rfl, ⟨318, #[.pointer (some ⟨b5, 0, none⟩), .pointer (some ⟨b4, 0, none⟩)], ⟨rfl, enters_of Tryz.func318 (by kernel_rfl) rfl⟩, fun W hW x _ args ha => ?_⟩, HB.out⟩
      rw [app12] at ha
      subst ha
      refine (set1_any acc nt b5 b4 W (hk1 _ _ _ _ HS.out hW) (by rw [(hk2 _ _ _ _ HN.out hW).cell]; rfl) x).mono ?_
      rintro e w' ⟨rfl, n, rfl⟩
      exact ⟨by rw [HT2.out], drewN_below (Below.refl _ _) n⟩
end Go.Proofs.YtldffnmoafhidaaGreatDoor
/- The program's signs of a part: byteStep, partFits. -/
set_option linter.unusedVariables false
set_option maxRecDepth 100000
namespace Go.Proofs.YtldffnmoafhidaaGreatDoor
open Go.RowKit
open Go.OpenShut
theorem bs1_any (v : Value) (W : World) : Calls Tryz.prog 315 #[v] W fun e w' => e = .returned (.bool true) ∧ W = w' := by
  go_enter Tryz.func315, Tryz.ntmps315
  go_wp2_with fail
  go_ret
  exact ⟨rfl, rfl⟩
theorem bs2_any (x c : UInt8) (b : Nat) (W : World) (h : W.cell? ⟨b, 0, none⟩ = some (.int .u8 c.toNat)) : Calls Tryz.prog 316 #[.int .u8 x.toNat, .pointer (some ⟨b, 0, none⟩)] W fun e w' => e = .returned (.bool (decide (x = c))) ∧ W = w' := by
  have hq := byte_eq x c
  go_enter Tryz.func316, Tryz.ntmps316
  go_wp2_with fail
  go_ret
  exact ⟨rfl, rfl⟩
/-- all stays but lists of signs -/
def frT (w W : World) : Prop := ∀ (g : Nat) (cs : Array Value) (t : TypeId) (fr : Nat × Nat), w.heap[g]? = some (.cells cs t fr) → t ≠ 303 → t ≠ 305 → t ≠ 294 → W.heap[g]? = some (.cells cs t fr)
theorem gq_lt {w : World} {g : Nat} {o : Obj} (h : w.heap[g]? = some o) : g < w.heap.size := by
  rcases Nat.lt_or_ge g w.heap.size with hlt | hge
  · exact hlt
  · rw [Array.getElem?_eq_none hge] at h; cases h
theorem frT_frame : Frame frT := ⟨fun w W h g cs t fr hg _ _ _ => (h.block g (gq_lt hg)).trans hg, fun _ _ _ h h2 g cs t fr hg a b c => h2 g cs t fr (h g cs t fr hg a b c) a b c⟩
theorem frT_blk {w W : World} {b t : Nat} {cs : Array Value} (ht : t ≠ 303 ∧ t ≠ 305 ∧ t ≠ 294) (h : Blk w b t cs) (hf : frT w W) : Blk W b t cs := hf b cs t (0, 0) h ht.1 ht.2.1 ht.2.2
/-- all stays but lists of a path's signs -/
def frP (w W : World) : Prop := ∀ (g : Nat) (cs : Array Value) (t : TypeId) (fr : Nat × Nat), w.heap[g]? = some (.cells cs t fr) → t ≠ 294 → W.heap[g]? = some (.cells cs t fr)
theorem frP_frame : Frame frP := ⟨fun w W h g cs t fr hg _ => (h.block g (gq_lt hg)).trans hg, fun _ _ _ h h2 g cs t fr hg a => h2 g cs t fr (h g cs t fr hg a) a⟩
theorem frP_blk {w W : World} {b t : Nat} {cs : Array Value} (ht : t ≠ 294) (h : Blk w b t cs) (hf : frP w W) : Blk W b t cs := hf b cs t (0, 0) h ht
theorem frP_T {w W : World} (h : frP w W) : frT w W := fun g cs t fr hg _ _ c => h g cs t fr hg c
theorem Fns.frP {w w' : World} {B t : Nat} {v : Value} {fs : List Value} (ht : t ≠ 294) (h : Fns w B t v fs) (hk : frP w w') : Fns w' B t v fs := own_heap h fun g hg => by
  obtain ⟨_, cur, hc⟩ := own_block h g hg
  rw [hk _ _ _ _ hc ht, hc]
theorem inner_list (q : ByteArray) (k : Nat) (hk : k + 1 = q.size) : (q.extract 1 k).data.toList = innL q.data.toList := by
  have hl : q.data.toList.length = q.size := by simp
  unfold innL
  rw [ByteArray.data_extract, Array.toList_extract, hl, List.extract, List.drop_take]
  congr 1; omega
theorem pieceT_set {q : List UInt8} (h : 1 < q.length) : pieceT q = (false, setT (innL q)) := if_pos h
theorem pieceT_one (c : UInt8) : pieceT [c] = if c = 42 then (true, span 42 42) else if c = 63 then (false, fun _ => true) else (false, span c c) := by
  unfold pieceT
  rw [if_neg (by simp)]
  simp only [List.head?_cons, Option.some.injEq, List.headD_cons]
set_option maxHeartbeats 2000000 in
theorem byteStep_any (q : ByteArray) (h1 : 1 ≤ q.size) (hq : q.size ≤ 1000) (w : World) : Calls Tryz.prog 309 #[.string q] w fun e w' => ∃ v, e = .returned v ∧ v.oneCell' = true ∧ v.cells = #[v] ∧ StepV frT encB limB w' v (tokStar (pieceT q.data.toList)) (tokFits (pieceT q.data.toList)) ∧ Below w.heap.size w w' := by
  have hl : q.data.toList.length = q.size := by simp
  by_cases h : 1 < q.size
  · rw [pieceT_set (by omega)]
    obtain ⟨k, hk⟩ : ∃ k, k + 1 = q.size := ⟨q.size - 1, by omega⟩
    have hS := fun W => set_any frT (fun _ _ _ _ => frT_blk (by decide)) (fun _ _ _ _ => frT_blk (by decide)) (q.extract 1 k) (by rw [ByteArray.size_extract]; omega) W
    rw [inner_list q k hk] at hS
    have HS := Lib.hid hS
    have wk : IntKind.i64.wrap ((q.size : Int) - 1) = (k : Int) := by rw [IntKind.wrap_i64]; omega
    generalize setT (innL q.data.toList) = F at HS ⊢
    have hk1 : 1 ≤ k := by omega
    have hk2 : k ≤ q.size := by omega
    clear hS hl hk
    go_enter Tryz.func309, Tryz.ntmps309
    go_wp2_with fail
    refine (HS.out _).mono ?_; rintro e w1 ⟨fv, rfl, hF, hB⟩
    have HF := Lib.hid hF
    have HB := Lib.hid hB
    clear hF hB
    go_wp2_with fail
    refine (oneB_any frT frT_frame (fun _ _ _ _ => frT_blk (by decide)) encB limB fv _ _ HF.out).mono ?_; rintro e w2 ⟨v, rfl, e1, e2, hs, hB2⟩
    have HB2 := Lib.hid (HB.out.trans (hB2.mono HB.out.size))
    have HS2 := Lib.hid hs
    have HE := Lib.hid (And.intro e1 e2)
    clear hs hB2 e1 e2
    go_wp2_with fail
    go_ret
    exact ⟨v, rfl, HE.out.1, HE.out.2, HS2.out, HB2.out⟩
  · have e1 : q.size = 1 := by omega
    have h0 : 0 < q.size := by omega
    have eq : q.data.toList = [q[0]] := by
      have e0 := drop_at q 0 h0
      rw [List.drop_zero] at e0
      rw [e0, List.drop_eq_nil_of_le (by omega)]
    rw [eq, pieceT_one]
    have hcl : q[0].toNat < 256 := q[0].toNat_lt
    have h' : ¬ (1 : Int) < (q.size : Int) := by omega
    have hnb := Blk.new w 5 #[.int .u8 q[0].toNat]
    have HB1 := Lib.hid (belowA (Below.refl w.heap.size w) (.cells #[.int .u8 q[0].toNat] 5))
    have hc1 : (w.alloc (.cells #[.int .u8 q[0].toNat] 5)).cell? ⟨w.heap.size, 0, none⟩ = some (.int .u8 q[0].toNat) := by rw [hnb.cell]; rfl
    have HN := Lib.hid hnb
    clear e1 eq hl hnb
    by_cases h42 : q[0] = 42
    · have b1 : ((q[0].toNat : Int) == 42) = true := u8_num q[0] 42 h42
      rw [if_pos h42]
      clear h42
      go_enter Tryz.func309, Tryz.ntmps309
      go_wp2_with fail
      refine (starB_any frT encB limB (tokFits (true, span 42 42)) _).mono ?_; rintro e w2 ⟨v, rfl, e1, e2, hs, rfl⟩
      have HS2 := Lib.hid hs
      have HE := Lib.hid (And.intro e1 e2)
      clear hs e1 e2
      go_wp2_with fail
      go_ret
      exact ⟨v, rfl, HE.out.1, HE.out.2, HS2.out, HB1.out⟩
    · have b1 : ((q[0].toNat : Int) == 42) = false := u8_not q[0] 42 h42
      rw [if_neg h42]
      by_cases h63 : q[0] = 63
      · have b2 : ((q[0].toNat : Int) == 63) = true := u8_num q[0] 63 h63
        rw [if_pos h63]
        clear h42 h63
        have HF : Hid (∀ W, FitV frT encB limB W (.func (.func 315) #[] #[]) fun _ => true) := fun W => ⟨315, #[], ⟨rfl, enters_of Tryz.func315 (by kernel_rfl) rfl⟩, fun W hW x _ args ha => by
          subst ha
          refine (bs1_any _ W).mono ?_; rintro e w' ⟨rfl, rfl⟩
          exact ⟨rfl, Below.refl _ _⟩⟩
        go_enter Tryz.func309, Tryz.ntmps309
        go_wp2_with fail
        refine (oneB_any frT frT_frame (fun _ _ _ _ => frT_blk (by decide)) encB limB _ _ _ (HF.out _)).mono ?_; rintro e w2 ⟨v, rfl, e1, e2, hs, hB2⟩
        have HB2 := Lib.hid (HB1.out.trans (hB2.mono HB1.out.size))
        have HS2 := Lib.hid hs
        have HE := Lib.hid (And.intro e1 e2)
        clear hs hB2 e1 e2
        go_wp2_with fail
        go_ret
        exact ⟨v, rfl, HE.out.1, HE.out.2, HS2.out, HB2.out⟩
      · have b2 : ((q[0].toNat : Int) == 63) = false := u8_not q[0] 63 h63
        rw [if_neg h63]
        clear h42 h63
        have HF : Hid (FitV frT encB limB (w.alloc (.cells #[.int .u8 q[0].toNat] 5)) (.func (.func 316) #[] #[.pointer (some ⟨w.heap.size, 0, none⟩)]) (span q[0] q[0])) := ⟨316, #[.pointer (some ⟨w.heap.size, 0, none⟩)], ⟨rfl, enters_of Tryz.func316 (by kernel_rfl) rfl⟩, fun W hW x _ args ha => by
          rw [app11] at ha
          subst ha
          refine (bs2_any x q[0] w.heap.size W (by rw [(frT_blk (by decide) HN.out hW).cell]; rfl)).mono ?_; rintro e w' ⟨rfl, rfl⟩
          exact ⟨by rw [span_self], Below.refl _ _⟩⟩
        generalize span q[0] q[0] = F at HF ⊢
        go_enter Tryz.func309, Tryz.ntmps309
        go_wp2_with fail
        refine (oneB_any frT frT_frame (fun _ _ _ _ => frT_blk (by decide)) encB limB _ _ _ HF.out).mono ?_; rintro e w2 ⟨v, rfl, e1, e2, hs, hB2⟩
        have HB2 := Lib.hid (HB1.out.trans (hB2.mono HB1.out.size))
        have HS2 := Lib.hid hs
        have HE := Lib.hid (And.intro e1 e2)
        clear hs hB2 e1 e2
        go_wp2_with fail
        go_ret
        exact ⟨v, rfl, HE.out.1, HE.out.2, HS2.out, HB2.out⟩
end Go.Proofs.YtldffnmoafhidaaGreatDoor
/- The program's partFits: a function that fits parts of paths. -/
set_option linter.unusedVariables false
set_option maxRecDepth 100000
namespace Go.Proofs.YtldffnmoafhidaaGreatDoor
open Go.RowKit
open Go.OpenShut
/-- all rows of strings stay -/
def KeepS (a w : World) : Prop := ∀ (g : Nat) (cs : Array Value) (fr : Nat × Nat), a.heap[g]? = some (.cells cs 9 fr) → w.heap[g]? = some (.cells cs 9 fr)
theorem KeepS.rfl' (w : World) : KeepS w w := fun _ _ _ h => h
theorem KeepS.trans {a b c : World} (h : KeepS a b) (h2 : KeepS b c) : KeepS a c := fun g cs fr hg => h2 g cs fr (h g cs fr hg)
theorem KeepS.below {w w' : World} (h : Below w.heap.size w w') : KeepS w w' := fun g cs fr hg => (h.block g (gq_lt hg)).trans hg
theorem KeepS.set {w : World} {b t : Nat} {cs0 : Array Value} (h : Blk w b t cs0) (ht : t ≠ 9) (i : Nat) (u : Value) : KeepS w (w.setCell ⟨b, i, none⟩ u) := fun g cs fr hg => by
  have hne : g ≠ b := by
    rintro rfl
    unfold Blk at h
    rw [h] at hg
    injection hg with hg
    injection hg with _ hg
    exact ht hg
  exact (Below.heap_setCell w ⟨b, i, none⟩ u g hne).trans hg
theorem KeepS.grown {w w' : World} {row : Option Nat} (h : w.grownBy w' row) (hr : ∀ g, row = some g → ∃ cs t fr, w.heap[g]? = some (.cells cs t fr) ∧ t ≠ 9) : KeepS w w' := fun g cs fr hg => by
  refine (h.block g (gq_lt hg) ?_).trans hg
  intro e
  obtain ⟨cs2, t, fr2, h2, ht⟩ := hr g e.symm
  rw [h2] at hg
  injection hg with hg
  injection hg with _ hg
  exact ht hg
theorem Texts.keep {w w' : World} {B : Nat} {v : Value} {ls : List (List UInt8)} (h : Texts w B v ls) (hk : KeepS w w') : Texts w' B v ls :=
  own_heap h fun g hg => by
    obtain ⟨_, cur, hc⟩ := own_block h g hg
    rw [hk _ _ _ hc, hc]
/-- a function value is appended to a row of the call's own, at a step of a region that draws its order -/
theorem step_append_fn {w : World} {ops : Array Oper} {o : Oper} {a : Act} {K : Act → World → Prop} {Q : Exit → Act → World → Prop} {E : Prop} (hgd : o.guard = none) (s x : Operand)
    (ho : o.op = .call { callee := .builtin .append, args := #[s, x], argTypes := #[303, 303] }) (B : Nat) (v : Value) (fs : List Value) (hs : a.eval s = v) (hown : Fns w B 305 v fs)
    (g c : Nat) (u : Value) (hx : a.eval x = .slice (some ⟨g, 0, none⟩) 1 c) (hc : w.cell? ⟨g, 0, none⟩ = some u) (hu : u.oneCell' = true) (hbig : fs.length ≤ 1000000) (hB : B ≤ w.heap.size)
    (h : ∀ v' w', Fns w' B 305 v' (fs ++ [u]) → w.grownBy w' v.ownBlock → K (a.put o.dst v') w') :
    if Region.wanted o (yielded ops a.tmps) = true then Oper.wp Tryz.prog o a w K Q else E := by
  have hw : Region.wanted o (yielded ops a.tmps) = true := by simp [Region.wanted, hgd]
  rw [if_pos hw]
  obtain ⟨i0, hi, hz0, hz1, hz2⟩ := info_parts info_stepB
  obtain ⟨v6, w6, hrun, hown6, hgrow, _, h5⟩ := run_append_own_at (P := Tryz.prog) w B 303 o.type 305 i0 _ 1 8 Tryz.underlying303 hi hz0 hz1 hz2 rfl (by decide) _ _ _ hown ⟨g, 0, none⟩ 1 c [u] rfl (fun j q hq => by
    cases j with
    | zero => simp at hq; subst hq; exact hc
    | succ j => simp at hq) (fun q hq => by obtain rfl := List.mem_singleton.1 hq; exact hu) (by unfold maxLen; omega) (by omega) hB
  unfold Oper.wp execOp
  simp only [ho, resolve, invoke, builtin, Sem.run_bind, Sem.run_pure, Result.andThen_ok, List.map_toArray, List.map_cons, List.map_nil, hs, hx, hrun]
  exact h v6 w6 (by unfold Fns; rw [List.length_append]; exact hown6) hgrow
theorem frT_grown {w w' : World} {row : Option Nat} (h : w.grownBy w' row) (hr : ∀ g, row = some g → ∃ cs fr, w.heap[g]? = some (.cells cs 305 fr)) : frT w w' := fun g cs t fr hg h1 h2 _ => by
  refine (h.block g (gq_lt hg) ?_).trans hg
  intro e
  obtain ⟨cs2, fr2, h3⟩ := hr g e.symm
  rw [h3] at hg
  injection hg with hg
  injection hg with _ hg
  exact h2 hg.symm
theorem frT_set {w : World} {b : Nat} {cs0 : Array Value} (h : Blk w b 303 cs0) (i : Nat) (u : Value) : frT w (w.setCell ⟨b, i, none⟩ u) := fun g cs t fr hg h1 h2 _ => by
  have hne : g ≠ b := by
    rintro rfl
    unfold Blk at h
    rw [h] at hg
    injection hg with hg
    injection hg with _ hg
    exact h1 hg.symm
  exact (Below.heap_setCell w ⟨b, i, none⟩ u g hne).trans hg
theorem Fns.alloc {w : World} {B t : Nat} {v : Value} {fs : List Value} (h : Fns w B t v fs) (o : Obj) : Fns (w.alloc o) B t v fs := World.ownsRow.alloc h o
theorem Blk.fn {w : World} {b B : Nat} {v v2 : Value} {fs : List Value} (h : Blk w b 303 #[v]) (ho : Fns w B 305 v2 fs) : some b ≠ v2.ownBlock := fun e => by
  obtain ⟨_, cur, hc⟩ := own_block ho b e.symm
  unfold Blk at h
  rw [h] at hc
  injection hc with hc
  injection hc with _ hc
  exact absurd hc (by decide)
/-- parts of paths in memory -/
def limS (x : List UInt8) : Prop := x.length ≤ 1000
theorem gq_conv (W : World) (s : ByteArray) : (convert 9 22 (.string s)).run Tryz.prog W = .ok (.slice (some ⟨W.heap.size, 0, none⟩) s.size (grownCap W s.size 0 5)) (Lib.bytesWorld W 5 s) :=
  Lib.run_convert_string_bytes W 9 22 5 s Tryz.underlying9 Tryz.underlying22 Tryz.underlying5
theorem gq_below (w : World) (e : TypeId) (s : ByteArray) : Below w.heap.size w (Lib.bytesWorld w e s) :=
  ⟨rfl, rfl, rfl, by rw [Lib.bytesWorld_size]; omega, fun j hj => Lib.bytesWorld_at_old w e s j hj⟩
set_option maxHeartbeats 2000000 in
theorem partFits1_any (ts : List Tok) (fs : List Value) (n : Nat) (hn : ts.length = n) (hfs : fs.length = n) (hn2 : n ≤ 1000) (b : Nat) (A : Option Addr) (c : Nat) (s : ByteArray) (hs : s.size ≤ 1000) (W : World)
    (hb : W.cell? ⟨b, 0, none⟩ = some (.slice A n c)) (hA : ∀ j (hj : j < n), ∃ g, A = some ⟨g, 0, none⟩ ∧ W.cell? ⟨g, j, none⟩ = some (fs[j]'(by omega))) (hst : ∀ j (hj : j < n), StepV frT encB limB W (fs[j]'(by omega)) (tokStar (ts[j]'(by omega))) (tokFits (ts[j]'(by omega)))) :
    Calls Tryz.prog 310 #[.string s, .pointer (some ⟨b, 0, none⟩)] W fun e w' => e = .returned (.bool (fitL tokStar tokFits ts s.data.toList)) ∧ Below W.heap.size W w' := by
  have hcv := gq_conv W s
  have hbw := gq_below W 5 s
  have hL : ListAt encB (Lib.bytesWorld W 5 s) (some ⟨W.heap.size, 0, none⟩) s.data.toList := fun k hk => ⟨_, rfl, by
    have hk2 : k < s.size := by simpa using hk
    rw [Lib.bytesWorld_cell W 5 s k hk2]
    unfold encB
    rw [List.getD_eq_getElem?_getD, List.getElem?_eq_getElem hk]; rfl⟩
  have hld := leadsB_any frT frT_frame encB limB tokStar tokFits ts s.data.toList ((false, fun _ => false) : Tok) 0 fs n A (some ⟨W.heap.size, 0, none⟩) c (grownCap W s.size 0 5) s.size hn hfs (by omega) (by simp) hs (fun _ _ => trivial) (Lib.bytesWorld W 5 s)
    (fun j hj => (hst j hj).mono frT_frame (frT_frame.bel _ _ hbw)) (fun j hj => by
      obtain ⟨g, e, hc⟩ := hA j hj
      exact ⟨g, e, by rw [hbw.cell (p := ⟨g, j, none⟩) (World.block_lt_of_cell? W _ hc)]; exact hc⟩) hL
  have HLd := Lib.hid hld
  have HBw := Lib.hid hbw
  clear hld hbw hL hA hst hn hfs
  go_enter Tryz.func310, Tryz.ntmps310
  go_wp2_with fail
  refine HLd.out.mono ?_; rintro e w' ⟨rfl, hB⟩
  have HB := Lib.hid (HBw.out.trans (hB.mono HBw.out.size))
  clear hB
  go_wp2_with fail
  go_ret
  exact ⟨rfl, HB.out⟩
set_option maxHeartbeats 8000000 in
theorem partFits_any (p : ByteArray) (hp : p.size ≤ 1000) (w : World) : Calls Tryz.prog 304 #[.string p] w fun e w' => ∃ v, e = .returned v ∧ FitV frP (fun l => strV l) limS w' v (partF p.data.toList) ∧ Below w.heap.size w w' := by
  have hpl : p.data.toList.length = p.size := by simp
  have htk : (tokL p.data.toList).getD [] = ((pieceF p.data.toList).getD []).map pieceT := by rw [tokL_pieceF]; cases pieceF p.data.toList <;> rfl
  have hmem : ((pieceF p.data.toList).getD []).length ≤ 1000 ∧ ∀ q ∈ (pieceF p.data.toList).getD [], 1 ≤ q.length ∧ q.length ≤ 1000 := by
    rcases e : pieceF p.data.toList with _ | ps
    · exact ⟨by simp, fun q hq => by simp at hq⟩
    · obtain ⟨h1, h2⟩ := pieceF_mem _ _ ps (Nat.le_refl _) e
      exact ⟨by simp only [Option.getD_some]; omega, fun q hq => by have := h2 q hq; omega⟩
  have hpc := fun W => pieces_any p hp W
  have hpf : ∀ s, partF p.data.toList s = fitL tokStar tokFits (((pieceF p.data.toList).getD []).map pieceT) s := fun s => by unfold partF; rw [htk]
  generalize (pieceF p.data.toList).getD [] = ps at hmem hpc hpf
  generalize (pieceF p.data.toList).isSome = ok at hpc
  generalize partF p.data.toList = F at hpf ⊢
  obtain ⟨n, hn⟩ : ∃ n, n = ps.length := ⟨_, rfl⟩
  obtain ⟨hn2, hq⟩ := hmem
  rw [← hn] at hn2
  have HPC := Lib.hid hpc
  have HPF := Lib.hid hpf
  have HQ := Lib.hid hq
  have HN := Lib.hid hn
  clear hpc hpf hq hn htk hpl
  go_enter Tryz.func304, Tryz.ntmps304
  go_upto_region 2 with fail
  have hb0 := Blk.new w 303 #[.slice none 0 0]
  have hB0 := belowA (Below.refl w.heap.size w) (.cells #[.slice none 0 0] 303)
  obtain ⟨b3, hb3⟩ : ∃ b3, b3 = w.heap.size := ⟨_, rfl⟩
  rw [← hb3] at hb0 ⊢
  have hb3w : w.heap.size ≤ b3 := by omega
  have HN0 := Lib.hid hb0
  have HB0 := Lib.hid hB0
  generalize w.alloc (.cells #[.slice none 0 0] 303) = w0 at HN0 HB0 ⊢
  clear hb0 hB0 hb3
  go_wp2_with fail
  refine (HPC.out _).mono ?_; rintro e w1 ⟨v4, rfl, hT, hB⟩
  have HT1 : Hid (Texts w1 w.heap.size v4 ps) := own_mono hT HB0.out.size
  have HB1 := Lib.hid (HB0.out.trans (hB.mono HB0.out.size))
  have HN1 : Hid (Blk w1 b3 303 #[.slice none 0 0]) := HN0.out.below hB HN0.out.lt
  obtain ⟨A4, c4, rfl, -⟩ := hT.any
  rw [← HN.out] at HT1 ⊢
  clear hT hB HN0 HB0
  go_wp2_with fail
  go_loopw [15] (fun iv wr => ∃ (k : Nat) (v : Value) (fs : List Value), k ≤ n ∧ iv = .int .i64 k ∧ Hid (fs.length = k) ∧ Hid (Blk wr b3 303 #[v]) ∧ Hid (Fns wr w.heap.size 305 v fs) ∧ Hid (∀ j (hj : j < fs.length) (hj2 : j < ps.length), StepV frT encB limB wr fs[j] (tokStar (pieceT ps[j])) (tokFits (pieceT ps[j]))) ∧ Hid (KeepS w1 wr) ∧ Hid (Below w.heap.size w wr)) (fun iv _ => n - (intOf iv).toNat)
  case atStart => exact ⟨0, _, [], Nat.zero_le _, rfl, rfl, HN1.out, World.ownsRow_nil _ _ _ _, (fun j hj => by cases hj), KeepS.rfl' _, HB1.out⟩
  case round =>
    obtain ⟨k, v, fs, hk, rfl, HFl, HN3, HF, HS, HK, HB⟩ := hrel
    clear HN1
    by_cases hlt : k < n
    · have hkp : k < ps.length := by rw [← HN.out]; exact hlt
      have hTk := HT1.out.keep HK.out
      rw [HN.out] at hTk
      obtain ⟨A2, c2, e2, hcell⟩ := hTk.any
      injection e2 with e2 _ e3
      subst e2 e3
      obtain ⟨g, rfl, -, -, hc⟩ := hcell k hkp
      have hq2 := HQ.out ps[k] (List.getElem_mem ..)
      have hgd : ps.getD k [] = ps[k] := by rw [List.getD_eq_getElem?_getD, List.getElem?_eq_getElem hkp]; rfl
      rw [hgd] at hc
      obtain ⟨x, Hx⟩ := hid_name ps[k]
      rw [Hx.out] at hc hq2
      unfold strV at hc
      have hbs := fun W => byteStep_any ⟨x.toArray⟩ (by rw [size_mk]; exact hq2.1) (by rw [size_mk]; exact hq2.2) W
      obtain ⟨sx, Hsx⟩ := hid_name (⟨x.toArray⟩ : ByteArray)
      rw [Hsx.out] at hc hbs
      have hxs : sx.data.toList = x := by rw [← Hsx.out]
      rw [hxs] at hbs
      have HBS := Lib.hid hbs
      have hc3 : wr.cell? ⟨b3, 0, none⟩ = some v := by rw [HN3.out.cell]; rfl
      clear hbs hgd hq2 hcell hxs hTk
      go_upto_region 6 with fail
      have HC3 : Hid (∀ W, Below wr.heap.size wr W → W.cell? ⟨b3, 0, none⟩ = some v) := fun W hW => by rw [(HN3.out.below hW HN3.out.lt).cell]; rfl
      have HAp : Hid (∀ w2 u, Below wr.heap.size wr w2 → Blk (w2.alloc (.cells #[u] 305)) b3 303 #[v] ∧ Fns (w2.alloc (.cells #[u] 305)) w.heap.size 305 v fs ∧ w.heap.size ≤ (w2.alloc (.cells #[u] 305)).heap.size ∧ Below w.heap.size w (w2.alloc (.cells #[u] 305)) ∧ KeepS w1 (w2.alloc (.cells #[u] 305))) := fun w2 u hb => by
        have h1 := HB.out.trans (hb.mono HB.out.size)
        exact ⟨(HN3.out.below hb HN3.out.lt).alloc _, (HF.out.below hb).alloc _, (belowA h1 _).size, belowA h1 _, HK.out.trans (KeepS.below (hb.alloc hb.size _))⟩
      have HFb : Hid (fs.length ≤ 1000000) := by unfold Hid; rw [HFl.out]; omega
      go_region_law (first
        | (refine step_append_fn rfl (.tmp 19) (.tmp 22) rfl w.heap.size v fs rfl (HAp.out w2 (.func (.func fn) #[] caps) HB2.out).2.1 w2.heap.size 1 (.func (.func fn) #[] caps) rfl ((Blk.new w2 305 #[.func (.func fn) #[] caps]).cell 0) rfl HFb.out (HAp.out w2 (.func (.func fn) #[] caps) HB2.out).2.2.1 ?_; intro v5 w5 ho5 hg5; obtain ⟨A5, c5, rfl, -⟩ := ho5.any; have hN5 : Blk w5 b3 303 #[v] := (HAp.out w2 (.func (.func fn) #[] caps) HB2.out).1.grown hg5 (Blk.fn (HAp.out w2 (.func (.func fn) #[] caps) HB2.out).1 (HAp.out w2 (.func (.func fn) #[] caps) HB2.out).2.1); have hc5 : w5.cell? ⟨b3, 0, none⟩ = some v := hN5.cell 0; have hf5 := hN5.frozen 0)
        | (go_simp; go_at_call 309; refine (HBS.out _).mono ?_; rintro e w2 ⟨u, rfl, -, -, hu3, hB2⟩; have HU := Lib.hid hu3; obtain ⟨fn, caps, ⟨rfl, -⟩, -⟩ := hu3; have HB2 : Hid (Below wr.heap.size wr w2) := ⟨hB2.os, hB2.tape, hB2.output, hB2.size, hB2.block⟩; have hc4 := HC3.out w2 HB2.out; have hc6 : (w2.alloc (.cells #[.func (.func fn) #[] caps] 305)).cell? ⟨b3, 0, none⟩ = some v := (HAp.out w2 (.func (.func fn) #[] caps) HB2.out).1.cell 0; clear hB2))
      all_goals
        obtain ⟨L5, hL5⟩ : ∃ L5, L5 = (fs ++ [Value.func (.func fn) #[] caps]).length := ⟨_, rfl⟩
        have hL6 : L5 = fs.length + 1 := by rw [hL5, List.length_append]; rfl
        rw [← hL5] at ho5
        rw [← hL6]
        obtain ⟨hA1, hA2, -, hA4, hA5⟩ := HAp.out w2 (.func (.func fn) #[] caps) HB2.out
        have hrow : ∀ g0, v.ownBlock = some g0 → ∃ cs fr, (w2.alloc (.cells #[.func (.func fn) #[] caps] 305)).heap[g0]? = some (.cells cs 305 fr) := fun g0 e => by
          obtain ⟨_, cur, hcur⟩ := own_block hA2 g0 e
          exact ⟨cur, (0, 0), hcur⟩
        have HF6 : Hid (frT w2 (w5.setCell ⟨b3, 0, none⟩ (.slice A5 L5 c5))) := frT_frame.tr _ _ _ (frT_frame.tr _ _ _ (frT_frame.bel _ _ ((Below.refl _ w2).alloc (Nat.le_refl _) _)) (frT_grown hg5 hrow)) (frT_set hN5 0 _)
        have HF7 : Hid (frT wr (w5.setCell ⟨b3, 0, none⟩ (.slice A5 L5 c5))) := frT_frame.tr _ _ _ (frT_frame.bel _ _ HB2.out) HF6.out
        have HK6 : Hid (KeepS w1 (w5.setCell ⟨b3, 0, none⟩ (.slice A5 L5 c5))) := (hA5.trans (KeepS.grown hg5 fun g0 e => by
          obtain ⟨cs, fr, h⟩ := hrow g0 e
          exact ⟨cs, _, fr, h, by decide⟩)).trans (KeepS.set hN5 (by decide) 0 _)
        have HB6 : Hid (Below w.heap.size w (w5.setCell ⟨b3, 0, none⟩ (.slice A5 L5 c5))) := Below.set1 (hA4.grown hg5 hA4.size fun g0 e => (own_block hA2 g0 e).1) hb3w 0 _
        have HN6 : Hid (Blk (w5.setCell ⟨b3, 0, none⟩ (.slice A5 L5 c5)) b3 303 #[.slice A5 L5 c5]) := hN5.set_ 0 _
        have HO6 : Hid (Fns (w5.setCell ⟨b3, 0, none⟩ (.slice A5 L5 c5)) w.heap.size 305 (.slice A5 L5 c5) (fs ++ [.func (.func fn) #[] caps])) := own_heap ho5 fun g0 e => Below.heap_setCell w5 ⟨b3, 0, none⟩ _ g0 fun e2 => Blk.fn hN5 ho5 (by rw [e, e2])
        have HS6 : Hid (∀ j (hj : j < (fs ++ [Value.func (.func fn) #[] caps]).length) (hj2 : j < ps.length), StepV frT encB limB (w5.setCell ⟨b3, 0, none⟩ (.slice A5 L5 c5)) (fs ++ [Value.func (.func fn) #[] caps])[j] (tokStar (pieceT ps[j])) (tokFits (pieceT ps[j]))) := fun j hj hj2 => by
          by_cases hjl : j < fs.length
          · rw [List.getElem_append_left hjl]
            exact (HS.out j hjl hj2).mono frT_frame HF7.out
          · have ej : j = fs.length := by rw [← hL5, hL6] at hj; omega
            subst ej
            rw [List.getElem_append_right (Nat.le_refl _)]
            have e9 : ps[fs.length] = x := by rw [← Hx.out]; congr 1
            rw [e9]
            simp only [Nat.sub_self, List.getElem_cons_zero]
            exact HU.out.mono frT_frame HF6.out
        have HL7 : Hid ((fs ++ [Value.func (.func fn) #[] caps]).length = k + 1) := by unfold Hid; rw [← hL5, hL6, HFl.out]
        clear hA1 hA2 hA4 hA5 hrow ho5 hg5 hN5 hc5 hf5 hc6 hc4 hc3 hL5 hL6
        go_wp2_with fail
        go_roundw
        case rel => exact ⟨k + 1, _, _, by omega, by go_num, HL7.out, HN6.out, HO6.out, HS6.out, HK6.out, HB6.out⟩
        case measure => simp [intOf]; omega
    · obtain rfl : k = n := by omega
      obtain ⟨A2, c2, rfl, -⟩ := HF.out.any
      have hn3 : fs.length = k := HFl.out
      have hF3 := HF.out
      rw [hn3] at HN3 hF3
      have HF3 := Lib.hid hF3
      clear hn3 hF3 HF
      go_wp2_with fail
      go_ret
      refine ⟨_, rfl, ⟨310, #[.pointer (some ⟨b3, 0, none⟩)], ⟨rfl, enters_of Tryz.func310 (by kernel_rfl) rfl⟩, fun W hW x hx args ha => ?_⟩, HB.out⟩
      rw [app11] at ha
      subst ha
      have hlm : (ps.map pieceT).length = k := by rw [List.length_map, ← HN.out]
      have hF4 := HF3.out.frP (by decide) hW
      have h1 := partFits1_any (ps.map pieceT) fs k hlm HFl.out hn2 b3 A2 c2 ⟨x.toArray⟩ (by rw [size_mk]; exact hx) W (by rw [(frP_blk (by decide) HN3.out hW).cell]; rfl) (fun j hj => by
        obtain ⟨A9, c9, e9, h9⟩ := hF4.any
        injection e9 with e9 _ _
        subst e9
        exact h9 j (by rw [HFl.out]; exact hj)) (fun j hj => by
        have hjp : j < ps.length := by rw [← HN.out]; exact hj
        have h2 := (HS.out j (by rw [HFl.out]; exact hj) hjp).mono frT_frame (frP_T hW)
        simpa only [List.getElem_map] using h2)
      refine h1.mono ?_
      rintro e w' ⟨rfl, hB⟩
      exact ⟨by rw [HPF.out], hB⟩
end Go.Proofs.YtldffnmoafhidaaGreatDoor
/- Contracts of the program's signs over a list (the functions made by star and one, and the walk over all signs), at string. -/
set_option linter.unusedVariables false
set_option maxRecDepth 100000
namespace Go.Proofs.YtldffnmoafhidaaGreatDoor
open Go.RowKit
open Go.OpenShut
set_option maxHeartbeats 4000000 in
theorem star1S_any {β : Type} (enc : β → Value) (bs : List β) (A : Option Addr) (c m m1 gr i : Nat) (R : Nat → Nat → Bool) (hm : bs.length = m) (hm1 : m1 = m + 1) (hm2 : m ≤ 1000) (fit : β → Bool) (w : World) (hr : Blk w gr 4 (bA (rowR R i m))) (hs : stepR true fit bs R i) :
    Calls Tryz.prog 307 #[.slice A m c, .slice (some ⟨gr, 0, none⟩) m1 m1] w fun e w' => ∃ gn, e = .returned (.slice (some ⟨gn, 0, none⟩) m1 m1) ∧ w.heap.size ≤ gn ∧ Blk w' gn 4 (bA (rowR R (i + 1) m)) ∧ Below w.heap.size w w' := by
  have hmk := made_bools m1 (by omega) w
  obtain ⟨hs0, hs1⟩ := hs
  have HS0 := Lib.hid hs0
  have HS1 := Lib.hid hs1
  have HM := Lib.hid hm
  have HM1 := Lib.hid hm1
  have HR := Lib.hid hr
  have HBa := Lib.hid (belowA (Below.refl w.heap.size w) (.cells (bA (List.replicate m1 false)) 4))
  have HRa := Lib.hid (hr.alloc (.cells (bA (List.replicate m1 false)) 4))
  have HN0 : Hid (Blk (w.alloc (.cells (bA (List.replicate m1 false)) 4)) w.heap.size 4 (bA (frontR R (i + 1) m 0))) := by
    unfold Hid; rw [frontR_zero, ← hm1]; exact Blk.new w 4 _
  clear hs0 hs1 hm hr hm1
  go_enter Tryz.func307, Tryz.ntmps307
  go_upto_region 2 with fail
  have hne0 : gr ≠ w.heap.size := by have := HR.out.lt; omega
  obtain ⟨gn, hgn⟩ : ∃ gn, gn = w.heap.size := ⟨_, rfl⟩
  rw [← hgn] at hne0 HN0 ⊢
  have hgw : w.heap.size ≤ gn := by omega
  generalize w.alloc (.cells (bA (List.replicate m1 false)) 4) = wz at HBa HRa HN0 ⊢
  clear hmk hgn HR
  have hmm : 1 ≤ m1 := by have := HM1.out; omega
  go_wp2_with fail
  go_loopw [6, 14] (fun rv iv wr => ∃ k : Nat, k ≤ m1 ∧ iv = .int .i64 k ∧ rv = .bool (decide (0 < k) && R (i + 1) (k - 1)) ∧ Hid (Blk wr gn 4 (bA (frontR R (i + 1) m k))) ∧ Hid (Blk wr gr 4 (bA (rowR R i m))) ∧ Hid (Below w.heap.size w wr)) (fun _ iv _ => m1 - (intOf iv).toNat)
  case atStart => exact ⟨0, Nat.zero_le _, rfl, rfl, HN0.out, HRa.out, HBa.out⟩
  case round =>
    obtain ⟨k, hk, rfl, rfl, HN, HRk, HB⟩ := hrel
    clear HN0 HRa HBa
    by_cases hlt : k < m1
    · have hkm : k < m + 1 := by have := HM1.out; omega
      have c1 : wr.cell? ⟨gr, k, none⟩ = some (.bool (R i k)) := by rw [HRk.out.cell, bA_get, rowR_get R i m k hkm]; rfl
      obtain ⟨b0, hb0⟩ := front_cell R (i + 1) m k k (by omega) hkm
      have c2 : wr.cell? ⟨gn, k, none⟩ = some (.bool b0) := by rw [HN.out.cell, hb0]
      have f2 := HN.out.frozen k
      have hv : (decide (0 < k) && R (i + 1) (k - 1) || R i k) = R (i + 1) k := by
        cases k with
        | zero => rw [HS0.out]; simp
        | succ k =>
          have := HS1.out k (by have := HM.out; omega)
          simp only [if_true] at this
          rw [this]
          cases R i (k + 1) <;> simp
      have HN1 : Hid (Blk (wr.setCell ⟨gn, k, none⟩ (.bool (R (i + 1) k))) gn 4 (bA (frontR R (i + 1) m (k + 1)))) := by
        have := HN.out.set_ k (.bool (R (i + 1) k))
        rwa [bA_set, frontR_set R (i + 1) m k hkm] at this
      have HR1 := Lib.hid (HRk.out.far (p := ⟨gn, k, none⟩) hne0 (.bool (R (i + 1) k)))
      have HB1 : Hid (Below w.heap.size w (wr.setCell ⟨gn, k, none⟩ (.bool (R (i + 1) k)))) := Below.set1 HB.out hgw k _
      have hnx : R (i + 1) k = (decide (0 < k + 1) && R (i + 1) (k + 1 - 1)) := by simp
      have HX := Lib.hid hnx
      generalize (decide (0 < k) && R (i + 1) (k - 1)) = p at hv ⊢
      rw [← hv] at HN1 HR1 HB1 HX
      clear HN HRk HB hb0 hv hnx
      cases p with
      | true =>
        rw [Bool.true_or] at HN1 HR1 HB1 HX
        go_wp2_with fail
        go_roundw
        case rel => exact ⟨k + 1, by omega, by go_num, by rw [← HX.out], HN1.out, HR1.out, HB1.out⟩
        case measure => simp [intOf]; omega
      | false =>
        rw [Bool.false_or] at HN1 HR1 HB1 HX
        go_wp2_with fail
        go_roundw
        case rel => exact ⟨k + 1, by omega, by go_num, by rw [← HX.out], HN1.out, HR1.out, HB1.out⟩
        case measure => simp [intOf]; omega
    · obtain rfl : k = m1 := by omega
      have h9 := HN.out
      rw [HM1.out, frontR_end] at h9
      have H9 := Lib.hid h9
      clear h9 HN
      go_wp2_with fail
      go_ret
      exact ⟨gn, rfl, hgw, H9.out, HB.out⟩
/-- star gives the sign for any number of things -/
theorem starS_any {β : Type} (Fr : World → World → Prop) (enc : β → Value) (lim : β → Prop) (fit : β → Bool) (w : World) : Calls Tryz.prog 302 #[] w fun e w' => ∃ v, e = .returned v ∧ v.oneCell' = true ∧ v.cells = #[v] ∧ StepV Fr enc lim w v true fit ∧ w = w' := by
  go_enter Tryz.func302, Tryz.ntmps302
  go_wp2_with fail
  go_ret
  refine ⟨_, rfl, rfl, rfl, ⟨307, #[], ⟨rfl, enters_of Tryz.func307 (by kernel_rfl) rfl⟩, fun W hW bs A c m m1 gr i R e1 e2 e3 e4 e5 e6 e7 args ha => ?_⟩, rfl⟩
  subst ha
  exact star1S_any enc bs A c m m1 gr i R e1 e2 e3 fit W e6 e7
set_option maxHeartbeats 4000000 in
theorem one1S_any {β : Type} (Fr : World → World → Prop) (hF : Frame Fr) (enc : β → Value) (lim : β → Prop) (fv : Value) (fit : β → Bool) (a : Nat) (bs : List β) (A : Option Addr) (c m m1 gr i : Nat) (R : Nat → Nat → Bool) (hm : bs.length = m) (hm1 : m1 = m + 1) (hm2 : m ≤ 1000) (hlim : ∀ x ∈ bs, lim x) (w : World)
    (hf : FitV Fr enc lim w fv fit) (ha : w.cell? ⟨a, 0, none⟩ = some fv) (hA : ListAt enc w A bs) (hr : Blk w gr 4 (bA (rowR R i m))) (hs : stepR false fit bs R i) :
    Calls Tryz.prog 308 #[.slice A m c, .slice (some ⟨gr, 0, none⟩) m1 m1, .pointer (some ⟨a, 0, none⟩)] w fun e w' => ∃ gn, e = .returned (.slice (some ⟨gn, 0, none⟩) m1 m1) ∧ w.heap.size ≤ gn ∧ Blk w' gn 4 (bA (rowR R (i + 1) m)) ∧ Below w.heap.size w w' := by
  have hmk := made_bools m1 (by omega) w
  obtain ⟨hs0, hs1⟩ := hs
  rw [Bool.and_false] at hs0
  have HS1 := Lib.hid hs1
  have HM := Lib.hid hm
  have HM1 := Lib.hid hm1
  have HR := Lib.hid hr
  have HL := Lib.hid hlim
  have HA := Lib.hid hA
  obtain ⟨f, caps, ⟨rfl, ef⟩, hf⟩ := hf
  have HF := Lib.hid hf
  have HAc := Lib.hid ha
  have HBa := Lib.hid (belowA (Below.refl w.heap.size w) (.cells (bA (List.replicate m1 false)) 4))
  have HRa := Lib.hid (hr.alloc (.cells (bA (List.replicate m1 false)) 4))
  have HN0 : Hid (Blk (w.alloc (.cells (bA (List.replicate m1 false)) 4)) w.heap.size 4 (bA (frontR R (i + 1) m 1))) := by
    unfold Hid; rw [← frontR_one R (i + 1) m hs0, frontR_zero, ← hm1]; exact Blk.new w 4 _
  have hmm : m < m1 := by omega
  have hm12 : m1 ≤ 1001 := by omega
  clear hs0 hs1 hm hr hlim hA hf ha hm1
  go_enter Tryz.func308, Tryz.ntmps308
  go_upto_region 2 with fail
  have hne0 : gr ≠ w.heap.size := by have := HR.out.lt; omega
  obtain ⟨gn, hgn⟩ : ∃ gn, gn = w.heap.size := ⟨_, rfl⟩
  rw [← hgn] at hne0 HN0 ⊢
  have hgw : w.heap.size ≤ gn := by omega
  generalize w.alloc (.cells (bA (List.replicate m1 false)) 4) = wz at HBa HRa HN0 ⊢
  clear hmk hgn HR
  go_wp2_with fail
  go_loopw [14] (fun iv wr => ∃ k : Nat, k ≤ m ∧ iv = .int .i64 k ∧ Hid (Blk wr gn 4 (bA (frontR R (i + 1) m (k + 1)))) ∧ Hid (Blk wr gr 4 (bA (rowR R i m))) ∧ Hid (Below w.heap.size w wr)) (fun iv _ => m - (intOf iv).toNat)
  case atStart => exact ⟨0, Nat.zero_le _, rfl, HN0.out, HRa.out, HBa.out⟩
  case round =>
    obtain ⟨k, hk, rfl, HN, HRk, HB⟩ := hrel
    clear HN0 HRa HBa
    by_cases hlt : k < m
    · have hkm : k < m + 1 := by omega
      have hkb : k < bs.length := by rw [HM.out]; exact hlt
      obtain ⟨k1, hk1⟩ : ∃ k1, k1 = k + 1 := ⟨_, rfl⟩
      have wk : IntKind.i64.wrap ((k : Int) + 1) = (k1 : Int) := by rw [IntKind.wrap_i64]; omega
      have hk1m : k1 < m1 := by have := HM1.out; omega
      have hkm1 : k < m1 := by omega
      obtain ⟨g, rfl, hc⟩ := (HA.out.below HB.out) k hkb
      have hac : wr.cell? ⟨a, 0, none⟩ = some (.func (.func f) #[] caps) := by rw [HB.out.cell (p := ⟨a, 0, none⟩) (World.block_lt_of_cell? w _ HAc.out)]; exact HAc.out
      have c1 : wr.cell? ⟨gr, k, none⟩ = some (.bool (R i k)) := by rw [HRk.out.cell, bA_get, rowR_get R i m k hkm]; rfl
      have hx := HL.out bs[k] (List.getElem_mem ..)
      have hstep := HS1.out k hkb
      rw [if_neg (by decide)] at hstep
      generalize bs[k] = x at hc hx hstep
      have HC : Hid (∀ W, Blk W gn 4 (bA (frontR R (i + 1) m (k + 1))) → (∃ b, W.cell? ⟨gn, k1, none⟩ = some (.bool b)) ∧ W.frozen? ⟨gn, k1, none⟩ = false) := fun W h1 => by
        refine ⟨?_, h1.frozen k1⟩
        obtain ⟨b, hb⟩ := front_cell R (i + 1) m (k + 1) k1 (by omega) (by omega)
        exact ⟨b, by rw [h1.cell, hb]⟩
      have HFin : Hid (∀ W, Blk W gn 4 (bA (frontR R (i + 1) m (k + 1))) → Blk W gr 4 (bA (rowR R i m)) → Below w.heap.size w W → Blk (W.setCell ⟨gn, k1, none⟩ (.bool (R (i + 1) (k + 1)))) gn 4 (bA (frontR R (i + 1) m (k1 + 1))) ∧ Blk (W.setCell ⟨gn, k1, none⟩ (.bool (R (i + 1) (k + 1)))) gr 4 (bA (rowR R i m)) ∧ Below w.heap.size w (W.setCell ⟨gn, k1, none⟩ (.bool (R (i + 1) (k + 1))))) := fun W h1 h2 h3 => by
        refine ⟨?_, h2.far hne0 _, Below.set1 h3 hgw k1 _⟩
        have := h1.set_ k1 (.bool (R (i + 1) (k + 1)))
        rw [bA_set, hk1, frontR_set R (i + 1) m (k + 1) (by omega)] at this
        rw [hk1]; exact this
      have HK := Lib.hid hk1
      clear hk1
      cases hb : R i k with
      | false =>
        rw [hb] at c1 hstep
        rw [Bool.false_and] at hstep
        obtain ⟨⟨b0, c4⟩, f4⟩ := HC.out wr HN.out
        have HE := Lib.hid (HFin.out wr HN.out HRk.out HB.out)
        rw [hstep] at HE
        clear HFin HC HN HRk HB hb hac
        go_wp2_with fail
        go_roundw
        case rel => exact ⟨k1, by have := HK.out; omega, rfl, HE.out.1, HE.out.2.1, HE.out.2.2⟩
        case measure => have := HK.out; simp [intOf]; omega
      | true =>
        rw [hb] at c1 hstep
        rw [Bool.true_and] at hstep
        have HFw := Lib.hid (HF.out wr (hF.bel _ _ HB.out) x hx _ rfl)
        clear hb hx
        go_wp2_with fail
        refine HFw.out.mono ?_; rintro e w2 ⟨rfl, hbl⟩
        have hN2 := HN.out.below hbl HN.out.lt
        have hR2 := HRk.out.below hbl HRk.out.lt
        have hB2 := HB.out.trans (hbl.mono HB.out.size)
        obtain ⟨⟨b0, c4⟩, f4⟩ := HC.out w2 hN2
        have HE := Lib.hid (HFin.out w2 hN2 hR2 hB2)
        rw [hstep] at HE
        clear HFin HC HN HRk HB hN2 hR2 hB2 hbl HFw c1 hac hc
        go_wp2_with fail
        go_roundw
        case rel => exact ⟨k1, by have := HK.out; omega, rfl, HE.out.1, HE.out.2.1, HE.out.2.2⟩
        case measure => have := HK.out; simp [intOf]; omega
    · obtain rfl : k = m := by omega
      have h9 := HN.out
      rw [frontR_end] at h9
      have H9 := Lib.hid h9
      clear h9 HN
      go_wp2_with fail
      go_ret
      exact ⟨gn, rfl, hgw, H9.out, HB.out⟩
/-- one gives the sign for one thing that fits -/
theorem oneS_any {β : Type} (Fr : World → World → Prop) (hF : Frame Fr) (hk : ∀ w W b cs, Blk w b 196 cs → Fr w W → Blk W b 196 cs) (enc : β → Value) (lim : β → Prop) (fv : Value) (fit : β → Bool) (w : World) (hf : FitV Fr enc lim w fv fit) : Calls Tryz.prog 303 #[fv] w fun e w' => ∃ v, e = .returned v ∧ v.oneCell' = true ∧ v.cells = #[v] ∧ StepV Fr enc lim w' v false fit ∧ Below w.heap.size w w' := by
  have hf0 := hf
  obtain ⟨f, caps, ⟨rfl, ef⟩, -⟩ := hf
  have HF := Lib.hid hf0
  clear hf0 ef
  go_enter Tryz.func303, Tryz.ntmps303
  go_wp2_with fail
  go_ret
  refine ⟨_, rfl, rfl, rfl, ⟨308, #[.pointer (some ⟨w.heap.size, 0, none⟩)], ⟨rfl, enters_of Tryz.func308 (by kernel_rfl) rfl⟩, fun W hW bs A c m m1 gr i R e1 e2 e3 e4 e5 e6 e7 args ha => ?_⟩, belowA (Below.refl w.heap.size w) _⟩
  rw [app21] at ha
  subst ha
  have hb := Blk.new w 196 #[.func (.func f) #[] caps]
  exact one1S_any Fr hF enc lim _ fit w.heap.size bs A c m m1 gr i R e1 e2 e3 e4 W ((HF.out.mono hF (hF.bel _ _ (belowA (Below.refl w.heap.size w) _))).mono hF hW) (by rw [(hk _ _ _ _ hb hW).cell]; rfl) e5 e6 e7
set_option maxHeartbeats 4000000 in
/-- the walk over all signs -/
theorem leadsS_any {α β : Type} (Fr : World → World → Prop) (hF : Frame Fr) (enc : β → Value) (lim : β → Prop) (star : α → Bool) (fits : α → β → Bool) (us : List α) (bs : List β) (da : α) (db : β) (fs : List Value) (n : Nat) (A A' : Option Addr) (c c' m : Nat) (hn : us.length = n) (hfs : fs.length = n) (hn2 : n ≤ 1000000) (hm : bs.length = m) (hm2 : m ≤ 1000)
    (hlim : ∀ x ∈ bs, lim x) (w : World) (hs : ∀ j (hj : j < n), StepV Fr enc lim w (fs[j]'(by omega)) (star (us[j]'(by omega))) (fits (us[j]'(by omega)))) (hA : ∀ j (hj : j < n), ∃ g, A = some ⟨g, 0, none⟩ ∧ w.cell? ⟨g, j, none⟩ = some (fs[j]'(by omega))) (hA' : ListAt enc w A' bs) :
    Calls Tryz.prog 280 #[.slice A n c, .slice A' m c'] w fun e w' => e = .returned (.bool (fitL star fits us bs)) ∧ Below w.heap.size w w' := by
  obtain ⟨h1, h2, h3, h4⟩ := fitL_table (star := star) (fits := fits) us bs da db
  have hend : fitL star fits us bs = fitL star fits (us.take n) (bs.take m) := by rw [List.take_of_length_le (by omega), List.take_of_length_le (by omega)]
  rw [hend]
  obtain ⟨R, hR⟩ : ∃ R : Nat → Nat → Bool, R = fun i k => fitL star fits (us.take i) (bs.take k) := ⟨_, rfl⟩
  have hR0 : R 0 0 = true := by rw [hR]; exact h1
  have hR1 : ∀ k, k < m → R 0 (k + 1) = false := fun k hk => by rw [hR]; exact h2 k (by omega)
  have hRs : ∀ j (hj : j < n), stepR (star (us[j]'(by omega))) (fits (us[j]'(by omega))) bs R j := fun j hj => by
    have eu : us.getD j da = us[j]'(by omega) := by rw [List.getD_eq_getElem?_getD, List.getElem?_eq_getElem (by omega)]; rfl
    refine ⟨?_, fun k hk => ?_⟩
    · rw [hR]
      have := h3 j (by omega)
      rwa [eu] at this
    · rw [hR]
      have := h4 j k (by omega) hk
      rwa [eu, show bs.getD k db = bs[k] by rw [List.getD_eq_getElem?_getD, List.getElem?_eq_getElem hk]; rfl] at this
  have hre : fitL star fits (us.take n) (bs.take m) = R n m := by rw [hR]
  rw [hre]
  clear hre hR hend h1 h2 h3 h4
  obtain ⟨m1, hm1⟩ : ∃ m1, m1 = m + 1 := ⟨_, rfl⟩
  have wm : IntKind.i64.wrap ((m : Int) + 1) = (m1 : Int) := by rw [IntKind.wrap_i64]; omega
  have hmk := made_bools m1 (by omega) w
  have hm10 : 0 < m1 := by omega
  have hst : (List.replicate m1 false).set 0 true = rowR R 0 m := by
    rw [← hR0, hm1, ← frontR_zero R 0 m, frontR_set R 0 m 0 (by omega), ← frontR_end R 0 m]
    unfold frontR
    apply List.ext_getElem?
    intro j
    cases j with
    | zero => simp [List.range_succ_eq_map]
    | succ j =>
      by_cases hj : j < m
      · rw [List.getElem?_append_right (by simp), List.getElem?_append_left (by simp; omega)]
        simp [hj, hR1 j hj]
        try omega
      · rw [List.getElem?_eq_none (by simp; omega), List.getElem?_eq_none (by simp; omega)]
  have HB0 := Lib.hid (Blk.new w 4 (bA (List.replicate m1 false)))
  have HBe0 := Lib.hid (belowA (Below.refl w.heap.size w) (.cells (bA (List.replicate m1 false)) 4))
  have hc0 : (w.alloc (.cells (bA (List.replicate m1 false)) 4)).cell? ⟨w.heap.size, 0, none⟩ = some (.bool false) := by
    rw [HB0.out.cell, bA_get, List.getElem?_eq_getElem (by rw [List.length_replicate]; omega), List.getElem_replicate]; rfl
  have hf0 := HB0.out.frozen 0
  have HM1 := Lib.hid hm1
  have HM := Lib.hid hm
  have HST0 := Lib.hid hst
  have HRS := Lib.hid hRs
  have HS := Lib.hid hs
  have HL := Lib.hid hlim
  have HA := Lib.hid hA
  have HA' := Lib.hid hA'
  have HFS := Lib.hid hfs
  clear hst hm1 hm hRs hs hlim hA hA' hR0 hR1
  go_enter Tryz.func280, Tryz.ntmps280
  go_upto_region 2 with fail
  obtain ⟨g0, hg0⟩ : ∃ g0, g0 = w.heap.size := ⟨_, rfl⟩
  have hgg : w.heap.size ≤ g0 := by omega
  rw [← hg0] at hc0 hf0 ⊢
  have HB0' : Hid (Blk (w.alloc (.cells (bA (List.replicate m1 false)) 4)) g0 4 (bA (List.replicate m1 false))) := by rw [hg0]; exact HB0.out
  generalize w.alloc (.cells (bA (List.replicate m1 false)) 4) = wz at HB0' HBe0 hc0 hf0 ⊢
  have HR0 : Hid (Blk (wz.setCell ⟨g0, 0, none⟩ (.bool true)) g0 4 (bA (rowR R 0 m))) := by
    have := HB0'.out.set_ 0 (.bool true)
    rw [bA_set, HST0.out] at this; exact this
  have HBe1 : Hid (Below w.heap.size w (wz.setCell ⟨g0, 0, none⟩ (.bool true))) := Below.set1 HBe0.out hgg 0 _
  clear hg0 hmk HB0
  go_wp2_with fail
  go_loopw [5, 16] (fun rv iv wr => ∃ (k gr : Nat), k ≤ n ∧ iv = .int .i64 k ∧ rv = .slice (some ⟨gr, 0, none⟩) m1 m1 ∧ Hid (Blk wr gr 4 (bA (rowR R k m))) ∧ Hid (Below w.heap.size w wr)) (fun _ iv _ => n - (intOf iv).toNat)
  case atStart => exact ⟨0, g0, Nat.zero_le _, rfl, rfl, HR0.out, HBe1.out⟩
  case round =>
    obtain ⟨k, gr, hk, rfl, rfl, HR, HB⟩ := hrel
    clear HB0' HBe0 hc0 hf0 HR0 HBe1
    by_cases hlt : k < n
    · obtain ⟨g, rfl, hc⟩ := HA.out k hlt
      have hc' : wr.cell? ⟨g, k, none⟩ = some (fs[k]'(by rw [HFS.out]; exact hlt)) := by rw [HB.out.cell (p := ⟨g, k, none⟩) (World.block_lt_of_cell? w _ hc)]; exact hc
      obtain ⟨f, caps, ⟨hv, ef⟩, hf⟩ := HS.out k hlt
      rw [hv] at hc'
      have HFw := Lib.hid (hf wr (hF.bel _ _ HB.out) bs A' c' m m1 gr k R HM.out HM1.out hm2 HL.out (HA'.out.below HB.out) HR.out (HRS.out k hlt) _ rfl)
      clear hf hv hc
      go_wp2_with fail
      refine HFw.out.mono ?_; rintro e w2 ⟨gn, rfl, -, hb2, hbl⟩
      have HR2 := Lib.hid hb2
      have HB2 := Lib.hid (HB.out.trans (hbl.mono HB.out.size))
      clear hb2 hbl HFw HR HB
      go_wp2_with fail
      go_roundw
      case rel => exact ⟨k + 1, gn, by omega, by go_num, rfl, HR2.out, HB2.out⟩
      case measure => simp [intOf]; omega
    · obtain rfl : k = n := by omega
      have hmm : m < m1 := by have := HM1.out; omega
      have c1 : wr.cell? ⟨gr, m, none⟩ = some (.bool (R k m)) := by rw [HR.out.cell, bA_get, rowR_get R k m m (by omega)]; rfl
      clear HR
      go_wp2_with fail
      go_ret
      exact ⟨rfl, HB.out⟩
theorem info_stepS : (Tryz.prog.info? 294).map (fun i => (i.zero, i.size, i.bytes)) = some (some .nilFunc, 1, 8) := by kernel_rfl
/-- a function value is appended to a row of the call's own -/
theorem append_fnS {w : World} {ops : Array Oper} {rest : List Oper} {o : Oper} {a : Act} {Q : Exit → Act → World → Prop} (hgd : o.guard = none) (s x : Operand)
    (ho : o.op = .call { callee := .builtin .append, args := #[s, x], argTypes := #[281, 281] }) (B : Nat) (v : Value) (fs : List Value) (hs : a.eval s = v) (hown : Fns w B 294 v fs)
    (g c : Nat) (u : Value) (hx : a.eval x = .slice (some ⟨g, 0, none⟩) 1 c) (hc : w.cell? ⟨g, 0, none⟩ = some u) (hu : u.oneCell' = true) (hbig : fs.length ≤ 1000000) (hB : B ≤ w.heap.size)
    (h : ∀ v' w', Fns w' B 294 v' (fs ++ [u]) → w.grownBy w' v.ownBlock → wpList Tryz.prog ops Q rest (a.put o.dst v') w') : wpList Tryz.prog ops Q (o :: rest) a w := by
  obtain ⟨i0, hi, hz0, hz1, hz2⟩ := info_parts info_stepS
  refine wpList_append_own _ hgd s x 281 ho B 294 i0 _ 1 8 Tryz.underlying281 hi hz0 hz1 hz2 rfl (by decide) v _ _ hs hown ⟨g, 0, none⟩ 1 c [u] hx rfl (fun j q hq => ?_) (fun q hq => ?_) (by unfold maxLen; omega) (by omega) hB ?_
  · cases j with
    | zero => simp at hq; subst hq; exact hc
    | succ j => simp at hq
  · obtain rfl := List.mem_singleton.1 hq; exact hu
  · intro v6 w6 hown6 hgrow _
    exact h v6 w6 (by unfold Fns; rw [List.length_append]; exact hown6) hgrow
end Go.Proofs.YtldffnmoafhidaaGreatDoor
/- The program's pathSteps. -/
set_option linter.unusedVariables false
set_option maxRecDepth 100000
namespace Go.Proofs.YtldffnmoafhidaaGreatDoor
open Go.RowKit
open Go.OpenShut
theorem frP_grown {w w' : World} {row : Option Nat} (h : w.grownBy w' row) (hr : ∀ g, row = some g → ∃ cs fr, w.heap[g]? = some (.cells cs 294 fr)) : frP w w' := fun g cs t fr hg h1 => by
  refine (h.block g (gq_lt hg) ?_).trans hg
  intro e
  obtain ⟨cs2, fr2, h3⟩ := hr g e.symm
  rw [h3] at hg
  injection hg with hg
  injection hg with _ hg
  exact h1 hg.symm
set_option maxHeartbeats 8000000 in
theorem pathSteps_any (p : ByteArray) (hp : p.size ≤ 1000) (w : World) : Calls Tryz.prog 281 #[.string p] w fun e w' => ∃ (v : Value) (fs : List Value), e = .returned v ∧ Fns w' w.heap.size 294 v fs ∧ fs.length = (pp p.data.toList).length ∧
    (∀ j (hj : j < fs.length) (hj2 : j < (pp p.data.toList).length), StepV frP (fun l => strV l) limS w' fs[j] (twoStars (pp p.data.toList)[j]) (partF (pp p.data.toList)[j])) ∧ Below w.heap.size w w' := by
  have hpl : p.data.toList.length = p.size := by simp
  have hgl : ∀ k, ((pp p.data.toList).getD k []).length ≤ 1000 := fun k => by
    by_cases h0 : p.data.toList = []
    · rw [h0, pp_nil]; simp
    · rw [pp_ne h0]
      have := partsL_getD 47 p.data.toList k
      omega
  have hnl : (pp p.data.toList).length ≤ 1001 := by
    by_cases h0 : p.data.toList = []
    · rw [h0, pp_nil]; simp
    · rw [pp_ne h0]
      have := partsL_le 47 p.data.toList
      omega
  have hpa := fun W => Parts_any p W (by omega)
  generalize pp p.data.toList = ls at hgl hnl hpa ⊢
  have HPA := Lib.hid hpa
  have HGL := Lib.hid hgl
  obtain ⟨n, Hn⟩ := hid_name ls.length
  rw [Hn.out] at hnl
  clear hpl hgl hpa
  go_enter Tryz.func281, Tryz.ntmps281
  go_wp2_with fail
  refine (HPA.out _).mono ?_; rintro e w1 ⟨v, rfl, hT, hB⟩
  obtain ⟨A, ca, rfl, hA⟩ := hT.any
  have HA := Lib.hid hA
  have HB1 := Lib.hid hB
  clear hA hT hB
  rw [Hn.out]
  go_wp2_with fail
  go_loopw [3, 9] (fun lv iv wr => ∃ (k : Nat) (fs : List Value), k ≤ n ∧ iv = .int .i64 k ∧ Hid (fs.length = k) ∧ Hid (Fns wr w1.heap.size 294 lv fs) ∧ Hid (∀ j (hj : j < fs.length) (hj2 : j < ls.length), StepV frP (fun l => strV l) limS wr fs[j] (twoStars ls[j]) (partF ls[j])) ∧ Hid (Below w1.heap.size w1 wr)) (fun _ iv _ => n - (intOf iv).toNat)
  case atStart => exact ⟨0, [], Nat.zero_le _, rfl, rfl, World.ownsRow_nil _ _ _ _, (fun j hj => by cases hj), Below.refl _ _⟩
  case round =>
    obtain ⟨k, fs, hk, rfl, HFl, HF, HS, HW⟩ := hrel
    obtain ⟨v0, hv0⟩ : ∃ v0, v0 = u3 := ⟨_, rfl⟩
    subst hv0
    by_cases hlt : k < n
    · have hkl : k < ls.length := by rw [Hn.out]; exact hlt
      obtain ⟨g, rfl, _, hg, hc⟩ := HA.out k hkl
      have hc' : wr.cell? ⟨g, k, none⟩ = some (strV (ls.getD k [])) := by rw [HW.out.cell (p := ⟨g, k, none⟩) hg]; exact hc
      have hgd : ls.getD k [] = ls[k] := by rw [List.getD_eq_getElem?_getD, List.getElem?_eq_getElem hkl]; rfl
      have hxl := HGL.out k
      rw [hgd] at hc' hxl
      obtain ⟨x, Hx⟩ := hid_name ls[k]
      rw [Hx.out] at hc' hxl
      unfold strV at hc'
      have h2 := two_is x
      have hpf := fun W => partFits_any ⟨x.toArray⟩ (by rw [size_mk]; exact hxl) W
      obtain ⟨sx, Hsx⟩ := hid_name (⟨x.toArray⟩ : ByteArray)
      rw [Hsx.out] at hc' h2 hpf
      have hxs : sx.data.toList = x := by rw [← Hsx.out]
      rw [hxs] at hpf
      have HPF := Lib.hid hpf
      have hfl : fs.length ≤ 1000000 := by rw [HFl.out]; omega
      have HFb := Lib.hid hfl
      have HAp : Hid (∀ (w2 : World) (u : Value), Below wr.heap.size wr w2 → Fns (w2.alloc (.cells #[u] 294)) w1.heap.size 294 v0 fs ∧ w1.heap.size ≤ (w2.alloc (.cells #[u] 294)).heap.size) := fun w2 u hb => by
        have h0 : Below w1.heap.size w1 w2 := HW.out.trans (hb.mono HW.out.size)
        exact ⟨(HF.out.below hb).alloc _, (h0.alloc h0.size _).size⟩
      have HFin : Hid (∀ (w2 : World) (u v9 : Value) (w9 : World), Below wr.heap.size wr w2 → StepV frP (fun l => strV l) limS w2 u (twoStars x) (partF x) → Fns w9 w1.heap.size 294 v9 (fs ++ [u]) → (w2.alloc (.cells #[u] 294)).grownBy w9 v0.ownBlock →
          (fs ++ [u]).length = k + 1 ∧ (∀ j (hj : j < (fs ++ [u]).length) (hj2 : j < ls.length), StepV frP (fun l => strV l) limS w9 (fs ++ [u])[j] (twoStars ls[j]) (partF ls[j])) ∧ Below w1.heap.size w1 w9) := fun w2 u v9 w9 hb hu ho hg => by
        have h0 : Below w1.heap.size w1 w2 := HW.out.trans (hb.mono HW.out.size)
        have hA2 := (HAp.out w2 u hb).1
        have hrow : ∀ g0, v0.ownBlock = some g0 → ∃ cs fr, (w2.alloc (.cells #[u] 294)).heap[g0]? = some (.cells cs 294 fr) := fun g0 e => by
          obtain ⟨_, cur, hcur⟩ := own_block hA2 g0 e
          exact ⟨cur, (0, 0), hcur⟩
        have hf1 := frP_frame.tr _ _ _ (frP_frame.bel _ _ ((Below.refl _ w2).alloc (Nat.le_refl _) (.cells #[u] 294))) (frP_grown hg hrow)
        have hf2 := frP_frame.tr _ _ _ (frP_frame.bel _ _ hb) hf1
        refine ⟨by rw [List.length_append, HFl.out]; rfl, fun j hj hj2 => ?_, (h0.alloc h0.size _).grown hg (h0.alloc h0.size _).size fun g0 e => (own_block hA2 g0 e).1⟩
        by_cases hjl : j < fs.length
        · rw [List.getElem_append_left hjl]
          exact (HS.out j hjl hj2).mono frP_frame hf2
        · have ej : j = fs.length := by rw [List.length_append] at hj; simp at hj; omega
          subst ej
          rw [List.getElem_append_right (Nat.le_refl _)]
          have e9 : ls[fs.length] = x := by rw [← Hx.out]; congr 1
          rw [e9]
          simp only [Nat.sub_self, List.getElem_cons_zero]
          exact hu.mono frP_frame hf1
      clear hc hgd hxl hpf hxs hfl
      rcases hb2 : twoStars x with _ | _
      · rw [hb2] at h2 HFin
        clear hb2
        go_wp2_with fail
        refine (HPF.out _).mono ?_; rintro e w2 ⟨fv, rfl, hfv, hB2⟩
        have HB2 : Hid (Below wr.heap.size wr w2) := hB2
        have HFv := Lib.hid hfv
        clear hB2 hfv
        go_wp2_with fail
        refine (oneS_any frP frP_frame (fun _ _ _ _ => frP_blk (by decide)) (fun l => strV l) limS fv (partF x) _ HFv.out).mono ?_; rintro e w3 ⟨u, rfl, -, -, hu, hB3⟩
        have HB3 : Hid (Below wr.heap.size wr w3) := HB2.out.trans (hB3.mono HB2.out.size)
        have HU := Lib.hid hu
        obtain ⟨fn, caps, ⟨rfl, -⟩, -⟩ := hu
        clear hB3 HB2 HFv
        go_wp2_with (at_builtin; refine Stay.go ?_)
        refine Stay.on ?_
        refine append_fnS rfl (.tmp 19) (.tmp 23) rfl w1.heap.size v0 fs rfl (HAp.out w3 (.func (.func fn) #[] caps) HB3.out).1 w3.heap.size 1 (.func (.func fn) #[] caps) rfl ((Blk.new w3 294 #[.func (.func fn) #[] caps]).cell 0) rfl HFb.out (HAp.out w3 (.func (.func fn) #[] caps) HB3.out).2 ?_
        intro v9 w9 ho9 hg9
        have HO9 := Lib.hid ho9
        have HE9 := Lib.hid (HFin.out _ _ _ _ HB3.out HU.out ho9 hg9)
        clear ho9 hg9
        go_wp2_with fail
        go_roundw
        case rel => exact ⟨k + 1, _, by omega, by go_num, HE9.out.1, HO9.out, HE9.out.2.1, HE9.out.2.2⟩
        case measure => simp [intOf]; omega
      · rw [hb2] at h2 HFin
        clear hb2
        go_wp2_with fail
        refine (starS_any frP (fun l => strV l) limS (partF x) _).mono ?_; rintro e w3 ⟨u, rfl, -, -, hu, rfl⟩
        have HB3 : Hid (Below wr.heap.size wr wr) := Below.refl _ _
        have HU := Lib.hid hu
        obtain ⟨fn, caps, ⟨rfl, -⟩, -⟩ := hu
        go_wp2_with (at_builtin; refine Stay.go ?_)
        refine Stay.on ?_
        refine append_fnS rfl (.tmp 15) (.tmp 17) rfl w1.heap.size v0 fs rfl (HAp.out wr (.func (.func fn) #[] caps) HB3.out).1 wr.heap.size 1 (.func (.func fn) #[] caps) rfl ((Blk.new wr 294 #[.func (.func fn) #[] caps]).cell 0) rfl HFb.out (HAp.out wr (.func (.func fn) #[] caps) HB3.out).2 ?_
        intro v9 w9 ho9 hg9
        have HO9 := Lib.hid ho9
        have HE9 := Lib.hid (HFin.out _ _ _ _ HB3.out HU.out ho9 hg9)
        clear ho9 hg9
        go_wp2_with fail
        go_roundw
        case rel => exact ⟨k + 1, _, by omega, by go_num, HE9.out.1, HO9.out, HE9.out.2.1, HE9.out.2.2⟩
        case measure => simp [intOf]; omega
    · obtain rfl : k = n := by omega
      have HOw := Lib.hid (own_mono HF.out HB1.out.size)
      go_wp2_with fail
      go_ret
      exact ⟨v0, fs, rfl, HOw.out, HFl.out.trans Hn.out.symm, HS.out, HB1.out.trans (HW.out.mono HB1.out.size)⟩
end Go.Proofs.YtldffnmoafhidaaGreatDoor
/- Contracts of package glob: Check and Fits. -/
set_option linter.unusedVariables false
set_option maxRecDepth 100000
namespace Go.Proofs.YtldffnmoafhidaaGreatDoor
open Go.RowKit
open Go.OpenShut
theorem gCheck_size (p : ByteArray) (w : World) (hp : p.size ≤ maxLen) (h : p.size < 1 ∨ 400 < p.size) : Calls Tryz.prog 234 #[.string p] w fun e w' => e = .returned (.int .i64 1) ∧ w = w' := by
  unfold maxLen at hp
  rcases h with h | h
  · have h1 : ((p.size : Int) < 1) := by omega
    go_enter Tryz.func234, Tryz.ntmps234
    go_wp2_with fail
    go_ret
    exact ⟨rfl, rfl⟩
  · have h1 : ¬ ((p.size : Int) < 1) := by omega
    have h2 : (400 : Int) < (p.size : Int) := by omega
    go_enter Tryz.func234, Tryz.ntmps234
    go_wp2_with fail
    go_ret
    exact ⟨rfl, rfl⟩
set_option maxHeartbeats 2000000 in
theorem gCheck_parts (p : ByteArray) (w : World) (h1 : 1 ≤ p.size) (h2 : p.size ≤ 400) : Calls Tryz.prog 234 #[.string p] w fun e w' => e = .returned (.int .i64 (partsE (partsL 47 p.data.toList))) ∧ Below w.heap.size w w' := by
  have h1' : ¬ ((p.size : Int) < 1) := by omega
  have h2' : ¬ ((400 : Int) < (p.size : Int)) := by omega
  have hpl : p.data.toList.length = p.size := by simp
  have hne : p.data.toList ≠ [] := fun h => by rw [h] at hpl; simp at hpl; omega
  have hpa := fun W => Parts_any p W (by omega)
  rw [pp_ne hne] at hpa
  have HPA := Lib.hid hpa
  have hgl : ∀ k, ((partsL 47 p.data.toList).getD k []).length ≤ 400 := fun k => by
    have := partsL_getD 47 p.data.toList k
    omega
  obtain ⟨ls, Hls⟩ := hid_name (partsL 47 p.data.toList)
  have hll : ls.length ≤ 401 := by
    have h3 := partsL_le 47 p.data.toList
    rw [Hls.out] at h3; omega
  rw [Hls.out] at hgl HPA
  have HGL := Lib.hid hgl
  obtain ⟨n, Hn⟩ := hid_name ls.length
  rw [Hn.out] at hll
  rw [Hls.out]
  clear hgl hpl hne hpa
  go_enter Tryz.func234, Tryz.ntmps234
  go_wp2_with fail
  refine (HPA.out _).mono ?_; rintro e w1 ⟨v, rfl, hT, hB⟩
  obtain ⟨A, ca, rfl, hA⟩ := hT.any
  have HA := Lib.hid hA
  have HB1 := Lib.hid hB
  clear hA hT hB
  rw [Hn.out]
  go_wp2_with fail
  go_loopw [18] (fun i wr => ∃ k : Nat, i = .int .i64 k ∧ k ≤ n ∧ Hid (partsE ls = partsE (ls.drop k)) ∧ Hid (Below w1.heap.size w1 wr)) (fun i _ => n - (intOf i).toNat)
  case atStart => exact ⟨0, rfl, Nat.zero_le _, rfl, Below.refl _ _⟩
  case round =>
    obtain ⟨k, rfl, hk, HE, HW⟩ := hrel
    by_cases hlt : k < n
    · obtain ⟨g, rfl, _, hg, hc⟩ := HA.out k (by rw [Hn.out]; exact hlt)
      have hc' : wr.cell? ⟨g, k, none⟩ = some (strV (ls.getD k [])) := by rw [HW.out.cell (p := ⟨g, k, none⟩) hg]; exact hc
      have hD := getD_drop ls k (by rw [Hn.out]; exact hlt)
      have hE := HE.out
      rw [hD, partsE_cons] at hE
      have hxl := HGL.out k
      clear hc hD
      unfold strV at hc'
      generalize ls.getD k [] = x at hc' hE hxl
      have hxs : (⟨x.toArray⟩ : ByteArray).size ≤ 400 := by rw [size_mk]; exact hxl
      obtain ⟨sx, Hsx⟩ := hid_name (⟨x.toArray⟩ : ByteArray)
      rw [Hsx.out] at hc' hxs
      have hx : sx.data.toList = x := by rw [← Hsx.out]
      by_cases hn : x = []
      · rw [if_pos hn] at hE
        have HR := Lib.hid hE
        have g0 : sx.toList = [] := toList_nil (by rw [hx]; exact hn)
        clear hE hn hx
        go_wp2_with fail
        go_ret
        exact ⟨ret_int HR.out.symm, HB1.out.trans (HW.out.mono HB1.out.size)⟩
      · rw [if_neg hn] at hE
        have g0 : sx.toList.isEmpty = false := toList_ne (by rw [hx]; exact hn)
        have htk := pieces_any sx (by omega) wr
        rw [hx, ← pieceF_none] at htk
        have HTK := Lib.hid htk
        rcases hs : (tokL x).isSome with _ | _
        · rw [Option.isSome_eq_false_iff.1 hs] at hE
          rw [hs] at HTK
          have HR : Hid (partsE ls = 3) := hE
          clear hE hn hx htk hs
          go_wp2_with fail
          refine HTK.out.mono ?_; rintro e w2 ⟨v, rfl, -, hB2⟩
          have HB2 := Lib.hid hB2
          clear hB2
          go_wp2_with fail
          go_ret
          exact ⟨ret_int HR.out.symm, HB1.out.trans ((HW.out.trans (HB2.out.mono HW.out.size)).mono HB1.out.size)⟩
        · rw [show (tokL x).isNone = false from by rw [← Option.not_isSome, hs]; rfl] at hE
          rw [hs] at HTK
          have HR : Hid (partsE ls = partsE (ls.drop (k + 1))) := hE
          clear hE hn hx htk hs
          go_wp2_with fail
          refine HTK.out.mono ?_; rintro e w2 ⟨v, rfl, -, hB2⟩
          have HB2 := Lib.hid (HW.out.trans (hB2.mono HW.out.size))
          clear hB2
          go_wp2_with fail
          go_roundw
          case rel => exact ⟨k + 1, by go_num, by omega, HR.out, HB2.out⟩
          case measure => simp [intOf]; omega
    · obtain rfl : k = n := by omega
      have HR : Hid (partsE ls = 0) := by
        have := HE.out
        rwa [List.drop_eq_nil_of_le (by rw [Hn.out]; exact Nat.le_refl _)] at this
      go_wp2_with fail
      go_ret
      exact ⟨ret_int HR.out.symm, HB1.out.trans (HW.out.mono HB1.out.size)⟩
theorem gCheck_any (p : ByteArray) (w : World) (hp : p.size ≤ maxLen) : Calls Tryz.prog 234 #[.string p] w fun e w' => e = .returned (.int .i64 (globE p.data.toList)) ∧ Below w.heap.size w w' := by
  have hl : p.data.toList.length = p.size := by simp
  by_cases h : p.size < 1 ∨ 400 < p.size
  · rw [globE_size (by
      rcases h with h | h
      · exact .inl (nil_of_size h)
      · exact .inr (by omega))]
    exact (gCheck_size p w hp h).mono fun e w' ⟨a, b⟩ => ⟨a, b ▸ Below.refl _ _⟩
  · rw [globE_parts (by
      rintro (h2 | h2)
      · exact ne_of_size (by omega) h2
      · omega)]
    exact gCheck_parts p w (by omega) (by omega)
set_option maxHeartbeats 4000000 in
theorem gFits_any (p s : ByteArray) (w : World) (hp : p.size ≤ maxLen) (hs : s.size ≤ maxLen) : Calls Tryz.prog 237 #[.string p, .string s] w fun e w' => e = .returned (.tuple #[.bool (fitsB p.data.toList s.data.toList), .int .i64 (fitsE p.data.toList s.data.toList)]) ∧ Below w.heap.size w w' := by
  have hgf := fun W => gCheck_any p W hp
  have hpf := fun W => Check_any s W hs
  have HG := Lib.hid hgf
  have HP := Lib.hid hpf
  clear hgf hpf
  by_cases hE : globE p.data.toList = 0
  · rw [hE] at HG
    by_cases hE2 : pathE s.data.toList = 0
    · rw [hE2] at HP
      have hfe : fitsE p.data.toList s.data.toList = 0 := by unfold fitsE; rw [if_pos hE, hE2]
      have hfb : fitsB p.data.toList s.data.toList = globF p.data.toList s.data.toList := by unfold fitsB; rw [hfe, decide_eq_true rfl, Bool.true_and]
      rw [hfe, hfb]
      have hpl : p.data.toList.length = p.size := by simp
      have hsl : s.data.toList.length = s.size := by simp
      have hp4 : p.size ≤ 400 := by
        apply Classical.byContradiction
        intro hc
        rw [globE_size (.inr (by omega))] at hE; cases hE
      have hs4 : s.size ≤ 400 := by
        apply Classical.byContradiction
        intro hc
        rw [pathE_size (.inr (by omega))] at hE2; cases hE2
      have hpn : p.data.toList ≠ [] := fun h => by rw [globE_size (.inl h)] at hE; cases hE
      have hsn : s.data.toList ≠ [] := fun h => by rw [pathE_size (.inl (by rw [h]; decide))] at hE2; cases hE2
      have hgd : globF p.data.toList s.data.toList = fitL twoStars partF (pp p.data.toList) (pp s.data.toList) := by rw [pp_ne hpn, pp_ne hsn]; rfl
      rw [hgd]
      have hst := fun W => pathSteps_any p (by omega) W
      have hpa := fun W => Parts_any s W (by omega)
      have hln : (pp p.data.toList).length ≤ 401 := by
        rw [pp_ne hpn]
        have := partsL_le 47 p.data.toList
        omega
      have hlm : (pp s.data.toList).length ≤ 401 := by
        rw [pp_ne hsn]
        have := partsL_le 47 s.data.toList
        omega
      have hlx : ∀ x ∈ pp s.data.toList, x.length ≤ 1000 := fun x hx => by
        rw [pp_ne hsn] at hx
        obtain ⟨k, hk, rfl⟩ := List.mem_iff_getElem.1 hx
        have := partsL_getD 47 s.data.toList k
        rw [List.getD_eq_getElem?_getD, List.getElem?_eq_getElem hk, Option.getD_some] at this
        omega
      generalize pp p.data.toList = us at hst hln ⊢
      generalize pp s.data.toList = bs at hpa hlm hlx ⊢
      have HST := Lib.hid hst
      have HPA := Lib.hid hpa
      have HLX := Lib.hid hlx
      clear hE hE2 hfe hfb hgd hpl hsl hst hpa hlx hpn hsn
      go_enter Tryz.func237, Tryz.ntmps237
      go_wp2_with fail
      refine (HG.out _).mono ?_; rintro e w1 ⟨rfl, hB1⟩
      have HB1 := Lib.hid hB1
      clear hB1
      go_wp2_with fail
      refine (HP.out _).mono ?_; rintro e w2 ⟨rfl, hB2⟩
      have HB2 := Lib.hid (HB1.out.trans (hB2.mono HB1.out.size))
      clear hB2 HB1
      go_wp2_with fail
      refine (HST.out _).mono ?_; rintro e w3 ⟨v, fs, rfl, hF, hfl, hS, hB3⟩
      have HB3 := Lib.hid (HB2.out.trans (hB3.mono HB2.out.size))
      have HF3 := Lib.hid hF
      have HS3 := Lib.hid hS
      have HFl := Lib.hid hfl
      obtain ⟨A, ca, rfl, -⟩ := hF.any
      obtain ⟨n, Hn⟩ := hid_name us.length
      have hn1 : fs.length = n := by rw [hfl]; exact Hn.out
      rw [hn1] at HF3 ⊢
      clear hB3 hF hS hfl HB2
      go_wp2_with fail
      refine (HPA.out _).mono ?_; rintro e w4 ⟨v, rfl, hT, hB4⟩
      have HB4 := Lib.hid (HB3.out.trans (hB4.mono HB3.out.size))
      obtain ⟨A', ca', rfl, hA'⟩ := hT.any
      have hF4 := HF3.out.below hB4
      have HLd := leadsS_any frP frP_frame (fun l => strV l) limS twoStars partF us bs [] [] fs n A A' ca ca' bs.length Hn.out hn1 (by have := Hn.out; omega) rfl (by omega) HLX.out w4 (fun j hj => by
        exact (HS3.out j (by omega) (by rw [Hn.out]; exact hj)).mono frP_frame (frP_frame.bel _ _ hB4)) (fun j hj => by
        obtain ⟨A9, c9, e9, h9⟩ := hF4.any
        injection e9 with e9 _ _
        subst e9
        exact h9 j (by omega)) (fun k hk => by
        obtain ⟨g, e, -, -, hc⟩ := hA' k hk
        refine ⟨g, e, ?_⟩
        rwa [List.getD_eq_getElem?_getD, List.getElem?_eq_getElem hk, Option.getD_some] at hc)
      have HL := Lib.hid HLd
      obtain ⟨m, Hm⟩ := hid_name bs.length
      rw [Hm.out] at HL ⊢
      clear hB4 hT hA' hF4 HLd HF3 hn1
      go_wp2_with fail
      refine HL.out.mono ?_; rintro e w5 ⟨rfl, hB5⟩
      have HB5 := Lib.hid (HB4.out.trans (hB5.mono HB4.out.size))
      clear hB5
      go_wp2_with fail
      refine bodyPost_ret (v := .tuple #[.bool (fitL twoStars partF us bs), .int .i64 0]) (by simp [results, Tryz.results237, go_sem, *]) rfl ?_
      exact ⟨rfl, HB5.out⟩
    · have hfe : fitsE p.data.toList s.data.toList = pathE s.data.toList := by unfold fitsE; rw [if_pos hE]
      have hfb : fitsB p.data.toList s.data.toList = false := by unfold fitsB; rw [hfe, decide_eq_false hE2, Bool.false_and]
      rw [hfe, hfb]
      obtain ⟨E, HEE⟩ := hid_name (pathE s.data.toList)
      rw [HEE.out] at HP hE2 ⊢
      have hne : (E == 0) = false := by simpa using hE2
      clear hfe hfb hE hE2
      go_enter Tryz.func237, Tryz.ntmps237
      go_wp2_with fail
      refine (HG.out _).mono ?_; rintro e w1 ⟨rfl, hB1⟩
      have HB1 := Lib.hid hB1
      clear hB1
      go_wp2_with fail
      refine (HP.out _).mono ?_; rintro e w2 ⟨rfl, hB2⟩
      have HB2 := Lib.hid (HB1.out.trans (hB2.mono HB1.out.size))
      clear hB2 HB1
      go_wp2_with fail
      refine bodyPost_ret (v := .tuple #[.bool false, .int .i64 E]) (by simp [results, Tryz.results237, go_sem, *]) rfl ?_
      exact ⟨rfl, HB2.out⟩
  · have hfe : fitsE p.data.toList s.data.toList = globE p.data.toList := by unfold fitsE; rw [if_neg hE]
    have hfb : fitsB p.data.toList s.data.toList = false := by unfold fitsB; rw [hfe, decide_eq_false hE, Bool.false_and]
    rw [hfe, hfb]
    obtain ⟨E, HEE⟩ := hid_name (globE p.data.toList)
    rw [HEE.out] at HG hE ⊢
    have hne : (E == 0) = false := by simpa using hE
    clear hfe hfb hE
    go_enter Tryz.func237, Tryz.ntmps237
    go_wp2_with fail
    refine (HG.out _).mono ?_; rintro e w1 ⟨rfl, hB1⟩
    have HB1 := Lib.hid hB1
    clear hB1
    go_wp2_with fail
    refine bodyPost_ret (v := .tuple #[.bool false, .int .i64 E]) (by simp [results, Tryz.results237, go_sem, *]) rfl ?_
    exact ⟨rfl, HB1.out⟩
end Go.Proofs.YtldffnmoafhidaaGreatDoor
