/- More plain mathematics of patterns: what the properties of globs say. Nothing of the program. -/
import Derived.Test.YtilmfnlhpnbngaaDoorGlbM
import Derived.Test.YtilmfnlhpnbngaaDoorSplM
import Derived.Lib.Repeat
set_option linter.unusedVariables false
namespace Go.Proofs.YtilmfnlhpnbngaaDoor
open Go.RowKit
/-- a byte that stands for itself -/
def plainC (c : UInt8) : Prop := c ≠ 42 ∧ c ≠ 63 ∧ c ≠ 91
theorem span_self (c x : UInt8) : span c c x = decide (x = c) := by
  unfold span
  by_cases h : x = c
  · rw [h]; simp
  · rw [decide_eq_false h]
    apply decide_eq_false
    rw [UInt8.le_iff_toNat_le, UInt8.le_iff_toNat_le]
    intro h2
    exact h (UInt8.toNat_inj.1 (by omega))
theorem tokL_step (c : UInt8) (r : List UInt8) (h : c ≠ 91) : tokL (c :: r) = (tokL r).map fun ts => (if c = 42 then (true, span 42 42) else if c = 63 then (false, fun _ => true) else (false, span c c)) :: ts := by
  rw [tokL, if_neg h]
theorem tokL_plain (l : List UInt8) (h : ∀ c ∈ l, plainC c) : tokL l = some (l.map fun c => (false, span c c)) := by
  induction l with
  | nil => rw [tokL]; rfl
  | cons c l ih =>
    obtain ⟨h1, h2, h3⟩ := h c (List.mem_cons_self ..)
    rw [tokL_step c l h3, ih fun d hd => h d (List.mem_cons_of_mem _ hd), if_neg h1, if_neg h2]; rfl
theorem fits_plain (l s : List UInt8) : fitL tokStar tokFits (l.map fun c => ((false, span c c) : Tok)) s = decide (l = s) := by
  induction l generalizing s with
  | nil =>
    cases s with
    | nil => exact fitL_nil_nil
    | cons x s => exact fitL_nil_cons _ _
  | cons c l ih =>
    rw [List.map_cons]
    cases s with
    | nil => rw [fitL_cons_nil]; rfl
    | cons x s =>
      rw [fitL_cons_cons, if_neg (by intro h; cases h), ih]
      show (span c c x && decide (l = s)) = _
      rw [span_self]
      by_cases h1 : x = c
      · by_cases h2 : l = s
        · rw [h1, h2]; simp
        · simp [h2]
      · have : ¬ c = x := fun h => h1 h.symm
        simp [h1, this]
theorem partF_plain (l s : List UInt8) (h : ∀ c ∈ l, plainC c) : partF l s = decide (l = s) := by
  unfold partF
  rw [tokL_plain l h, Option.getD_some, fits_plain]
theorem twoStars_plain (l : List UInt8) (h : ∀ c ∈ l, plainC c) : twoStars l = false := by
  unfold twoStars
  apply decide_eq_false
  rintro rfl
  exact (h 42 (List.mem_cons_self ..)).1 rfl
/-- parts that stand for themselves fit themselves alone -/
theorem fits_parts (ls ms : List (List UInt8)) (h : ∀ l ∈ ls, ∀ c ∈ l, plainC c) : fitL twoStars partF ls ms = decide (ls = ms) := by
  induction ls generalizing ms with
  | nil =>
    cases ms with
    | nil => exact fitL_nil_nil
    | cons x s => exact fitL_nil_cons _ _
  | cons l ls ih =>
    have h1 := twoStars_plain l (h l (List.mem_cons_self ..))
    cases ms with
    | nil => rw [fitL_cons_nil, h1]; rfl
    | cons m ms =>
      rw [fitL_cons_cons, if_neg (by rw [h1]; decide), ih _ fun k hk => h k (List.mem_cons_of_mem _ hk), partF_plain l m (h l (List.mem_cons_self ..))]
      by_cases h2 : l = m <;> by_cases h3 : ls = ms <;> simp [h2, h3]
theorem partsL_bytes (c : UInt8) (l : List UInt8) : ∀ p ∈ partsL c l, ∀ x ∈ p, x ∈ l := by
  induction l with
  | nil => intro p hp x hx; rw [partsL_nil, List.mem_singleton] at hp; rw [hp] at hx; cases hx
  | cons a l ih =>
    intro p hp x hx
    rw [partsL_cons] at hp
    by_cases h : a = c
    · rw [if_pos h] at hp
      rcases List.mem_cons.1 hp with rfl | hp
      · cases hx
      · exact List.mem_cons_of_mem _ (ih p hp x hx)
    · rw [if_neg h] at hp
      rcases hq : partsL c l with _ | ⟨q, r⟩
      · exact absurd hq (partsL_ne c l)
      · rw [hq] at hp ih
        rcases List.mem_cons.1 hp with rfl | hp
        · rcases List.mem_cons.1 hx with rfl | hx
          · exact List.mem_cons_self ..
          · exact List.mem_cons_of_mem _ (ih q (List.mem_cons_self ..) x hx)
        · exact List.mem_cons_of_mem _ (ih p (List.mem_cons_of_mem _ hp) x hx)
theorem partsL_inj {l m : List UInt8} (h : partsL 47 l = partsL 47 m) : l = m := by
  have := congrArg joinL h
  rwa [joinL_parts, joinL_parts] at this
/-- a path of bytes that stand for themselves fits itself alone -/
theorem globF_plain (p s : List UInt8) (h : ∀ c ∈ p, plainC c) : globF p s = decide (p = s) := by
  unfold globF
  rw [fits_parts _ _ fun l hl c hc => h c (partsL_bytes 47 p l hl c hc)]
  by_cases e : p = s
  · rw [e]; simp
  · rw [decide_eq_false e, decide_eq_false fun h2 => e (partsL_inj h2)]
/-- where two fit two, both behind one another fit both -/
theorem globF_join (p q s t : List UInt8) (h1 : globF p s = true) (h2 : globF q t = true) : globF (p ++ 47 :: q) (s ++ 47 :: t) = true := by
  unfold globF at h1 h2 ⊢
  rw [partsL_app, partsL_app, fitL_app]
  exact ⟨_, _, rfl, h1, h2⟩
/-- stars -/
theorem tokL_star : tokL [42] = some [(true, span 42 42)] := by rw [tokL_step _ _ (by decide), tokL]; rfl
theorem partF_star (s : List UInt8) : partF [42] s = true := by
  unfold partF
  rw [tokL_star, Option.getD_some]
  exact fitL_one_star rfl s
theorem globF_two (s : List UInt8) : globF [42, 42] s = true := by
  unfold globF
  rw [partsL_none 47 [42, 42] (by decide)]
  exact fitL_one_star rfl _
/-- n stars are any n parts -/
theorem fits_stars (n : Nat) (ms : List (List UInt8)) : fitL twoStars partF (List.replicate n [42]) ms = decide (ms.length = n) := by
  induction n generalizing ms with
  | zero =>
    cases ms with
    | nil => exact fitL_nil_nil
    | cons m ms => exact fitL_nil_cons _ _
  | succ n ih =>
    rw [List.replicate_succ]
    cases ms with
    | nil => rw [fitL_cons_nil]; rfl
    | cons m ms =>
      rw [fitL_cons_cons, if_neg (by decide), ih, partF_star, Bool.true_and, List.length_cons]
      by_cases h : ms.length = n
      · simp [h]
      · rw [decide_eq_false h, decide_eq_false (by omega)]
theorem globF_one (s : List UInt8) : globF [42] s = decide ((partsL 47 s).length = 1) := by
  unfold globF
  rw [partsL_none 47 [42] (by decide)]
  exact fits_stars 1 _
theorem globF_twoOne (s : List UInt8) : globF [42, 42, 47, 42] s = true := by
  unfold globF
  rw [show ([42, 42, 47, 42] : List UInt8) = [42, 42] ++ 47 :: [42] from rfl, partsL_app, partsL_none 47 [42, 42] (by decide), partsL_none 47 [42] (by decide)]
  rw [List.singleton_append, fitL_star rfl]
  rcases List.eq_nil_or_concat (partsL 47 s) with h | ⟨l, x, h⟩
  · exact absurd h (partsL_ne 47 s)
  · refine ⟨l, [x], by rw [h, List.concat_eq_append], ?_⟩
    have := fits_stars 1 [x]
    exact this
/-! ### many stars -/
/-- n stars, each with a sign behind it -/
def starL (c : UInt8) : Nat → List UInt8
  | 0 => []
  | n + 1 => 42 :: c :: starL c n
def starT (c : UInt8) : Nat → List Tok
  | 0 => []
  | n + 1 => (true, span 42 42) :: (false, span c c) :: starT c n
theorem tokL_stars (c : UInt8) (h : plainC c) (n : Nat) (r : List UInt8) : tokL (starL c n ++ r) = (tokL r).map fun ts => starT c n ++ ts := by
  induction n with
  | zero =>
    show tokL r = _
    cases tokL r <;> rfl
  | succ n ih =>
    rw [show starL c (n + 1) ++ r = 42 :: c :: (starL c n ++ r) from rfl, tokL_step _ _ (by decide), tokL_step _ _ h.2.2, ih, if_neg h.1, if_neg h.2.1, Option.map_map, Option.map_map]
    rfl
theorem fits_starT (c : UInt8) (n m : Nat) : fitL tokStar tokFits (starT c n) (List.replicate m c) = true ↔ (n = 0 → m = 0) ∧ n ≤ m := by
  induction n generalizing m with
  | zero =>
    cases m with
    | zero => simp [starT, fitL_nil_nil]
    | succ m => simp [starT, List.replicate_succ, fitL_nil_cons]
  | succ n ih =>
    rw [show starT c (n + 1) = (true, span 42 42) :: (false, span c c) :: starT c n from rfl, fitL_star rfl]
    constructor
    · rintro ⟨b1, b2, e, h⟩
      obtain ⟨x, b3, rfl, -, h3⟩ := (fitL_sign (star := tokStar) (fits := tokFits) (a := (false, span c c)) rfl _ _).1 h
      have h4 : b3 = List.replicate b3.length c := by
        apply List.eq_replicate_iff.2
        refine ⟨rfl, fun y hy => ?_⟩
        have : y ∈ List.replicate m c := by rw [e]; simp [hy]
        exact (List.mem_replicate.1 this).2
      have hl := congrArg List.length e
      rw [List.length_replicate, List.length_append, List.length_cons] at hl
      rw [h4] at h3
      have := (ih _).1 h3
      exact ⟨fun h => by omega, by omega⟩
    · rintro ⟨-, h⟩
      obtain ⟨k, rfl⟩ : ∃ k, m = k + 1 := ⟨m - 1, by omega⟩
      by_cases hn : n = 0
      · subst hn
        refine ⟨List.replicate k c, [c], by rw [List.replicate_succ'], ?_⟩
        rw [fitL_sign rfl]
        exact ⟨c, [], rfl, by show span c c c = true; rw [span_self]; simp, fitL_nil_nil⟩
      · refine ⟨[], List.replicate (k + 1) c, rfl, ?_⟩
        rw [List.replicate_succ, fitL_sign rfl]
        exact ⟨c, _, rfl, by show span c c c = true; rw [span_self]; simp, (ih k).2 ⟨fun h => absurd h hn, by omega⟩⟩
theorem hasB_same (c d : UInt8) (h : c ≠ d) (m : Nat) : hasB d (List.replicate m c) = false := by
  induction m with
  | zero => rfl
  | succ m ih => rw [List.replicate_succ]; simp [hasB, h, ih] at *
theorem partF_stars (c : UInt8) (h : plainC c) (n m : Nat) (hn : 1 ≤ n) : partF (starL c n) (List.replicate m c) = decide (n ≤ m) := by
  unfold partF
  have e := tokL_stars c h n []
  rw [List.append_nil, tokL] at e
  rw [e, Option.map_some, Option.getD_some, List.append_nil]
  by_cases hm : n ≤ m
  · rw [decide_eq_true hm]; exact (fits_starT c n m).2 ⟨fun h => by omega, hm⟩
  · rw [decide_eq_false hm, ← Bool.not_eq_true]
    intro h2
    exact hm ((fits_starT c n m).1 h2).2
/-- with another sign at the end none fits -/
theorem partF_starsNo (c d : UInt8) (h : plainC c) (hd : plainC d) (hcd : d ≠ c) (n m : Nat) : partF (starL c n ++ [d]) (List.replicate m c) = false := by
  unfold partF
  have e1 := tokL_plain [d] (by intro x hx; rw [List.mem_singleton.1 hx]; exact hd)
  rw [tokL_stars c h n [d], e1, Option.map_some, Option.getD_some, ← Bool.not_eq_true, fitL_app]
  rintro ⟨b1, b2, e, -, h2⟩
  obtain ⟨x, rfl, hx⟩ := (fitL_one (star := tokStar) (fits := tokFits) (a := (false, span d d)) rfl _).1 h2
  have hx2 : span d d x = true := hx
  rw [span_self, decide_eq_true_eq] at hx2
  have : x ∈ List.replicate m c := by rw [e]; simp
  exact hcd (hx2 ▸ (List.mem_replicate.1 this).2)
/-! ### sets -/
theorem tokL_noSet (r : List UInt8) (h : setP r = none) : tokL (91 :: r) = none := by
  rw [tokL, if_pos rfl]
  split
  · rfl
  · rename_i f r2 e
    rw [h] at e; cases e
theorem setG_one_span (l h : UInt8) (hh : h ≠ 93) : setG true (fun _ => false) [l, 45, h, 93] = some (fun x => span l h x, []) := by
  rw [setG, if_neg (by intro h2; cases h2.1), if_pos ⟨rfl, hh⟩, setG, if_pos ⟨rfl, rfl⟩]
  simp
theorem tokL_in (a l h : UInt8) (ha : plainC a) (hl : l ≠ 33) (hh : h ≠ 93) : tokL [a, 91, l, 45, h, 93] = some [(false, span a a), (false, fun x => span l h x)] := by
  have hp : setP [l, 45, h, 93] = some (fun x => span l h x, []) := by
    unfold setP
    simp only
    rw [if_neg hl, setG_one_span l h hh]
  rw [tokL_step _ _ ha.2.2, if_neg ha.1, if_neg ha.2.1, tokL, if_pos rfl]
  split
  · rename_i e; rw [hp] at e; cases e
  · rename_i f r2 e
    rw [hp] at e
    injection e with e; injection e with e1 e2
    subst e1 e2
    rw [tokL]; rfl
theorem tokL_out (a l h : UInt8) (ha : plainC a) (hh : h ≠ 93) : tokL [a, 91, 33, l, 45, h, 93] = some [(false, span a a), (false, fun x => !span l h x)] := by
  have hp : setP [33, l, 45, h, 93] = some (fun x => !span l h x, []) := by
    unfold setP
    simp only
    rw [if_pos trivial, setG_one_span l h hh]; rfl
  rw [tokL_step _ _ ha.2.2, if_neg ha.1, if_neg ha.2.1, tokL, if_pos rfl]
  split
  · rename_i e; rw [hp] at e; cases e
  · rename_i f r2 e
    rw [hp] at e
    injection e with e; injection e with e1 e2
    subst e1 e2
    rw [tokL]; rfl
theorem fits_pair (a c : UInt8) (f : UInt8 → Bool) : fitL tokStar tokFits [(false, span a a), (false, f)] [a, c] = f c := by
  rw [fitL_cons_cons, if_neg (by intro h; cases h), fitL_cons_cons, if_neg (by intro h; cases h), fitL_nil_nil, Bool.and_true]
  show (span a a a && f c) = f c
  rw [span_self]; simp
theorem partF_in (a l h c : UInt8) (ha : plainC a) (hl : l ≠ 33) (hh : h ≠ 93) : partF [a, 91, l, 45, h, 93] [a, c] = span l h c := by
  unfold partF; rw [tokL_in a l h ha hl hh, Option.getD_some, fits_pair]
theorem partF_out (a l h c : UInt8) (ha : plainC a) (hh : h ≠ 93) : partF [a, 91, 33, l, 45, h, 93] [a, c] = !span l h c := by
  unfold partF; rw [tokL_out a l h ha hh, Option.getD_some, fits_pair]
theorem tokL_torn (a c : UInt8) (ha : plainC a) (hc : c ≠ 33) : tokL [a, 91, c] = none := by
  have hp : setP [c] = none := by
    unfold setP
    simp only
    rw [if_neg hc, setG, if_neg (by intro h2; cases h2.1)]
  rw [tokL_step _ _ ha.2.2, tokL_noSet _ hp]; rfl
/-! ### patterns and paths of one part -/
theorem starL_rep (c : UInt8) (n : Nat) : Lib.repeatL [42, c] n = starL c n := by
  induction n with
  | zero => rfl
  | succ n ih =>
    show [42, c] ++ Lib.repeatL [42, c] n = _
    rw [ih]; rfl
theorem starL_len (c : UInt8) (n : Nat) : (starL c n).length = 2 * n := by
  induction n with
  | zero => rfl
  | succ n ih =>
    show (starL c n).length + 1 + 1 = _
    omega
theorem hasB_starL (c d : UInt8) (h : c ≠ d) (h2 : (42 : UInt8) ≠ d) (n : Nat) : hasB d (starL c n) = false := by
  induction n with
  | zero => rfl
  | succ n ih =>
    show hasB d (42 :: c :: starL c n) = false
    rw [hasB_cons, hasB_cons, ih, beq_false_of_ne h, beq_false_of_ne h2]; rfl
theorem globE_one {p : List UInt8} (h0 : p ≠ []) (hl : p.length ≤ 400) (h : hasB 47 p = false) (ht : (tokL p).isSome = true) : globE p = 0 := by
  unfold globE
  rw [if_neg (by rintro (h2 | h2); exact h0 h2; omega), partsL_none 47 p h]
  show (if p = [] then (9 : Int) else if (tokL p).isNone then 3 else 0) = 0
  rw [if_neg h0, ← Option.not_isSome, ht]; rfl
theorem globE_torn {p : List UInt8} (h0 : p ≠ []) (hl : p.length ≤ 400) (h : hasB 47 p = false) (ht : tokL p = none) : globE p = 3 := by
  unfold globE
  rw [if_neg (by rintro (h2 | h2); exact h0 h2; omega), partsL_none 47 p h]
  show (if p = [] then (9 : Int) else if (tokL p).isNone then 3 else 0) = 3
  rw [if_neg h0, ht]; rfl
theorem pathE_one {p : List UInt8} (h0 : nameB p = true) (h1 : 1 ≤ p.length) (hl : p.length ≤ 400) (h : hasB 47 p = false) (hz : hasB 0 p = false) : pathE p = 0 := by
  refine pathE_ok (by omega) hz ?_
  rw [partsL_none 47 p h]
  simp [h0]
theorem globF_single {p s : List UInt8} (hp : hasB 47 p = false) (hs : hasB 47 s = false) (h2 : p ≠ [42, 42]) : globF p s = partF p s := by
  unfold globF
  rw [partsL_none 47 p hp, partsL_none 47 s hs, fitL_cons_cons, if_neg (by unfold twoStars; simpa using h2), fitL_nil_nil, Bool.and_true]
theorem nameB_rep (c : UInt8) (m : Nat) (hm : 1 ≤ m) (hc : c ≠ 46) : nameB (List.replicate m c) = true := by
  obtain ⟨k, rfl⟩ : ∃ k, m = k + 1 := ⟨m - 1, by omega⟩
  rw [List.replicate_succ]
  exact nameB_true _ (by simp) (by intro h; injection h with h; exact hc h) (by intro h; injection h with h; exact hc h)
end Go.Proofs.YtilmfnlhpnbngaaDoor
