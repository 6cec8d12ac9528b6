/- Plain mathematics of valid trees; nothing of the program. -/
import Derived.Test.YtoplcelimdkjeaaDoorNodM
set_option linter.unusedVariables false
namespace Go.Proofs.YtoplcelimdkjeaaDoor
open Go.RowKit
theorem plt_trans {a b c : List UInt8} (h1 : pcmp a b = -1) (h2 : pcmp b c = -1) : pcmp a c = -1 := by
  have h := pcmp_trans a b c (by omega) (by omega)
  have hb := pcmp_bd a c
  rcases Int.lt_or_eq_of_le h with h | h
  · omega
  · have := (pcmp_zero a c).1 h
    subst this
    have := pcmp_neg a b; omega
theorem plt_irr (a : List UInt8) : pcmp a a ≠ -1 := by rw [pcmp_self]; decide
theorem plt_asym {a b : List UInt8} (h : pcmp a b = -1) : pcmp b a ≠ -1 := by rw [pcmp_neg, h]; decide
theorem pcmp_tri (a b : List UInt8) : pcmp a b = -1 ∨ a = b ∨ pcmp b a = -1 := by
  have h1 := pcmp_bd a b
  have h2 := pcmp_neg a b
  rcases (show pcmp a b = -1 ∨ pcmp a b = 0 ∨ pcmp a b = 1 by omega) with h | h | h
  · exact .inl h
  · exact .inr (.inl ((pcmp_zero a b).1 h))
  · exact .inr (.inr (by omega))
theorem up_join {p : List UInt8} (h : upL p ≠ []) : p = upL p ++ 47 :: baseL p := by
  have hd : (partsL 47 p).dropLast ≠ [] := by
    intro e; apply h; unfold upL; rw [e]; rfl
  have h1 := joinL_snoc (partsL 47 p).dropLast (baseL p) hd
  unfold baseL at h1 ⊢
  rw [List.dropLast_concat_getLast, joinL_parts] at h1
  exact h1
/-- a path's directory stands ahead of it -/
theorem up_before {p : List UInt8} (h : upL p ≠ []) : pcmp (upL p) p = -1 := by
  have h1 : hasB 47 p = true := by
    rcases e : hasB 47 p with _ | _
    · exact absurd (up_base_none p e).1 h
    · rfl
  obtain ⟨b, e⟩ : ∃ b, p = upL p ++ 47 :: b := ⟨baseL p, up_join h⟩
  have h2 : pcmp (upL p ++ []) (upL p ++ 47 :: b) = -1 := by rw [pcmp_app, pcmp_nil_cons]
  rw [List.append_nil, ← e] at h2
  exact h2
/-- what a tree is, apart from its size -/
structure Sound (t : List NodeV) : Prop where
  rises : Rises t
  node : ∀ n ∈ t, nodE n = 0
  up : ∀ n ∈ t, upL n.path = [] ∨ ∃ d ∈ t, d.path = upL n.path ∧ d.kind = 2
  link : ∀ x ∈ t, ∀ y ∈ t, x.same = y.same → x.same ≠ 0 → x.md = y.md ∧ x.data = y.data
theorem atE_zero (t : List NodeV) (n : NodeV) : atE t n = 0 ↔ nodE n = 0 ∧ (∀ x, t.getLast? = some x → pcmp x.path n.path = -1) ∧ upOk t n.path = true ∧ linkNo t n = false := by
  unfold atE
  by_cases h1 : nodE n ≠ 0
  · rw [if_pos h1]; exact ⟨fun h => absurd h h1, fun h => absurd h.1 h1⟩
  · rw [if_neg h1]
    have h1' : nodE n = 0 := by simpa using h1
    cases hg : t.getLast? with
    | none =>
      simp only [Bool.false_eq_true, if_false]
      cases upOk t n.path <;> cases linkNo t n <;> simp [h1']
    | some x =>
      by_cases h2 : pcmp x.path n.path = -1
      · cases upOk t n.path <;> cases linkNo t n <;> simp [h1', h2]
      · simp [h2]
theorem walkE_all (l : List NodeV) : ∀ s, walkE s l = 0 ↔ ∀ k (hk : k < l.length), atE (s ++ l.take k) l[k] = 0 := by
  induction l with
  | nil => intro s; simp [walkE]
  | cons n l ih =>
    intro s
    rw [walkE]
    constructor
    · intro h k hk
      by_cases e : atE s n ≠ 0
      · rw [if_pos e] at h; exact absurd h e
      · rw [if_neg e] at h
        cases k with
        | zero => simp only [List.take_zero, List.append_nil, List.getElem_cons_zero]; simpa using e
        | succ k =>
          have := (ih _).1 h k (by simpa using hk)
          simpa using this
    · intro h
      have h0 : atE s n = 0 := by
        have := h 0 (by simp)
        simpa only [List.take_zero, List.append_nil, List.getElem_cons_zero] using this
      rw [if_neg (by simp [h0])]
      refine (ih _).2 fun k hk => ?_
      have := h (k + 1) (by simpa using hk)
      simpa using this
theorem rises_get {t : List NodeV} (h : Rises t) (i j : Nat) (hi : i < t.length) (hj : j < t.length) (hij : i < j) : pcmp t[i].path t[j].path = -1 :=
  (List.pairwise_iff_getElem.1 h) i j hi hj hij
theorem rises_snoc {t : List NodeV} {n : NodeV} (h : Rises t) (hl : ∀ x, t.getLast? = some x → pcmp x.path n.path = -1) : Rises (t ++ [n]) := by
  unfold Rises at *
  rw [List.pairwise_append]
  refine ⟨h, List.pairwise_singleton _ _, fun x hx y hy => ?_⟩
  obtain rfl : y = n := by simpa using hy
  obtain ⟨i, hi, rfl⟩ := List.getElem_of_mem hx
  have hne : t ≠ [] := by intro e; subst e; simp at hi
  have hlast := hl _ (List.getLast?_eq_some_getLast hne)
  rw [List.getLast_eq_getElem] at hlast
  rcases Nat.lt_or_eq_of_le (show i ≤ t.length - 1 by omega) with h' | h'
  · exact plt_trans (rises_get h i (t.length - 1) hi (by omega) h') hlast
  · subst h'; exact hlast
/-- in a rising list what is less stands ahead -/
theorem rises_ahead {t : List NodeV} (h : Rises t) (k : Nat) (hk : k < t.length) (d : NodeV) (hd : d ∈ t) (hp : pcmp d.path t[k].path = -1) : d ∈ t.take k := by
  obtain ⟨i, hi, rfl⟩ := List.getElem_of_mem hd
  have hik : i < k := by
    rcases Nat.lt_trichotomy i k with h' | h' | h'
    · exact h'
    · subst h'; exact absurd hp (plt_irr _)
    · exact absurd (rises_get h k i hk hi h') (plt_asym hp)
  exact List.mem_take_iff_getElem.2 ⟨i, by omega, rfl⟩
theorem sound_snoc {t : List NodeV} {n : NodeV} (h : Sound t) (ha : atE t n = 0) : Sound (t ++ [n]) := by
  obtain ⟨h1, h2, h3, h4⟩ := (atE_zero t n).1 ha
  refine ⟨rises_snoc h.rises h2, fun x hx => ?_, fun x hx => ?_, fun x hx y hy e hne => ?_⟩
  · rcases List.mem_append.1 hx with a | a
    · exact h.node x a
    · obtain rfl : x = n := by simpa using a
      exact h1
  · rcases List.mem_append.1 hx with a | a
    · rcases h.up x a with e | ⟨d, hd, e⟩
      · exact .inl e
      · exact .inr ⟨d, List.mem_append_left _ hd, e⟩
    · obtain rfl : x = n := by simpa using a
      unfold upOk at h3
      rw [Bool.or_eq_true] at h3
      rcases h3 with e | e
      · exact .inl (by simpa using e)
      · obtain ⟨d, hd, e2⟩ := List.any_eq_true.1 e
        rw [Bool.and_eq_true] at e2
        exact .inr ⟨d, List.mem_append_left _ hd, by simpa using e2.1, by simpa using e2.2⟩
  · have key : ∀ z ∈ t, z.same = n.same → n.same ≠ 0 → z.md = n.md ∧ z.data = n.data := by
      intro z hz ez hz0
      by_cases hc : z.md = n.md ∧ z.data = n.data
      · exact hc
      · exfalso
        have : linkNo t n = true := by
          unfold linkNo
          rw [Bool.and_eq_true]
          refine ⟨by simpa using hz0, List.any_eq_true.2 ⟨z, hz, ?_⟩⟩
          rw [Bool.and_eq_true]
          refine ⟨by simpa using ez, ?_⟩
          rcases Classical.em (z.md = n.md) with em | em
          · have ed : ¬ z.data = n.data := fun e' => hc ⟨em, e'⟩
            simp [em, ed]
          · simp [em]
        rw [h4] at this; cases this
    rcases List.mem_append.1 hx with a | a <;> rcases List.mem_append.1 hy with b | b
    · exact h.link x a y b e hne
    · obtain rfl : y = n := by simpa using b
      exact key x a e (by rw [← e]; exact hne)
    · obtain rfl : x = n := by simpa using a
      have := key y b e.symm hne
      exact ⟨this.1.symm, this.2.symm⟩
    · obtain rfl : x = n := by simpa using a
      obtain rfl : y = x := by simpa using b
      exact ⟨rfl, rfl⟩
theorem sound_nil : Sound [] := ⟨List.Pairwise.nil, fun n h => by simp at h, fun n h => by simp at h, fun n h => by simp at h⟩
theorem walk_sound (t : List NodeV) : walkE [] t = 0 ↔ Sound t := by
  rw [walkE_all]
  constructor
  · intro h
    have key : ∀ k, k ≤ t.length → Sound (t.take k) := by
      intro k
      induction k with
      | zero => intro _; rw [List.take_zero]; exact sound_nil
      | succ k ih =>
        intro hk
        rw [List.take_succ_eq_append_getElem (by omega)]
        exact sound_snoc (ih (by omega)) (by have := h k (by omega); rwa [List.nil_append] at this)
    have := key t.length (Nat.le_refl _)
    rwa [List.take_length] at this
  · intro h k hk
    rw [List.nil_append, atE_zero]
    refine ⟨h.node _ (List.getElem_mem hk), fun x hx => ?_, ?_, ?_⟩
    · cases k with
      | zero => simp at hx
      | succ k =>
        rw [List.take_succ_eq_append_getElem (by omega), List.getLast?_append] at hx
        simp only [List.getLast?_singleton, Option.some_or, Option.some.injEq] at hx
        subst hx
        exact rises_get h.rises k (k + 1) (by omega) hk (by omega)
    · unfold upOk
      rw [Bool.or_eq_true]
      rcases h.up _ (List.getElem_mem hk) with e | ⟨d, hd, e1, e2⟩
      · exact .inl (by simpa using e)
      · by_cases hu : upL t[k].path = []
        · exact .inl (by simpa using hu)
        · refine .inr (List.any_eq_true.2 ⟨d, rises_ahead h.rises k hk d hd (by rw [e1]; exact up_before hu), ?_⟩)
          simp [e1, e2]
    · rw [Bool.eq_false_iff]
      intro hl
      unfold linkNo at hl
      rw [Bool.and_eq_true] at hl
      obtain ⟨z, hz, hz2⟩ := List.any_eq_true.1 hl.2
      rw [Bool.and_eq_true] at hz2
      have h1 := h.link z (List.mem_of_mem_take hz) _ (List.getElem_mem hk) (by simpa using hz2.1) (by
        have e1 : z.same = t[k].same := by simpa using hz2.1
        rw [e1]; simpa using hl.1)
      simp [h1.1, h1.2] at hz2
theorem treeE_zero (t : List NodeV) : treeE t = 0 ↔ t.length ≤ 40 ∧ Sound t := by
  unfold treeE
  by_cases h : 40 < t.length
  · rw [if_pos h]; exact ⟨fun e => absurd e (by decide), fun e => by omega⟩
  · rw [if_neg h, walk_sound]; exact ⟨fun e => ⟨by omega, e⟩, fun e => e.2⟩
/-! ### removing -/
theorem remL_sub (t : List NodeV) (s : List UInt8) : (remL t s).Sublist t := List.filter_sublist
theorem mem_remL {t : List NodeV} {s : List UInt8} {n : NodeV} : n ∈ remL t s ↔ n ∈ t ∧ n.path ≠ s ∧ inB n.path s = false := by
  unfold remL
  rw [List.mem_filter, Bool.not_eq_true', Bool.or_eq_false_iff]
  simp
theorem joinL_app (a b : List (List UInt8)) (ha : a ≠ []) (hb : b ≠ []) : joinL (a ++ b) = joinL a ++ 47 :: joinL b := by
  induction a with
  | nil => exact absurd rfl ha
  | cons x a ih =>
    by_cases h : a = []
    · subst h
      rw [List.cons_append, List.nil_append, joinL_cons _ _ hb]; rfl
    · rw [List.cons_append, joinL_cons _ _ (by simp [h]), joinL_cons _ _ h, ih h]; simp
theorem in_iff {p s : List UInt8} (h : s ≠ []) : inB p s = true ↔ ∃ r, p = s ++ 47 :: r := by
  rw [inB_ne h, decide_eq_true_eq]
  constructor
  · rintro ⟨r, e⟩; exact ⟨r, by rw [← e]; simp⟩
  · rintro ⟨r, rfl⟩; exact ⟨r, by simp⟩
/-- what is in s is directly in s, or its directory is in s -/
theorem up_in {p s : List UInt8} (h : s ≠ []) (hi : inB p s = true) : upL p = s ∨ inB (upL p) s = true := by
  obtain ⟨r, rfl⟩ := (in_iff h).1 hi
  have e : upL (s ++ 47 :: r) = joinL (partsL 47 s ++ (partsL 47 r).dropLast) := by
    unfold upL; rw [partsL_app, List.dropLast_append_of_ne_nil (partsL_ne 47 r)]
  by_cases hd : (partsL 47 r).dropLast = []
  · rw [hd, List.append_nil, joinL_parts] at e; exact .inl e
  · rw [joinL_app _ _ (partsL_ne 47 s) hd, joinL_parts] at e
    exact .inr ((in_iff h).2 ⟨_, e⟩)
theorem in_of_up {p s : List UInt8} (hu : upL p ≠ []) (h : s ≠ []) (hi : upL p = s ∨ inB (upL p) s = true) : inB p s = true := by
  have e := up_join hu
  rcases hi with e1 | e1
  · exact (in_iff h).2 ⟨baseL p, by rw [← e1]; exact e⟩
  · obtain ⟨r, e2⟩ := (in_iff h).1 e1
    refine (in_iff h).2 ⟨r ++ 47 :: baseL p, ?_⟩
    rw [e2] at e
    conv => lhs; rw [e]
    simp
theorem path_ne {n : NodeV} (h : nodE n = 0) : n.path ≠ [] := by
  intro e
  unfold nodE at h
  rw [e, show pathE [] = 1 from rfl, if_pos (by decide)] at h
  exact absurd h (by decide)
theorem rem_sound {t : List NodeV} (h : Sound t) (s : List UInt8) : Sound (remL t s) := by
  refine ⟨h.rises.sublist (remL_sub t s), fun n hn => h.node n (mem_remL.1 hn).1, fun n hn => ?_, fun x hx y hy => h.link x (mem_remL.1 hx).1 y (mem_remL.1 hy).1⟩
  obtain ⟨h1, h2, h3⟩ := mem_remL.1 hn
  by_cases hs : s = []
  · subst hs
    rw [inB_nil] at h3
    exact absurd (by simpa using h3) (path_ne (h.node n h1))
  · rcases h.up n h1 with e | ⟨d, hd, e1, e2⟩
    · exact .inl e
    · by_cases hu : upL n.path = []
      · exact .inl hu
      · refine .inr ⟨d, mem_remL.2 ⟨hd, fun e => ?_, ?_⟩, e1, e2⟩
        · rw [in_of_up hu hs (.inl (by rw [← e1]; exact e))] at h3; cases h3
        · rw [Bool.eq_false_iff]
          intro e
          rw [in_of_up hu hs (.inr (by rw [← e1]; exact e))] at h3; cases h3
/-- what is in s is behind a directory s -/
theorem in_has {t : List NodeV} (h : Sound t) {s : List UInt8} (hs : s ≠ []) : ∀ (k : Nat) (n : NodeV), n ∈ t → n.path.length = k → inB n.path s = true → ∃ d ∈ t, d.path = s := by
  intro k
  induction k using Nat.strongRecOn with
  | ind k ih =>
    intro n hn hk hi
    have hu : upL n.path ≠ [] := by
      rcases up_in hs hi with e | e
      · rw [e]; exact hs
      · intro e2
        obtain ⟨r, e3⟩ := (in_iff hs).1 e
        rw [e2] at e3
        exact absurd (congrArg List.length e3) (by simp)
    rcases h.up n hn with e | ⟨d, hd, e1, e2⟩
    · exact absurd e hu
    · rcases up_in hs hi with e | e
      · exact ⟨d, hd, by rw [e1, e]⟩
      · have hlen : (upL n.path).length < k := by
          have := congrArg List.length (up_join hu)
          rw [List.length_append, List.length_cons] at this
          omega
        exact ih _ hlen d hd (by rw [e1]) (by rw [e1]; exact e)
/-! ### finding -/
theorem findL_none {t : List NodeV} {s : List UInt8} : findL t s = t.length ↔ ∀ n ∈ t, n.path ≠ s := by
  constructor
  · intro h n hn
    obtain ⟨i, hi, rfl⟩ := List.getElem_of_mem hn
    exact findL_ne t s i (by rw [h]; exact hi) hi
  · intro h
    rcases Nat.lt_or_eq_of_le (findL_le t s) with h' | h'
    · exact absurd (findL_at t s h') (h _ (List.getElem_mem h'))
    · exact h'
theorem findL_mem {t : List NodeV} (h : Rises t) {n : NodeV} (hn : n ∈ t) : ∃ hk : findL t n.path < t.length, t[findL t n.path] = n := by
  have hk : findL t n.path < t.length := by
    rcases Nat.lt_or_eq_of_le (findL_le t n.path) with h' | h'
    · exact h'
    · exact absurd rfl (findL_none.1 h' n hn)
  refine ⟨hk, ?_⟩
  obtain ⟨i, hi, rfl⟩ := List.getElem_of_mem hn
  have he := findL_at t _ hk
  rcases Nat.lt_trichotomy (findL t t[i].path) i with h' | h' | h'
  · exact absurd (rises_get h _ _ hk hi h') (by rw [he]; exact plt_irr _)
  · simp only [h']
  · exact absurd (rises_get h _ _ hi hk h') (by rw [he]; exact plt_irr _)
/-! ### putting -/
theorem mem_putL {t : List NodeV} {n x : NodeV} : x ∈ putL t n ↔ x = n ∨ (x ∈ t ∧ x.path ≠ n.path) := by
  unfold putL
  rw [List.mem_append, List.mem_cons, List.mem_filter, List.mem_filter]
  have h0 : x.path ≠ n.path ↔ pcmp x.path n.path ≠ 0 := not_congr (pcmp_zero _ _).symm
  have hb := pcmp_bd x.path n.path
  rw [h0]
  simp only [decide_eq_true_eq]
  constructor
  · rintro (⟨a, b⟩ | a | ⟨a, b⟩)
    · exact .inr ⟨a, by omega⟩
    · exact .inl a
    · exact .inr ⟨a, by omega⟩
  · rintro (a | ⟨a, b⟩)
    · exact .inr (.inl a)
    · rcases Int.lt_or_lt_of_ne b with c | c
      · exact .inl ⟨a, c⟩
      · exact .inr (.inr ⟨a, c⟩)
theorem parted {t : List NodeV} (h : Rises t) (p : List UInt8) (hp : ∀ x ∈ t, x.path ≠ p) : t.filter (fun x => decide (pcmp x.path p < 0)) ++ t.filter (fun x => decide (0 < pcmp x.path p)) = t := by
  induction t with
  | nil => rfl
  | cons a t ih =>
    have ha := hp a (by simp)
    have hp2 := fun x hx => hp x (List.mem_cons_of_mem a hx)
    unfold Rises at h
    rw [List.pairwise_cons] at h
    have hb := pcmp_bd a.path p
    have h0 : pcmp a.path p ≠ 0 := fun e => ha ((pcmp_zero _ _).1 e)
    rcases (show pcmp a.path p < 0 ∨ 0 < pcmp a.path p by omega) with c | c
    · rw [List.filter_cons_of_pos (by simpa using c), List.filter_cons_of_neg (by simp; omega), List.cons_append, ih h.2 hp2]
    · have hpa : pcmp p a.path = -1 := by have := pcmp_neg a.path p; omega
      have e1 : t.filter (fun x => decide (pcmp x.path p < 0)) = [] := by
        rw [List.filter_eq_nil_iff]
        intro x hx
        have := pcmp_neg p x.path
        have := plt_trans hpa (h.1 x hx)
        simp; omega
      have e2 : t.filter (fun x => decide (0 < pcmp x.path p)) = t := by
        rw [List.filter_eq_self]
        intro x hx
        have := pcmp_neg p x.path
        have := plt_trans hpa (h.1 x hx)
        simp; omega
      rw [List.filter_cons_of_neg (by simp; omega), List.filter_cons_of_pos (by simpa using c), e1, e2]; rfl
/-- what was put where nothing was, and is removed, leaves all as it was -/
theorem put_rem {t : List NodeV} (h : Sound t) {n : NodeV} (hn : n.path ≠ []) (hp : ∀ x ∈ t, x.path ≠ n.path) : remL (putL t n) n.path = t := by
  have hk : ∀ x ∈ t, (!(decide (x.path = n.path) || inB x.path n.path)) = true := by
    intro x hx
    rw [Bool.not_eq_true', Bool.or_eq_false_iff]
    refine ⟨by simpa using hp x hx, ?_⟩
    rw [Bool.eq_false_iff]
    intro e
    obtain ⟨d, hd, e2⟩ := in_has h hn _ x hx rfl e
    exact hp d hd e2
  unfold remL putL
  rw [List.filter_append, List.filter_cons_of_neg (by simp), ← List.filter_append, parted h.rises n.path hp, List.filter_eq_self]
  exact hk
/-! ### putting, node by node -/
theorem putL_nil (n : NodeV) : putL [] n = [n] := rfl
/-- all ahead are less -/
def AllLt (t : List NodeV) (p : List UInt8) : Prop := ∀ x ∈ t, pcmp x.path p < 0
theorem putL_lt {t : List NodeV} {n : NodeV} (h : AllLt t n.path) : putL t n = t ++ [n] := by
  have e1 : t.filter (fun x => decide (pcmp x.path n.path < 0)) = t := List.filter_eq_self.2 fun x hx => by simpa using h x hx
  have e2 : t.filter (fun x => decide (0 < pcmp x.path n.path)) = [] := List.filter_eq_nil_iff.2 fun x hx => by have := h x hx; simp; omega
  unfold putL; rw [e1, e2]
theorem putL_eq {t : List NodeV} {n x : NodeV} (h : AllLt t n.path) (hx : pcmp x.path n.path = 0) : putL (t ++ [x]) n = t ++ [n] := by
  have h1 := putL_lt h
  unfold putL at h1 ⊢
  rw [List.filter_append, List.filter_append, List.filter_cons_of_neg (by simp [hx]), List.filter_cons_of_neg (by simp [hx]), List.filter_nil, List.append_nil, List.filter_nil, List.append_nil]
  exact h1
theorem putL_gt {t : List NodeV} {n x : NodeV} (hx : 0 < pcmp x.path n.path) : putL (t ++ [x]) n = putL t n ++ [x] := by
  unfold putL
  rw [List.filter_append, List.filter_append, List.filter_cons_of_neg (by simp; omega), List.filter_cons_of_pos (by simpa using hx), List.filter_nil, List.append_nil, List.filter_nil]
  simp
theorem allLt_snoc {t : List NodeV} {p : List UInt8} {x : NodeV} (h : AllLt t p) (hx : pcmp x.path p < 0) : AllLt (t ++ [x]) p := by
  intro y hy
  rcases List.mem_append.1 hy with a | a
  · exact h y a
  · obtain rfl : y = x := by simpa using a
    exact hx
/-- behind one that is not less, all are greater -/
theorem behind_gt {t : List NodeV} (h : Rises t) {p : List UInt8} (k : Nat) (hk : k < t.length) (hd : ¬ AllLt (t.take k) p) : 0 < pcmp t[k].path p := by
  obtain ⟨x, hx, hn⟩ : ∃ x ∈ t.take k, ¬ pcmp x.path p < 0 := by
    refine Classical.byContradiction fun e => hd fun x hx => ?_
    exact Classical.byContradiction fun e2 => e ⟨x, hx, e2⟩
  obtain ⟨i, hi, rfl⟩ := List.mem_take_iff_getElem.1 hx
  have hr := rises_get h i k (by omega) hk (by omega)
  have hb := pcmp_bd t[i].path p
  have h1 := pcmp_neg t[k].path p
  have h2 := pcmp_neg t[i].path p
  have h3 := pcmp_bd t[k].path p
  rcases (show pcmp t[i].path p = 0 ∨ pcmp t[i].path p = 1 by omega) with e | e
  · have := (pcmp_zero _ _).1 e
    rw [← this] at h1 ⊢
    have := pcmp_neg t[i].path t[k].path
    omega
  · have h4 : pcmp p t[i].path = -1 := by omega
    have h5 := plt_trans h4 hr
    omega
theorem remL_step (t : List NodeV) (s : List UInt8) (k : Nat) (hk : k < t.length) : remL (t.take (k + 1)) s = remL (t.take k) s ++ (if (decide (t[k].path = s) || inB t[k].path s) = true then [] else [t[k]]) := by
  unfold remL
  rw [List.take_succ_eq_append_getElem hk, List.filter_append]
  congr 1
  by_cases h : (decide (t[k].path = s) || inB t[k].path s) = true
  · rw [if_pos h, List.filter_cons_of_neg (by rw [h]; decide), List.filter_nil]
  · rw [if_neg h, List.filter_cons_of_pos (by simpa using h), List.filter_nil]
/-- what was put is there as it was; all else is as it was -/
theorem put_found {t : List NodeV} {n : NodeV} (h : Rises (putL t n)) : (∃ hk : findL (putL t n) n.path < (putL t n).length, (putL t n)[findL (putL t n) n.path] = n) ∧
    ∀ y ∈ t, ∃ hk : findL (putL t n) y.path < (putL t n).length, y.path ≠ n.path → (putL t n)[findL (putL t n) y.path] = y := by
  refine ⟨findL_mem h (mem_putL.2 (.inl rfl)), fun y hy => ?_⟩
  by_cases e : y.path = n.path
  · obtain ⟨hk, -⟩ := findL_mem h (n := n) (mem_putL.2 (.inl rfl))
    rw [← e] at hk
    exact ⟨hk, fun e2 => absurd e e2⟩
  · obtain ⟨hk, e2⟩ := findL_mem h (n := y) (mem_putL.2 (.inr ⟨hy, e⟩))
    exact ⟨hk, fun _ => e2⟩
theorem rem_shorter {t : List NodeV} {s : List UInt8} (h : ∃ n ∈ t, n.path = s) : (remL t s).length < t.length := by
  obtain ⟨n, hn, e⟩ := h
  have hsub := remL_sub t s
  rcases Nat.lt_or_eq_of_le hsub.length_le with h' | h'
  · exact h'
  · have := hsub.eq_of_length h'
    rw [← this] at hn
    exact absurd e (mem_remL.1 hn).2.1
end Go.Proofs.YtoplcelimdkjeaaDoor
