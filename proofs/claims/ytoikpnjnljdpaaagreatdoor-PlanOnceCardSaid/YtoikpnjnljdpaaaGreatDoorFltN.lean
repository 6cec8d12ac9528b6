/- Plain mathematics of selections: what the properties of filters say. Nothing of the program. -/
import Derived.Test.YtoikpnjnljdpaaaGreatDoorFlb
import Derived.Test.YtoikpnjnljdpaaaGreatDoorPal
import Derived.Test.YtoikpnjnljdpaaaGreatDoorKep
set_option linter.unusedVariables false
namespace Go.Proofs.YtoikpnjnljdpaaaGreatDoor
open Go.RowKit
/-- the nodes that rules select -/
def selF (l : List NodeV) (qs : List RuleV) : List NodeV := l.filter fun x => allF qs x.path
theorem rulesP_pats (qs : List RuleV) (h : ∀ q ∈ qs, q.2 ∈ patsL) : rulesP qs = 0 := by
  induction qs with
  | nil => rfl
  | cons r l ih => rw [rulesP_cons, if_pos (globE_pat (h r (List.mem_cons_self ..))), ih fun q hq => h q (List.mem_cons_of_mem _ hq)]
theorem rulesE_pats (qs : List RuleV) (h : ∀ q ∈ qs, q.2 ∈ patsL) (hl : qs.length ≤ 12) : rulesE qs = 0 := by
  unfold rulesE; rw [if_neg (by omega), rulesP_pats qs h]
theorem okR_pats (qs : List RuleV) (h : ∀ q ∈ qs, q.2 ∈ patsL) : okR qs := fun q hq => by
  have := (pats_ok _ (h q hq)).2.2
  omega
theorem run_pats {l : List NodeV} {qs : List RuleV} (hl : treeE l = 0) (h : ∀ q ∈ qs, q.2 ∈ patsL) (hn : qs.length ≤ 12) : runE l qs = 0 ∧ runL l qs = selF l qs := by
  have e : runE l qs = 0 := by unfold runE; rw [if_pos hl, rulesE_pats qs h hn]
  exact ⟨e, if_pos e⟩
theorem taken_last (qs : List RuleV) (r : RuleV) (s : List UInt8) : takenF (qs ++ [r]) s = if fitsB r.2 s = true then r.1 else takenF qs s := by
  unfold takenF
  rw [takenG_app]; rfl
/-- what a valid path is in -/
theorem pathE_up {s : List UInt8} (h : pathE s = 0) : upL s = [] ∨ pathE (upL s) = 0 := by
  by_cases hu : upL s = []
  · exact .inl hu
  · right
    have e := up_join hu
    obtain ⟨h1, h2, h3⟩ := pathE_split h
    rw [e] at h2 h3
    have hl : (upL s).length ≤ s.length := by
      conv => rhs; rw [e]
      rw [List.length_append]; omega
    rw [partsL_app, List.all_append, Bool.and_eq_true] at h3
    rw [hasB_append, Bool.or_eq_false_iff] at h2
    exact pathE_ok (by have := List.length_pos_iff.2 hu; omega) h2.1 h3.1
theorem allF_all (qs : List RuleV) (h : ∀ s, pathE s = 0 → takenF qs s = true) : ∀ (k : Nat) (s : List UInt8), s.length ≤ k → (s = [] ∨ pathE s = 0) → allF qs s = true := by
  intro k
  induction k with
  | zero =>
    intro s hs _
    rw [List.eq_nil_of_length_eq_zero (Nat.le_zero.1 hs), allF_nil]
  | succ k ih =>
    intro s hs hp
    by_cases hn : s = []
    · rw [hn, allF_nil]
    · rcases hp with hp | hp
      · exact absurd hp hn
      · rw [allF_step qs hn, h s hp, Bool.true_and]
        have := up_less hn
        exact ih _ (by omega) (pathE_up hp)
theorem sel_all {l : List NodeV} (qs : List RuleV) (hl : ∀ x ∈ l, nodE x = 0) (h : ∀ s, pathE s = 0 → takenF qs s = true) : selF l qs = l := by
  unfold selF
  rw [List.filter_eq_self]
  intro x hx
  exact allF_all qs h _ _ (Nat.le_refl _) (.inr (node_path (hl x hx)))
theorem sel_none {l : List NodeV} (qs : List RuleV) (hl : ∀ x ∈ l, nodE x = 0) (h : ∀ s, pathE s = 0 → takenF qs s = false) : selF l qs = [] := by
  unfold selF
  rw [List.filter_eq_nil_iff]
  intro x hx
  have hp := node_path (hl x hx)
  have hn : x.path ≠ [] := fun e => by
    have := (pathE_split hp).1
    rw [e] at this; simp at this
  rw [allF_step qs hn, h _ hp, Bool.false_and]; simp
theorem fits_two {s : List UInt8} (h : pathE s = 0) : fitsB [42, 42] s = true := by
  have e : fitsE [42, 42] s = 0 := by unfold fitsE; rw [if_pos (globE_pat (by decide)), h]
  unfold fitsB
  rw [e, globF_two]; rfl
theorem taken_two (qs : List RuleV) (b : Bool) {s : List UInt8} (h : pathE s = 0) : takenF (qs ++ [(b, [42, 42])]) s = b := by
  rw [taken_last, if_pos (fits_two h)]
/-- what is selected is a tree -/
theorem rises_filter {l : List NodeV} (h : Rises l) (f : NodeV → Bool) : Rises (l.filter f) := List.Pairwise.sublist List.filter_sublist h
theorem sel_sound {l : List NodeV} (h : Sound l) (qs : List RuleV) : Sound (selF l qs) := by
  refine ⟨rises_filter h.rises _, fun n hn => h.node n (List.mem_filter.1 hn).1, fun n hn => ?_, fun x hx y hy => h.link x (List.mem_filter.1 hx).1 y (List.mem_filter.1 hy).1⟩
  obtain ⟨hn1, hn2⟩ := List.mem_filter.1 hn
  rcases h.up n hn1 with e | ⟨d, hd, e1, e2⟩
  · exact .inl e
  · right
    refine ⟨d, List.mem_filter.2 ⟨hd, ?_⟩, e1, e2⟩
    have hp := node_path (h.node n hn1)
    have hne : n.path ≠ [] := fun e => by
      have := (pathE_split hp).1
      rw [e] at this; simp at this
    have hn3 : allF qs n.path = true := hn2
    rw [allF_step qs hne, Bool.and_eq_true] at hn3
    show allF qs d.path = true
    rw [e1]; exact hn3.2
theorem sel_tree {l : List NodeV} (h : treeE l = 0) (qs : List RuleV) : treeE (selF l qs) = 0 := by
  obtain ⟨h1, h2⟩ := (treeE_zero l).1 h
  exact (treeE_zero _).2 ⟨Nat.le_trans (List.length_filter_le _ _) h1, sel_sound h2 qs⟩
theorem sel_again (l : List NodeV) (qs : List RuleV) : selF (selF l qs) qs = selF l qs := by
  unfold selF; rw [List.filter_filter]; congr 1; funext x; simp
theorem sel_found {l : List NodeV} (h : Sound l) (qs : List RuleV) {n : NodeV} (hn : n ∈ l) : decide (findL (selF l qs) n.path < (selF l qs).length) = allF qs n.path := by
  cases hb : allF qs n.path with
  | true =>
    have hm : n ∈ selF l qs := List.mem_filter.2 ⟨hn, hb⟩
    obtain ⟨hk, -⟩ := findL_mem (rises_filter h.rises _) hm
    exact decide_eq_true hk
  | false =>
    apply decide_eq_false
    intro hk
    have he := findL_at _ _ hk
    have hm := List.getElem_mem hk
    have := (List.mem_filter.1 hm).2
    have h2 : allF qs ((selF l qs)[findL (selF l qs) n.path]).path = true := this
    rw [he, hb] at h2; cases h2
/-! ### closed facts -/
theorem taken_a {s : List UInt8} (h : pathE s = 0) : takenF [(false, [97])] s = !decide ([97] = s) := by
  have e : fitsE [97] s = 0 := by unfold fitsE; rw [if_pos (globE_pat (by decide)), h]
  have hb : fitsB [97] s = decide ([97] = s) := by
    unfold fitsB
    rw [e, globF_plain [97] s (by intro c hc; simp at hc; subst hc; exact ⟨by decide, by decide, by decide⟩)]; rfl
  show (if fitsB [97] s = true then false else true) = _
  rw [hb]
  by_cases hs : [97] = s <;> simp [hs]
theorem small_path : pathE [97] = 0 ∧ pathE [97, 47, 98] = 0 ∧ pathE [99] = 0 := by decide +kernel
theorem up_a : upL [97] = [] ∧ upL [97, 47, 98] = [97] ∧ upL [99] = [] := by decide +kernel
theorem sel_a : selF [smA, smB, smC] [(false, [97])] = [smC] := by
  obtain ⟨p1, p2, p3⟩ := small_path
  obtain ⟨u1, u2, u3⟩ := up_a
  have a1 : allF [(false, [97])] [97] = false := by rw [allF_step _ (by decide), taken_a p1]; rfl
  have a2 : allF [(false, [97])] [97, 47, 98] = false := by rw [allF_step _ (by decide), taken_a p2, u2, a1]; rfl
  have a3 : allF [(false, [97])] [99] = true := by rw [allF_step _ (by decide), taken_a p3, u3]; rfl
  unfold selF
  rw [List.filter_cons_of_neg (by show ¬ allF _ [97] = true; rw [a1]; decide), List.filter_cons_of_neg (by show ¬ allF _ [97, 47, 98] = true; rw [a2]; decide), List.filter_cons_of_pos (by show allF _ [99] = true; exact a3)]; rfl
theorem globF_twoB (p : List UInt8) (hp : partsL 47 p = [p]) : globF [42, 42, 47, 98] p = decide ([98] = p) := by
  have hpl : ∀ c ∈ ([98] : List UInt8), plainC c := by intro c hc; simp at hc; subst hc; exact ⟨by decide, by decide, by decide⟩
  unfold globF
  rw [show ([42, 42, 47, 98] : List UInt8) = [42, 42] ++ 47 :: [98] from rfl, partsL_app, partsL_none 47 [42, 42] (by decide), partsL_none 47 [98] (by decide), hp, List.singleton_append]
  rw [fitL_cons_cons, if_pos (show twoStars [42, 42] = true from rfl), fitL_cons_cons, if_neg (show ¬ twoStars [98] = true by decide), fitL_nil_nil, Bool.and_true, partF_plain _ _ hpl, fitL_cons_nil, fitL_cons_nil]
  show (_ || (true && (false && _))) = _
  simp
theorem taken_b {s : List UInt8} (h : pathE s = 0) : takenF [(false, [42, 42, 47, 98])] s = !globF [42, 42, 47, 98] s := by
  have e : fitsE [42, 42, 47, 98] s = 0 := by unfold fitsE; rw [if_pos (globE_pat (by decide)), h]
  show (if fitsB [42, 42, 47, 98] s = true then false else true) = _
  unfold fitsB
  rw [e]
  cases globF [42, 42, 47, 98] s <;> rfl
theorem sel_b : selF [smA, smB, smC] [(false, [42, 42, 47, 98])] = [smA, smC] := by
  obtain ⟨p1, p2, p3⟩ := small_path
  obtain ⟨u1, u2, u3⟩ := up_a
  have hpl : ∀ c ∈ ([98] : List UInt8), plainC c := by intro c hc; simp at hc; subst hc; exact ⟨by decide, by decide, by decide⟩
  have a1 : allF [(false, [42, 42, 47, 98])] [97] = true := by rw [allF_step _ (by decide), taken_b p1, globF_twoB _ (partsL_none 47 [97] (by decide)), u1]; rfl
  have g2 : globF [42, 42, 47, 98] [97, 47, 98] = true := by
    unfold globF
    rw [show ([42, 42, 47, 98] : List UInt8) = [42, 42] ++ 47 :: [98] from rfl, partsL_app, partsL_none 47 [42, 42] (by decide), partsL_none 47 [98] (by decide), show ([97, 47, 98] : List UInt8) = [97] ++ 47 :: [98] from rfl, partsL_app, partsL_none 47 [97] (by decide), partsL_none 47 [98] (by decide), List.singleton_append, List.singleton_append]
    rw [fitL_star rfl]
    refine ⟨[[97]], [[98]], rfl, ?_⟩
    rw [fitL_cons_cons, if_neg (show ¬ twoStars [98] = true by decide), fitL_nil_nil, partF_plain _ _ hpl]; rfl
  have a2 : allF [(false, [42, 42, 47, 98])] [97, 47, 98] = false := by rw [allF_step _ (by decide), taken_b p2, g2]; rfl
  have a3 : allF [(false, [42, 42, 47, 98])] [99] = true := by rw [allF_step _ (by decide), taken_b p3, globF_twoB _ (partsL_none 47 [99] (by decide)), u3]; rfl
  unfold selF
  rw [List.filter_cons_of_pos (by show allF _ [97] = true; exact a1), List.filter_cons_of_neg (by show ¬ allF _ [97, 47, 98] = true; rw [a2]; decide), List.filter_cons_of_pos (by show allF _ [99] = true; exact a3)]; rfl
end Go.Proofs.YtoikpnjnljdpaaaGreatDoor
