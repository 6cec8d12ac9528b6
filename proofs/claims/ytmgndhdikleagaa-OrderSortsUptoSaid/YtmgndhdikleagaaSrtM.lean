/- Plain mathematics of sorting nodes by path, those of one path in their order; nothing of the program. -/
import Derived.Test.YtmgndhdikleagaaMth
set_option linter.unusedVariables false
namespace Go.Proofs.Ytmgndhdikleagaa
open Go.RowKit
/-- sorted, equal paths allowed -/
def Sorts (t : List NodeV) : Prop := t.Pairwise fun x y => pcmp x.path y.path ≤ 0
/-- the nodes of a path -/
def ofP (p : List UInt8) (t : List NodeV) : List NodeV := t.filter fun x => decide (x.path = p)
theorem ofP_nil (p : List UInt8) : ofP p [] = [] := rfl
theorem ofP_cons (p : List UInt8) (x : NodeV) (t : List NodeV) : ofP p (x :: t) = if x.path = p then x :: ofP p t else ofP p t := by
  unfold ofP; rw [List.filter_cons]; by_cases h : x.path = p <;> simp [h]
theorem ofP_app (p : List UInt8) (a b : List NodeV) : ofP p (a ++ b) = ofP p a ++ ofP p b := by unfold ofP; rw [List.filter_append]
/-- a node put in behind all that are no greater -/
def insT (t : List NodeV) (n : NodeV) : List NodeV := t.filter (fun x => decide (pcmp x.path n.path ≤ 0)) ++ n :: t.filter fun x => !decide (pcmp x.path n.path ≤ 0)
/-- sorted -/
def sortT (t : List NodeV) : List NodeV := t.foldl insT []
theorem sortT_snoc (t : List NodeV) (n : NodeV) : sortT (t ++ [n]) = insT (sortT t) n := by unfold sortT; rw [List.foldl_append]; rfl
theorem insT_sorts {t : List NodeV} (h : Sorts t) (n : NodeV) : Sorts (insT t n) := by
  unfold Sorts insT at *
  refine List.pairwise_append.2 ⟨List.Pairwise.filter _ h, List.pairwise_cons.2 ⟨fun y hy => ?_, List.Pairwise.filter _ h⟩, fun x hx y hy => ?_⟩
  · have := (List.mem_filter.1 hy).2
    have h2 : ¬ pcmp y.path n.path ≤ 0 := by simpa using this
    have := pcmp_neg y.path n.path
    omega
  · have h1 : pcmp x.path n.path ≤ 0 := by simpa using (List.mem_filter.1 hx).2
    rcases List.mem_cons.1 hy with rfl | hy
    · exact h1
    · have h2 : ¬ pcmp y.path n.path ≤ 0 := by simpa using (List.mem_filter.1 hy).2
      have h3 := pcmp_neg y.path n.path
      exact pcmp_trans _ n.path _ h1 (by omega)
theorem insT_of (t : List NodeV) (n : NodeV) (p : List UInt8) : ofP p (insT t n) = ofP p t ++ if n.path = p then [n] else [] := by
  unfold insT
  rw [ofP_app, ofP_cons]
  have h1 : ofP p (t.filter fun x => decide (pcmp x.path n.path ≤ 0)) = if pcmp p n.path ≤ 0 then ofP p t else [] := by
    unfold ofP
    rw [List.filter_filter]
    by_cases h : pcmp p n.path ≤ 0
    · rw [if_pos h]
      refine List.filter_congr fun x _ => ?_
      by_cases e : x.path = p
      · subst e; simp [h]
      · simp [e]
    · rw [if_neg h, List.filter_eq_nil_iff]
      intro x _ hx
      rw [Bool.and_eq_true, decide_eq_true_eq, decide_eq_true_eq] at hx
      rw [hx.1] at hx
      exact h hx.2
  have h2 : ofP p (t.filter fun x => !decide (pcmp x.path n.path ≤ 0)) = if pcmp p n.path ≤ 0 then [] else ofP p t := by
    unfold ofP
    rw [List.filter_filter]
    by_cases h : pcmp p n.path ≤ 0
    · rw [if_pos h, List.filter_eq_nil_iff]
      intro x _ hx
      rw [Bool.and_eq_true, decide_eq_true_eq] at hx
      rw [hx.1] at hx
      simp [h] at hx
    · rw [if_neg h]
      refine List.filter_congr fun x _ => ?_
      by_cases e : x.path = p
      · subst e; simp [h]
      · simp [e]
  rw [h1, h2]
  by_cases e : n.path = p
  · subst e
    rw [pcmp_self]; simp
  · by_cases h : pcmp p n.path ≤ 0 <;> simp [h, e]
theorem sortT_both (t : List NodeV) : Sorts (sortT t) ∧ ∀ p, ofP p (sortT t) = ofP p t := by
  have key : ∀ (r : List NodeV), Sorts (sortT r.reverse) ∧ ∀ p, ofP p (sortT r.reverse) = ofP p r.reverse := by
    intro r
    induction r with
    | nil => exact ⟨List.Pairwise.nil, fun _ => rfl⟩
    | cons x r ih =>
      rw [List.reverse_cons, sortT_snoc]
      refine ⟨insT_sorts ih.1 x, fun p => ?_⟩
      rw [insT_of, ih.2, ofP_app, ofP_cons, ofP_nil]
  have := key t.reverse
  rw [List.reverse_reverse] at this; exact this
theorem of_mem {a b : List NodeV} (h : ∀ p, ofP p a = ofP p b) {x : NodeV} (hx : x ∈ a) : x ∈ b := by
  have h1 : x ∈ ofP x.path a := by unfold ofP; rw [List.mem_filter]; exact ⟨hx, by simp⟩
  rw [h] at h1
  unfold ofP at h1
  exact (List.mem_filter.1 h1).1
/-- sorted lists in which each path has the same nodes in the same order are the same -/
theorem stable_ext {a b : List NodeV} (ha : Sorts a) (hb : Sorts b) (h : ∀ p, ofP p a = ofP p b) : a = b := by
  induction a generalizing b with
  | nil =>
    cases b with
    | nil => rfl
    | cons y b => exact absurd (of_mem (fun p => (h p).symm) (List.mem_cons_self (a := y) (l := b))) (by simp)
  | cons x a ih =>
    cases b with
    | nil => exact absurd (of_mem h (List.mem_cons_self (a := x) (l := a))) (by simp)
    | cons y b =>
      have ha' := List.pairwise_cons.1 ha
      have hb' := List.pairwise_cons.1 hb
      have hp : x.path = y.path := by
        have h1 : pcmp y.path x.path ≤ 0 := by
          rcases List.mem_cons.1 (of_mem h (List.mem_cons_self (a := x) (l := a))) with e | e
          · subst e; rw [pcmp_self]; exact Int.le_refl 0
          · exact hb'.1 x e
        have h2 : pcmp x.path y.path ≤ 0 := by
          rcases List.mem_cons.1 (of_mem (fun p => (h p).symm) (List.mem_cons_self (a := y) (l := b))) with e | e
          · subst e; rw [pcmp_self]; exact Int.le_refl 0
          · exact ha'.1 y e
        have h3 := pcmp_neg x.path y.path
        exact (pcmp_zero _ _).1 (by omega)
      have hx := h x.path
      rw [ofP_cons, if_pos rfl, ofP_cons, if_pos hp.symm] at hx
      obtain ⟨rfl, -⟩ := List.cons.inj hx
      rw [ih ha'.2 hb'.2 fun p => ?_]
      have hq := h p
      rw [ofP_cons, ofP_cons] at hq
      by_cases e : x.path = p
      · rw [if_pos e, if_pos e] at hq; exact (List.cons.inj hq).2
      · rw [if_neg e, if_neg e] at hq; exact hq
/-- whoever sorts nodes so sorts them as the document says -/
theorem sortT_only {a t : List NodeV} (ha : Sorts a) (h : ∀ p, ofP p a = ofP p t) : a = sortT t :=
  stable_ext ha (sortT_both t).1 fun p => (h p).trans ((sortT_both t).2 p).symm
/-- a tree's nodes in any order, sorted, are the tree -/
theorem sortT_tree {a t : List NodeV} (ht : Rises t) (hp : a.Perm t) : sortT a = t := by
  refine (sortT_only (List.Pairwise.imp (fun h => by omega) ht) fun p => ?_).symm
  have h1 : (ofP p a).Perm (ofP p t) := List.Perm.filter _ hp
  have h2 : (ofP p t).length ≤ 1 := by
    have h3 : (ofP p t).Pairwise fun x y => pcmp x.path y.path = -1 := List.Pairwise.filter _ ht
    have h4 : ∀ x ∈ ofP p t, x.path = p := fun x hx => by
      unfold ofP at hx; simpa using (List.mem_filter.1 hx).2
    match hq : ofP p t, h3, h4 with
    | [], _, _ => simp
    | [_], _, _ => simp
    | x :: y :: l, h3, h4 =>
      exfalso
      have := (List.pairwise_cons.1 h3).1 y (by simp)
      rw [h4 x (by simp), h4 y (by simp)] at this
      exact plt_irr _ this
  have h3 := h1.length_eq
  rcases hq : ofP p t with _ | ⟨x, _ | ⟨y, l⟩⟩
  · rw [hq] at h1; exact (List.perm_nil.1 h1).symm
  · rw [hq] at h1; exact (List.perm_singleton.1 h1).symm
  · rw [hq] at h2; simp at h2
theorem insT_len (t : List NodeV) (n : NodeV) : (insT t n).length = t.length + 1 := by
  have h := (List.filter_append_perm (fun x => decide (pcmp x.path n.path ≤ 0)) t).length_eq
  rw [List.length_append] at h
  unfold insT
  rw [List.length_append, List.length_cons]
  omega
theorem sortT_len (t : List NodeV) : (sortT t).length = t.length := by
  have key : ∀ r : List NodeV, (sortT r.reverse).length = r.length := by
    intro r
    induction r with
    | nil => rfl
    | cons x r ih => rw [List.reverse_cons, sortT_snoc, insT_len, ih, List.length_cons]
  have := key t.reverse
  rwa [List.reverse_reverse, List.length_reverse] at this
end Go.Proofs.Ytmgndhdikleagaa
