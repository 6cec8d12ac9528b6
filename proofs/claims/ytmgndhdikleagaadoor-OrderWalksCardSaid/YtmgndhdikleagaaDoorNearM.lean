/- Plain mathematics of what is near a directory in the order of paths. -/
import Derived.Test.YtmgndhdikleagaaDoorPthM
set_option linter.unusedVariables false
namespace Go.Proofs.YtmgndhdikleagaaDoor
open Go.RowKit
theorem pcmp_in {d e : List UInt8} (h : inB e d = true) : pcmp d e < 0 := by
  by_cases hd : d = []
  · subst hd
    cases e with
    | nil => rw [inB_nil] at h; simp at h
    | cons y e => rw [pcmp_nil_cons]; decide
  · rw [inB_ne hd, decide_eq_true_eq] at h
    obtain ⟨t, rfl⟩ := h
    have e1 : pcmp (d ++ []) (d ++ (47 :: t)) = -1 := by rw [pcmp_app, pcmp_nil_cons]
    rw [List.append_nil] at e1
    rw [List.append_assoc, List.singleton_append, e1]; decide
theorem between_pre (d x t : List UInt8) (h1 : pcmp d x < 0) (h2 : pcmp x (d ++ 47 :: t) < 0) : d ++ [47] <+: x := by
  induction d generalizing x with
  | nil =>
    cases x with
    | nil => rw [pcmp_nil_nil] at h1; omega
    | cons y x =>
      rw [List.nil_append, pcmp_cons] at h2
      by_cases e : y = 47
      · subst e; exact ⟨x, rfl⟩
      · rw [if_neg e] at h2
        have hr := rk_lo y
        have h47 : rk 47 = -1 := rfl
        rcases sgn_cases (rk y) (rk 47) with ⟨_, a⟩ | ⟨a, _⟩ | ⟨a, _⟩ <;> omega
  | cons c d ih =>
    cases x with
    | nil => rw [pcmp_cons_nil] at h1; omega
    | cons y x =>
      rw [List.cons_append] at h2 ⊢
      rw [pcmp_cons] at h1 h2
      by_cases e : c = y
      · subst e
        rw [if_pos rfl] at h1 h2
        obtain ⟨u, hu⟩ := ih x h1 h2
        exact ⟨u, by rw [List.cons_append, List.append_assoc] at *; simp [← hu]⟩
      · rw [if_neg e] at h1
        rw [if_neg (fun a => e a.symm)] at h2
        rcases sgn_cases (rk c) (rk y) with ⟨_, a⟩ | ⟨a, _⟩ | ⟨a, _⟩ <;> rcases sgn_cases (rk y) (rk c) with ⟨_, b⟩ | ⟨b, _⟩ | ⟨b, _⟩ <;> omega
theorem between {d x e : List UInt8} (h : inB e d = true) (h1 : pcmp d x < 0) (h2 : pcmp x e < 0) : inB x d = true := by
  by_cases hd : d = []
  · subst hd
    cases x with
    | nil => rw [pcmp_nil_nil] at h1; omega
    | cons y x => rw [inB_nil]; simp
  · rw [inB_ne hd, decide_eq_true_eq] at h ⊢
    obtain ⟨t, rfl⟩ := h
    rw [List.append_assoc, List.singleton_append] at h2
    exact between_pre d x t h1 h2
end Go.Proofs.YtmgndhdikleagaaDoor
