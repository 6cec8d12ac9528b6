/- What a path is in, among the nodes kept of a prefix of a tree: mathematics of package filter. -/
import Derived.Test.YtilmfnlhpnbngaaGreatDoorFltB
set_option linter.unusedVariables false
set_option maxRecDepth 100000
namespace Go.Proofs.YtilmfnlhpnbngaaGreatDoor
open Go.RowKit
open Go.OpenShut
/-- what a path is in is among those kept just where all that it is in are taken -/
theorem kept_up {l : List NodeV} (hs : Sound l) (qs : List RuleV) (k : Nat) (hk : k < l.length) (hne : upL l[k].path ≠ []) (m : Nat) (hm : ((l.take k).filter fun x => allF qs x.path).length = m) :
    decide (findL ((l.take k).filter fun x => allF qs x.path) (upL l[k].path) < m) = allF qs (upL l[k].path) := by
  subst hm
  have hall : ∀ x ∈ ((l.take k).filter fun x => allF qs x.path), allF qs x.path = true := fun x hx => (List.mem_filter.1 hx).2
  have hmem : ∀ x ∈ l.take k, allF qs x.path = true → x ∈ ((l.take k).filter fun x => allF qs x.path) := fun x hx h => List.mem_filter.2 ⟨hx, h⟩
  generalize ((l.take k).filter fun x => allF qs x.path) = T at hall hmem ⊢
  by_cases hf : findL T (upL l[k].path) < T.length
  · rw [decide_eq_true hf]
    have h1 := findL_at _ _ hf
    have h4 := hall _ (List.getElem_mem hf)
    rw [h1] at h4
    exact h4.symm
  · rw [decide_eq_false hf]
    have hE : findL T (upL l[k].path) = T.length := by have := findL_le T (upL l[k].path); omega
    have hno := findL_none.1 hE
    cases ha : allF qs (upL l[k].path) with
    | false => rfl
    | true =>
      exfalso
      rcases hs.up _ (List.getElem_mem hk) with h | ⟨d, hd, hp, -⟩
      · exact hne h
      · have hd2 := rises_ahead hs.rises k hk d hd (by rw [hp]; exact up_before hne)
        exact hno d (hmem d hd2 (by rw [hp]; exact ha)) hp
end Go.Proofs.YtilmfnlhpnbngaaGreatDoor
