/- The reference's hard links: LinkFirsts, LinkNames. -/
import Derived.Test.YtoplcelimdkjeaaGreatDoorMth
import Derived.Test.YtoplcelimdkjeaaGreatDoorNms
import Derived.Test.YtoplcelimdkjeaaGreatDoorNodH
import Derived.Test.YtoplcelimdkjeaaGreatDoorTrgF
set_option linter.unusedVariables false
set_option maxRecDepth 100000
namespace Go.Proofs.YtoplcelimdkjeaaGreatDoor
open Go.RowKit
open Go.OpenShut
/-- the first of each, the count of each -/
def fsL (l : List NodeV) : List Int := (List.range l.length).map fun i => ((firstF l i : Nat) : Int)
def nmL (l : List NodeV) : List Int := (List.range l.length).map fun i => ((namesF l i : Nat) : Int)
theorem fsL_len (l : List NodeV) : (fsL l).length = l.length := by unfold fsL; rw [List.length_map, List.length_range]
theorem nmL_len (l : List NodeV) : (nmL l).length = l.length := by unfold nmL; rw [List.length_map, List.length_range]
theorem range_snoc (f : Nat → Int) (k : Nat) : (List.range (k + 1)).map f = (List.range k).map f ++ [f k] := by rw [List.range_succ, List.map_append]; rfl
theorem range_mlen (f : Nat → Int) (k : Nat) : ((List.range k).map f).length = k := by rw [List.length_map, List.length_range]
/-- of the nodes i and k, what tells of hard links -/
theorem NodesAt.same2 {w : World} {A : Option Addr} {l : List NodeV} (h : NodesAt w A l) (i k : Nat) (hi : i < l.length) (hk : k < l.length) : ∃ b o, A = some ⟨b, o, none⟩ ∧ w.cell? ⟨b, o + i * 12 + 2, none⟩ = some (.int .i64 (sameAt l i)) ∧ w.cell? ⟨b, o + k * 12 + 2, none⟩ = some (.int .i64 (sameAt l k)) := by
  obtain ⟨b, o, D, c, e, h1, h2, h3, h4⟩ := h.cells2 i hi
  obtain ⟨b', o', D', c', e', h1', h2', h3', h4'⟩ := h.cells2 k hk
  subst e
  injection e' with e'
  injection e' with e1 e2
  subst e1 e2
  refine ⟨b, o, rfl, ?_, ?_⟩
  · rw [sameAt_at hi]; exact (h4 w (Below.refl _ _)).2.2.1
  · rw [sameAt_at hk]; exact (h4' w (Below.refl _ _)).2.2.1
theorem eqF_no {l : List NodeV} {k i : Nat} (h : sameAt l i = 0 ∨ sameAt l k ≠ sameAt l i) : eqF l k i = false := by
  unfold eqF
  exact decide_eq_false fun ⟨a, b⟩ => by rcases h with h | h; exact a h; exact h b
theorem eqF_yes {l : List NodeV} {k i : Nat} (h0 : sameAt l i ≠ 0) (h1 : sameAt l k = sameAt l i) : eqF l k i = true := decide_eq_true ⟨h0, h1⟩
theorem sound_path' {l : List NodeV} (h : treeE l = 0) : l.length ≤ 40 := ((treeE_zero l).1 h).1
end Go.Proofs.YtoplcelimdkjeaaGreatDoor
