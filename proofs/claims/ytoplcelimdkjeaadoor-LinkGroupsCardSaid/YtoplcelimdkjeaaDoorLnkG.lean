/- The laws of hard links over drawn trees: LinkGroups, LinkCounts, LinkAnew. -/
import Derived.Test.YtoplcelimdkjeaaDoorLnkK
set_option linter.unusedVariables false
set_option maxRecDepth 100000
namespace Go.Proofs.YtoplcelimdkjeaaDoor
open Go.RowKit
open Go.OpenShut
theorem own_sel' {w : World} {B : Nat} {v : Value} {xs : List NodP} {l : List NodeV} (h : OwnN w B v xs) (hm : xs.map (·.1) = l) : ∃ A c, v = .slice A l.length c ∧ SlOk A l.length c ∧ NodesAt w A l := by
  obtain ⟨A, c, e, h1, h2⟩ := h.at
  have hl : xs.length = l.length := by rw [← hm, List.length_map]
  rw [hm] at h2
  rw [hl] at e h1
  exact ⟨A, c, e, h1, h2⟩
theorem sm_tree3 : treeE [smA, smB, smC] = 0 := by decide +kernel
theorem sm_sz3 : ∀ x ∈ [smA, smB, smC], x.sz := fun x hx => nodE_sz (((treeE_zero _).1 sm_tree3).2.node x hx)
theorem sm_fs : fsL [smA, smB, smC] = [0, 1, 2] := by decide +kernel
theorem sm_nm : nmL [smA, smB, smC] = [1, 1, 1] := by decide +kernel
theorem three_ints (W : World) (a b c : Int) : NumsAt (W.alloc (.cells #[.int .i64 a, .int .i64 b, .int .i64 c] 3)) (some ⟨W.heap.size, 0, none⟩) [a, b, c] := fun j hj => by
  have hb := Blk.new W 3 #[.int .i64 a, .int .i64 b, .int .i64 c]
  match j, hj with
  | 0, _ => exact ⟨_, 0, rfl, hb.cell 0⟩
  | 1, _ => exact ⟨_, 0, rfl, hb.cell 1⟩
  | 2, _ => exact ⟨_, 0, rfl, hb.cell 2⟩
end Go.Proofs.YtoplcelimdkjeaaDoor
