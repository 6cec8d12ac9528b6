/- tree.Put. -/
import Derived.Test.YtmgndhdikleagaaTrgH
import Derived.Deep.RegionHeld3
import Derived.Deep.DeepCutAuto
set_option linter.unusedVariables false
set_option maxRecDepth 100000
namespace Go.Proofs.Ytmgndhdikleagaa
open Go.RowKit
open Go.OpenShut
theorem elem_nodes : Try.prog.underlying 22 = some (.slice (Try.prog.elem 22)) := by kernel_rfl
theorem size_node : ∀ W, (sizeOf (Try.prog.elem 22)).run Try.prog W = .ok 12 W := by
  intro W
  have e : Try.prog.elem 22 = 31 := by kernel_rfl
  rw [e]; exact Try.sizeOf31 W
/-- where a slice of nodes lies that begins at k -/
def cutN (A : Option Addr) (c k : Nat) : Option Addr := if c = k then A else A.map (·.add (k * 12))
theorem cutN_zero (A : Option Addr) (c : Nat) : cutN A c 0 = A := by
  unfold cutN
  split
  · rfl
  · cases A with
    | none => rfl
    | some a => simp [Addr.add]
theorem nslice_to (W : World) (A : Option Addr) (n c k : Nat) (h : k ≤ c) : (Instr.slice 22 (.slice A n c) none (some (.int .i64 (k : Int))) none).run Try.prog W = .ok (.slice A k c) W := by
  rw [run_slice_h W 22 A n c elem_nodes .i64 (k : Int) (by omega) (by omega), size_node]
  have e := cutN_zero A c
  unfold cutN at e
  simp [Result.andThen, sliced] at e ⊢
  exact e
theorem nslice_from (W : World) (A : Option Addr) (n c k : Nat) (h : k ≤ n) : (Instr.slice 22 (.slice A n c) (some (.int .i64 (k : Int))) none none).run Try.prog W = .ok (.slice (cutN A c k) (n - k) (c - k)) W := by
  rw [run_slice_l W 22 A n c elem_nodes .i64 (k : Int) (by omega) (by omega), size_node]
  simp [Result.andThen, sliced, cutN]
theorem CellsN.take {w : World} {A : Option Addr} {ys : List NodP} (h : CellsN w A ys) (k : Nat) : CellsN w A (ys.take k) := fun ad ha j u hu => by
  refine h ad ha j u ?_
  have e : rowN ys = rowN (ys.take k) ++ rowN (ys.drop k) := by rw [← rowN_app, List.take_append_drop]
  rw [e, List.getElem?_append_left (List.getElem?_eq_some_iff.1 hu).1]; exact hu
theorem CellsN.drop {w : World} {A : Option Addr} {ys : List NodP} (h : CellsN w A ys) {c k : Nat} (hc : ys.length ≤ c) (hk : k ≤ ys.length) : CellsN w (cutN A c k) (ys.drop k) := fun ad ha j u hu => by
  have hj := (List.getElem?_eq_some_iff.1 hu).1
  rw [rowN_length, List.length_drop] at hj
  have hne : c ≠ k := by omega
  unfold cutN at ha
  rw [if_neg hne] at ha
  cases A with
  | none => cases ha
  | some a =>
    simp only [Option.map_some, Option.some.injEq] at ha
    subst ha
    rw [Go.Deep.add_add]
    refine h a rfl _ u ?_
    have e : rowN ys = rowN (ys.take k) ++ rowN (ys.drop k) := by rw [← rowN_app, List.take_append_drop]
    rw [e, List.getElem?_append_right (by rw [rowN_length, List.length_take]; omega), rowN_length, List.length_take, Nat.min_eq_left hk, Nat.add_sub_cancel_left]
    exact hu
theorem cutN_none {A : Option Addr} {c k : Nat} (h : cutN A c k = none) : A = none := by
  unfold cutN at h
  split at h
  · exact h
  · cases A with
    | none => rfl
    | some a => cases h
/-- the cells of one node at a block -/
theorem cells_one {w : World} {g : Nat} {y : NodP} (h : Blk w g 31 (nodV y.1 y.2).toArray) : CellsN w (some ⟨g, 0, none⟩) [y] := fun ad ha j u hu => by
  injection ha with ha
  subst ha
  rw [rowN_one] at hu
  rw [Addr.add_lit, Nat.zero_add, h.cell j, List.getElem?_toArray]; exact hu
end Go.Proofs.Ytmgndhdikleagaa
