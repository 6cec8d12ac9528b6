/- Texts of one kind, in one file: TrgG, TrgH, TrgI, TrgK, TrgL. -/
import Derived.Test.YtoikpnjnljdpaaaGreatDoorTrgD
import Derived.Test.YtoikpnjnljdpaaaGreatDoorTra
import Derived.Deep.DeepCutAuto
import Derived.Lib.AppendZeros
import Derived.Deep.RegionHeld3
import Derived.Lib.SliceRun
import Derived.Deep.Upon
/- The place of a path, by halving. -/
set_option linter.unusedVariables false
set_option maxRecDepth 100000
namespace Go.Proofs.YtoikpnjnljdpaaaGreatDoor
open Go.RowKit
open Go.OpenShut
end Go.Proofs.YtoikpnjnljdpaaaGreatDoor
/- tree.Put: its parts joined. -/
set_option linter.unusedVariables false
set_option maxRecDepth 100000
namespace Go.Proofs.YtoikpnjnljdpaaaGreatDoor
open Go.RowKit
open Go.OpenShut
end Go.Proofs.YtoikpnjnljdpaaaGreatDoor
/- tree.Put. -/
set_option linter.unusedVariables false
set_option maxRecDepth 100000
namespace Go.Proofs.YtoikpnjnljdpaaaGreatDoor
open Go.RowKit
open Go.OpenShut
theorem elem_nodes : Tryz.prog.underlying 22 = some (.slice (Tryz.prog.elem 22)) := by kernel_rfl
theorem size_node : ∀ W, (sizeOf (Tryz.prog.elem 22)).run Tryz.prog W = .ok 12 W := by
  intro W
  have e : Tryz.prog.elem 22 = 51 := by kernel_rfl
  rw [e]; exact Tryz.sizeOf51 W
/-- where a slice of nodes lies that begins at k -/
def cutN (A : Option Addr) (c k : Nat) : Option Addr := if c = k then A else A.map (·.add (k * 12))
theorem cutN_zero (A : Option Addr) (c : Nat) : cutN A c 0 = A := by
  unfold cutN
  split
  · rfl
  · cases A with
    | none => rfl
    | some a => simp [Addr.add]
theorem nslice_to (W : World) (A : Option Addr) (n c k : Nat) (h : k ≤ c) : (Instr.slice 22 (.slice A n c) none (some (.int .i64 (k : Int))) none).run Tryz.prog W = .ok (.slice A k c) W := by
  rw [run_slice_h W 22 A n c elem_nodes .i64 (k : Int) (by omega) (by omega), size_node]
  have e := cutN_zero A c
  unfold cutN at e
  simp [Result.andThen, sliced] at e ⊢
  exact e
theorem nslice_from (W : World) (A : Option Addr) (n c k : Nat) (h : k ≤ n) : (Instr.slice 22 (.slice A n c) (some (.int .i64 (k : Int))) none none).run Tryz.prog W = .ok (.slice (cutN A c k) (n - k) (c - k)) W := by
  rw [run_slice_l W 22 A n c elem_nodes .i64 (k : Int) (by omega) (by omega), size_node]
  simp [Result.andThen, sliced, cutN]
theorem CellsN.take {w : World} {A : Option Addr} {ys : List NodP} (h : CellsN w A ys) (k : Nat) : CellsN w A (ys.take k) := fun ad ha j u hu => by
  refine h ad ha j u ?_
  have e : rowN ys = rowN (ys.take k) ++ rowN (ys.drop k) := by rw [← rowN_app, List.take_append_drop]
  rw [e, List.getElem?_append_left (List.getElem?_eq_some_iff.1 hu).1]; exact hu
theorem CellsN.drop {w : World} {A : Option Addr} {ys : List NodP} (h : CellsN w A ys) {c k : Nat} (hc : ys.length ≤ c) (hk : k ≤ ys.length) : CellsN w (cutN A c k) (ys.drop k) := fun ad ha j u hu => by
  have hj := (List.getElem?_eq_some_iff.1 hu).1
  rw [rowN_length, List.length_drop] at hj
  have hne : c ≠ k := by omega
  unfold cutN at ha
  rw [if_neg hne] at ha
  cases A with
  | none => cases ha
  | some a =>
    simp only [Option.map_some, Option.some.injEq] at ha
    subst ha
    rw [Go.Deep.add_add]
    refine h a rfl _ u ?_
    have e : rowN ys = rowN (ys.take k) ++ rowN (ys.drop k) := by rw [← rowN_app, List.take_append_drop]
    rw [e, List.getElem?_append_right (by rw [rowN_length, List.length_take]; omega), rowN_length, List.length_take, Nat.min_eq_left hk, Nat.add_sub_cancel_left]
    exact hu
theorem cutN_none {A : Option Addr} {c k : Nat} (h : cutN A c k = none) : A = none := by
  unfold cutN at h
  split at h
  · exact h
  · cases A with
    | none => rfl
    | some a => cases h
/-- the cells of one node at a block -/
theorem cells_one {w : World} {g : Nat} {y : NodP} (h : Blk w g 51 (nodV y.1 y.2).toArray) : CellsN w (some ⟨g, 0, none⟩) [y] := fun ad ha j u hu => by
  injection ha with ha
  subst ha
  rw [rowN_one] at hu
  rw [Addr.add_lit, Nat.zero_add, h.cell j, List.getElem?_toArray]; exact hu
end Go.Proofs.YtoikpnjnljdpaaaGreatDoor
/- slices.DeleteFunc at rows of nodes of the call's own. -/
set_option linter.unusedVariables false
set_option maxRecDepth 100000
namespace Go.Proofs.YtoikpnjnljdpaaaGreatDoor
open Go.RowKit
open Go.OpenShut
/-! ### patches of lists -/
def patch : List Value → Nat → List Value → List Value
  | xs, _, [] => xs
  | xs, o, v :: vs => patch (xs.set o v) (o + 1) vs
theorem patch_length (vs : List Value) : ∀ xs o, (patch xs o vs).length = xs.length := by
  induction vs with
  | nil => intro xs o; rfl
  | cons v vs ih => intro xs o; rw [patch, ih, List.length_set]
theorem patch_out (vs : List Value) : ∀ xs o j, (j < o ∨ o + vs.length ≤ j) → (patch xs o vs)[j]? = xs[j]? := by
  induction vs with
  | nil => intro xs o j _; rfl
  | cons v vs ih =>
    intro xs o j h
    rw [List.length_cons] at h
    rw [patch, ih _ _ _ (by omega), List.getElem?_set_ne (by omega)]
theorem patch_in (vs : List Value) : ∀ xs o j, j < vs.length → o + vs.length ≤ xs.length → (patch xs o vs)[o + j]? = vs[j]? := by
  induction vs with
  | nil => intro xs o j h; simp at h
  | cons v vs ih =>
    intro xs o j h hl
    rw [List.length_cons] at h hl
    rw [patch]
    cases j with
    | zero => rw [patch_out _ _ _ _ (by omega), Nat.add_zero, List.getElem?_set_self (by omega)]; simp
    | succ j =>
      rw [show o + (j + 1) = o + 1 + j by omega, ih _ _ _ (by omega) (by rw [List.length_set]; omega)]; simp
theorem patch_rowN (xs : List NodP) (i : Nat) (hi : i < xs.length) (y : NodP) : patch (rowN xs) (i * 12) (nodV y.1 y.2) = rowN (xs.set i y) := by
  apply List.ext_getElem?
  intro j
  by_cases hj : j < xs.length * 12
  · have e : j = j / 12 * 12 + j % 12 := by omega
    have hq : j / 12 < xs.length := by omega
    have hr : j % 12 < 12 := by omega
    have h1 := rowN_get (xs.set i y) (j / 12) (j % 12) (by rw [List.length_set]; exact hq) hr
    have h2 := rowN_get xs (j / 12) (j % 12) hq hr
    rw [← e] at h1 h2
    rw [h1]
    by_cases hij : i = j / 12
    · subst hij
      simp only [List.getElem_set_self]
      have := patch_in (nodV y.1 y.2) (rowN xs) (j / 12 * 12) (j % 12) (by rw [nodV_length]; omega) (by rw [rowN_length, nodV_length]; omega)
      rwa [← e] at this
    · rw [patch_out _ _ _ _ (by rw [nodV_length]; omega), h2]
      simp only [List.getElem_set_ne hij]
  · rw [List.getElem?_eq_none (by rw [patch_length, rowN_length]; omega), List.getElem?_eq_none (by rw [rowN_length, List.length_set]; omega)]
theorem own_patch {e size g cap n B : Nat} (vs : List Value) : ∀ (w : World) (xs : List Value) (o : Nat), w.ownsRow B e size (.slice (some ⟨g, 0, none⟩) n cap) n xs → (w.setCells g o vs).ownsRow B e size (.slice (some ⟨g, 0, none⟩) n cap) n (patch xs o vs) := by
  induction vs with
  | nil => intro w xs o h; exact h
  | cons v vs ih => intro w xs o h; exact ih _ _ _ (World.ownsRow.stored h o v).1
theorem patch_far (vs : List Value) : ∀ xs o, xs.length ≤ o → patch xs o vs = xs := by
  induction vs with
  | nil => intro xs o _; rfl
  | cons v vs ih => intro xs o h; rw [patch, List.set_eq_of_length_le h]; exact ih _ _ (by omega)
theorem RowN.setNode {w : World} {B g cap n : Nat} {xs : List NodP} (h : RowN w B (.slice (some ⟨g, 0, none⟩) n cap) xs) (hn : xs.length = n) (i : Nat) (hi : i < xs.length) (y : NodP) : RowN (w.setCells g (i * 12) (nodV y.1 y.2)) B (.slice (some ⟨g, 0, none⟩) n cap) (xs.set i y) := by
  subst hn
  unfold RowN at h ⊢
  rw [List.length_set, ← patch_rowN xs i hi y]
  exact own_patch _ _ _ _ h
theorem RowN.setFar {w : World} {B g cap n : Nat} {xs : List NodP} (h : RowN w B (.slice (some ⟨g, 0, none⟩) n cap) xs) (hn : xs.length = n) (o : Nat) (ho : n * 12 ≤ o) (vs : List Value) : RowN (w.setCells g o vs) B (.slice (some ⟨g, 0, none⟩) n cap) xs := by
  subst hn
  unfold RowN at h ⊢
  have h1 := own_patch vs w _ o h
  rwa [patch_far _ _ _ (by rw [rowN_length]; exact ho)] at h1
theorem RowN.short {w : World} {B g cap n : Nat} {xs : List NodP} (h : RowN w B (.slice (some ⟨g, 0, none⟩) n cap) xs) (hn : xs.length = n) (i : Nat) (hi : i ≤ n) : RowN w B (.slice (some ⟨g, 0, none⟩) i cap) (xs.take i) := by
  subst hn
  unfold RowN World.ownsRow at h ⊢
  have hl : (xs.take i).length = i := by rw [List.length_take]; omega
  refine ⟨by rw [rowN_length], .inr ?_⟩
  rcases h.2 with ⟨e, -⟩ | ⟨g', cap', cur, e, hB, hg, hcap, hm, hs, ht⟩
  · cases e
  · injection e with e1 e2 e3
    injection e1 with e1
    injection e1 with e1
    subst e1 e3
    refine ⟨g, cap, cur, by rw [hl], hB, hg, by omega, hm, hs, ?_⟩
    have h1 : rowN xs = rowN (xs.take i) ++ rowN (xs.drop i) := by rw [← rowN_app, List.take_append_drop]
    have h2 : (cur.toList.take (xs.length * 12)).take (i * 12) = rowN (xs.take i) := by
      rw [ht, h1, List.take_left' (by rw [rowN_length, hl])]
    rw [List.take_take, Nat.min_eq_left (by omega)] at h2
    rw [hl]; exact h2
theorem OwnB.setAway {w : World} {B B' g cap n : Nat} {v : Value} {l : List UInt8} {xs : List NodP} (h : OwnB w B v l) (h' : RowN w B' (.slice (some ⟨g, 0, none⟩) n cap) xs) (o : Nat) (vs : List Value) : OwnB (w.setCells g o vs) B v l :=
  own_heap h fun g' e => World.heap_setCells_other w g o vs (World.ownsRow.lt h g' e).2 fun e2 => own_apart h h' g' e (by subst e2; rfl)
theorem Below.setMany {B g : Nat} {a : World} (hg : B ≤ g) (vs : List Value) : ∀ (w : World) (o : Nat), Below B a w → Below B a (w.setCells g o vs) := by
  induction vs with
  | nil => intro w o h; exact h
  | cons v vs ih => intro w o h; exact ih _ _ (Below.set1 h hg o v)
theorem RowN.cells12 {w : World} {B g cap n : Nat} {xs : List NodP} (h : RowN w B (.slice (some ⟨g, 0, none⟩) n cap) xs) (hn : xs.length = n) (i : Nat) (hi : i < xs.length) :
    (w.cell? ⟨g, i * 12, none⟩ = some (.string (bs xs[i].1.path)) ∧ w.cell? ⟨g, i * 12 + 1, none⟩ = some (.int .i64 xs[i].1.kind) ∧ w.cell? ⟨g, i * 12 + 2, none⟩ = some (.int .i64 xs[i].1.same) ∧ w.cell? ⟨g, i * 12 + 3, none⟩ = some (.string (bs xs[i].1.target)) ∧
      w.cell? ⟨g, i * 12 + 4, none⟩ = some (.int .i64 xs[i].1.md.mode) ∧ w.cell? ⟨g, i * 12 + 5, none⟩ = some (.int .i64 xs[i].1.md.uid) ∧ w.cell? ⟨g, i * 12 + 6, none⟩ = some (.int .i64 xs[i].1.md.gid) ∧ w.cell? ⟨g, i * 12 + 7, none⟩ = some (.string (bs xs[i].1.md.user)) ∧ w.cell? ⟨g, i * 12 + 8, none⟩ = some (.string (bs xs[i].1.md.group)) ∧ w.cell? ⟨g, i * 12 + 9, none⟩ = some (.int .i64 xs[i].1.md.second) ∧ w.cell? ⟨g, i * 12 + 10, none⟩ = some (.int .i64 xs[i].1.md.nano) ∧ w.cell? ⟨g, i * 12 + 11, none⟩ = some xs[i].2) ∧
    (w.frozen? ⟨g, i * 12, none⟩ = false ∧ w.frozen? ⟨g, i * 12 + 1, none⟩ = false ∧ w.frozen? ⟨g, i * 12 + 2, none⟩ = false ∧ w.frozen? ⟨g, i * 12 + 3, none⟩ = false ∧ w.frozen? ⟨g, i * 12 + 4, none⟩ = false ∧ w.frozen? ⟨g, i * 12 + 5, none⟩ = false ∧ w.frozen? ⟨g, i * 12 + 6, none⟩ = false ∧ w.frozen? ⟨g, i * 12 + 7, none⟩ = false ∧ w.frozen? ⟨g, i * 12 + 8, none⟩ = false ∧ w.frozen? ⟨g, i * 12 + 9, none⟩ = false ∧ w.frozen? ⟨g, i * 12 + 10, none⟩ = false ∧ w.frozen? ⟨g, i * 12 + 11, none⟩ = false) := by
  subst hn
  unfold RowN at h
  have hc : ∀ q, q < 12 → w.cell? ⟨g, i * 12 + q, none⟩ = (nodV xs[i].1 xs[i].2)[q]? := fun q hq => by rw [World.ownsRow.cellAt h (i * 12 + q) (by omega), rowN_get xs i q hi hq]
  have hf : ∀ q, w.frozen? ⟨g, i * 12 + q, none⟩ = false := fun q => World.ownsRow.frozenAt h _
  exact ⟨⟨hc 0 (by omega), hc 1 (by omega), hc 2 (by omega), hc 3 (by omega), hc 4 (by omega), hc 5 (by omega), hc 6 (by omega), hc 7 (by omega), hc 8 (by omega), hc 9 (by omega), hc 10 (by omega), hc 11 (by omega)⟩, hf 0, hf 1, hf 2, hf 3, hf 4, hf 5, hf 6, hf 7, hf 8, hf 9, hf 10, hf 11⟩
theorem zeroCells_one (n : Nat) : ∀ u ∈ (Builtin.zeroCells zeroN n).toList, u.oneCell' = true := by
  intro u hu
  have hz : ∀ k (hk : k < zeroN.size), zeroN[k].oneCell' = true := by
    intro k hk
    have : k < 12 := hk
    match k, this with
    | 0, _ => rfl
    | 1, _ => rfl
    | 2, _ => rfl
    | 3, _ => rfl
    | 4, _ => rfl
    | 5, _ => rfl
    | 6, _ => rfl
    | 7, _ => rfl
    | 8, _ => rfl
    | 9, _ => rfl
    | 10, _ => rfl
    | 11, _ => rfl
  unfold Builtin.zeroCells at hu
  rw [Array.toList_map, List.mem_map] at hu
  obtain ⟨j, -, rfl⟩ := hu
  have hk : j % zeroN.size < zeroN.size := Nat.mod_lt _ (by decide)
  rw [getElem!_pos zeroN _ hk]
  exact hz _ hk
theorem run_clear_nodes (w : World) (ty : TypeId) (b o n c : Nat) (hn : 0 < n) (hc : ∀ j, j < n * 12 → (w.cell? ⟨b, o + j, none⟩).isSome = true) (hf : ∀ j, j < n * 12 → w.frozen? ⟨b, o + j, none⟩ = false) :
    (Builtin.clear_ #[22] ty #[.slice (some ⟨b, o, none⟩) n c]).run Tryz.prog w = .ok (.tuple #[]) (w.setCells b o (Builtin.zeroCells zeroN n).toList) := by
  have hz : (zeroValue 51).run Tryz.prog w = .ok (.agg zeroN) w := by kernel_rfl
  have hl : (Builtin.zeroCells zeroN n).toList.length = n * 12 := by rw [Array.length_toList, size_zeroCells]; rfl
  have hst := run_storeCells_cells (P := Tryz.prog) b o (Builtin.zeroCells zeroN n).toList 0 w (by intro j hj; rw [hl] at hj; exact hc j hj) (by intro j hj; rw [hl] at hj; exact hf j hj) (zeroCells_one n)
  simp only [Nat.add_zero] at hst
  obtain ⟨m, rfl⟩ : ∃ m, n = m + 1 := ⟨n - 1, by omega⟩
  have ht := Tryz.underlying22
  simp [Builtin.clear_, run_underlying ht, hz, hst, Value.cells]
end Go.Proofs.YtoikpnjnljdpaaaGreatDoor
/- slices.DeleteFunc; tree.Remove. -/
set_option linter.unusedVariables false
set_option maxRecDepth 100000
namespace Go.Proofs.YtoikpnjnljdpaaaGreatDoor
open Go.RowKit
open Go.OpenShut
end Go.Proofs.YtoikpnjnljdpaaaGreatDoor
