/- Texts of one kind, in one file: HedR, HedT. -/
import Derived.Test.YtmejnabngfpbeaaGreatDoorHdb
import Derived.Test.YtmejnabngfpbeaaGreatDoorFld
import Derived.Test.YtmejnabngfpbeaaGreatDoorOct
import Derived.StillTailTactics
import Derived.Deep.DeepCutAuto
import Derived.Lib.ConvBytes
set_option linter.unusedVariables false
set_option maxRecDepth 100000
namespace Go.Proofs.YtmejnabngfpbeaaGreatDoor
open Go.RowKit
open Go.OpenShut
def Rt (g : Nat) (h : HeadV) (u : World) (er : Int) (l : List UInt8) (n : Nat) (w : World) : Prop :=
 w.heap[g]? = some (.cells (headC h) 74 (0, 0)) ∧ w.heap[g + 1]? = some (.cells #[.int .i64 er] 24 (0, 0)) ∧ w.heap[g + 1 + 1]? = some (.cells #[.string (bs l)] 9 (0, 0)) ∧ Below g u w ∧ l.length ≤ 512 * n
theorem Rt.err {g : Nat} {h : HeadV} {u : World} {er : Int} {l : List UInt8} {n : Nat} {w : World} (H : Rt g h u er l n w) (e2 : Int) : Rt g h u e2 l n (w.setCell ⟨g + 1, 0, none⟩ (.int .i64 e2)) := by
 obtain ⟨h0, h1, h2, hb, hl⟩ := H
 refine ⟨?_, ?_, ?_, hb.setCell (p := ⟨g + 1, 0, none⟩) (by show g ≤ g + 1; omega) _, hl⟩
 ·rw [Below.heap_setCell _ _ _ _ (by show g ≠ g + 1; omega)]; exact h0
 ·simp [World.setCell, Array.getElem?_modify, h1]
 ·rw [Below.heap_setCell _ _ _ _ (by show g + 1 + 1 ≠ g + 1; omega)]; exact h2
theorem Rt.text {g : Nat} {h : HeadV} {u : World} {er : Int} {l : List UInt8} {n : Nat} {w : World} (H : Rt g h u er l n w) (l2 : List UInt8) (hl2 : l2.length ≤ 512) : Rt g h u er (l ++ l2) (n + 1) (w.setCell ⟨g + 1 + 1, 0, none⟩ (.string (bs (l ++ l2)))) := by
 obtain ⟨h0, h1, h2, hb, hl⟩ := H
 refine ⟨?_, ?_, ?_, hb.setCell (p := ⟨g + 1 + 1, 0, none⟩) (by show g ≤ g + 1 + 1; omega) _, by rw [List.length_append]; omega⟩
 ·rw [Below.heap_setCell _ _ _ _ (by show g ≠ g + 1 + 1; omega)]; exact h0
 ·rw [Below.heap_setCell _ _ _ _ (by show g + 1 ≠ g + 1 + 1; omega)]; exact h1
 ·simp [World.setCell, Array.getElem?_modify, h2]
theorem Rt.drew {g : Nat} {h : HeadV} {u : World} {er : Int} {l : List UInt8} {n : Nat} {w : World} (H : Rt g h u er l n w) : Rt g h u er l n w.drew := ⟨H.1, H.2.1, H.2.2.1, H.2.2.2.1.drew, H.2.2.2.2⟩
theorem Rt.alloc {g : Nat} {h : HeadV} {u : World} {er : Int} {l : List UInt8} {n : Nat} {w : World} (H : Rt g h u er l n w) (o : Obj) : Rt g h u er l n (w.alloc o) := by
 have hlt : ∀ {k x}, w.heap[k]? = some x → k < w.heap.size := fun {k x} e => by
  rcases Nat.lt_or_ge k w.heap.size with h' | h'
  ·exact h'
  ·rw [Array.getElem?_eq_none h'] at e; cases e
 obtain ⟨h0, h1, h2, hb, hl⟩ := H
 exact ⟨(Lib.alloc_old w _ _ (hlt h0)).trans h0, (Lib.alloc_old w _ _ (hlt h1)).trans h1, (Lib.alloc_old w _ _ (hlt h2)).trans h2, hb.alloc (Nat.le_of_lt (hlt h0)) _, hl⟩
theorem Rt.lt {g : Nat} {h : HeadV} {u : World} {er : Int} {l : List UInt8} {n : Nat} {w : World} (H : Rt g h u er l n w) : g + 1 + 1 < w.heap.size := by
 rcases Nat.lt_or_ge (g + 1 + 1) w.heap.size with h' | h'
 ·exact h'
 ·have := H.2.2.1; rw [Array.getElem?_eq_none h'] at this; cases this
theorem Rt.cell {g : Nat} {h : HeadV} {u : World} {er : Int} {l : List UInt8} {n : Nat} {w : World} (H : Rt g h u er l n w) (i : Nat) (v : Value) (hv : (headC h)[i]? = some v) : w.cell? ⟨g, i, none⟩ = some v := by
 rw [Lib.cell_of_heap H.1]; exact hv
theorem Rt.open {g : Nat} {h : HeadV} {u : World} {er : Int} {l : List UInt8} {n : Nat} {w : World} (H : Rt g h u er l n w) : ∃ er' l' n', er' = er ∧ l' = l ∧ n' = n ∧ Rt g h u er' l' n' w := ⟨_, _, _, rfl, rfl, rfl, H⟩
theorem Rt.sz {g : Nat} {h : HeadV} {u : World} {er : Int} {l : List UInt8} {n : Nat} {w : World} (H : Rt g h u er l n w) (hn : n ≤ 100) : (bs l).size ≤ 60000 := by rw [bs_size]; have := H.2.2.2.2; omega
end Go.Proofs.YtmejnabngfpbeaaGreatDoor
