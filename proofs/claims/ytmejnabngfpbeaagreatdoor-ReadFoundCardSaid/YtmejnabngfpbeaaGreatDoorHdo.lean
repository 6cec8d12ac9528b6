/- Texts of one kind, in one file: HedO, HedZ. -/
import Derived.Test.YtmejnabngfpbeaaGreatDoorHdp
import Derived.Test.YtmejnabngfpbeaaGreatDoorHdt
import Derived.Test.YtmejnabngfpbeaaGreatDoorFld
import Derived.Test.YtmejnabngfpbeaaGreatDoorOct
import Derived.Deep.DeepCutAuto
import Derived.Laws.EntriesVeiled
set_option linter.unusedVariables false
set_option maxRecDepth 100000
namespace Go.Proofs.YtmejnabngfpbeaaGreatDoor
open Go.RowKit
open Go.OpenShut
def Ro (a : Nat) (s : ByteArray) (er : Int) (hv : HeadV) (u w : World) : Prop :=
 w.heap[a]? = some (.cells #[.string s] 9 (0, 0)) ∧ w.heap[a + 1]? = some (.cells (headC headZ) 74 (0, 0)) ∧ w.heap[a + 1 + 1]? = some (.cells #[.int .i64 er] 24 (0, 0)) ∧
 w.heap[a + 1 + 1 + 1]? = some (.cells #[.func (.func 155) #[] #[.pointer (some ⟨a + 1 + 1, 0, none⟩)]] 181 (0, 0)) ∧ w.heap[a + 1 + 1 + 1 + 1]? = some (.cells (headC hv) 74 (0, 0)) ∧ Below a u w
theorem Ro.below {a : Nat} {s : ByteArray} {er : Int} {hv : HeadV} {u w w' : World} (H : Ro a s er hv u w) (hb : Below w.heap.size w w') : Ro a s er hv u w' := by
 obtain ⟨h0, h1, h2, h3, h4, h5⟩ := H
 exact ⟨(hb.block _ (rd_lt h0)).trans h0, (hb.block _ (rd_lt h1)).trans h1, (hb.block _ (rd_lt h2)).trans h2, (hb.block _ (rd_lt h3)).trans h3, (hb.block _ (rd_lt h4)).trans h4, h5.trans (hb.mono (Nat.le_of_lt (rd_lt h0)))⟩
theorem Ro.err {a : Nat} {s : ByteArray} {er : Int} {hv : HeadV} {u w : World} (H : Ro a s er hv u w) (e2 : Int) : Ro a s e2 hv u (w.setCell ⟨a + 1 + 1, 0, none⟩ (.int .i64 e2)) := by
 obtain ⟨h0, h1, h2, h3, h4, h5⟩ := H
 refine ⟨?_, ?_, ?_, ?_, ?_, h5.setCell (p := ⟨a + 1 + 1, 0, none⟩) (by show a ≤ a + 1 + 1; omega) _⟩
 ·rw [Below.heap_setCell _ _ _ _ (by show a ≠ a + 1 + 1; omega)]; exact h0
 ·rw [Below.heap_setCell _ _ _ _ (by show a + 1 ≠ a + 1 + 1; omega)]; exact h1
 ·simp [World.setCell, Array.getElem?_modify, h2]
 ·rw [Below.heap_setCell _ _ _ _ (by show a + 1 + 1 + 1 ≠ a + 1 + 1; omega)]; exact h3
 ·rw [Below.heap_setCell _ _ _ _ (by show a + 1 + 1 + 1 + 1 ≠ a + 1 + 1; omega)]; exact h4
theorem Ro.set {a : Nat} {s : ByteArray} {er : Int} {hv : HeadV} {u w : World} (H : Ro a s er hv u w) (i : Nat) (v : Value) (hv' : HeadV) (he : headC hv' = (headC hv).setIfInBounds i v) : Ro a s er hv' u (w.setCell ⟨a + 1 + 1 + 1 + 1, i, none⟩ v) := by
 obtain ⟨h0, h1, h2, h3, h4, h5⟩ := H
 refine ⟨?_, ?_, ?_, ?_, ?_, h5.setCell (p := ⟨a + 1 + 1 + 1 + 1, i, none⟩) (by show a ≤ a + 1 + 1 + 1 + 1; omega) _⟩
 ·rw [Below.heap_setCell _ _ _ _ (by show a ≠ a + 1 + 1 + 1 + 1; omega)]; exact h0
 ·rw [Below.heap_setCell _ _ _ _ (by show a + 1 ≠ a + 1 + 1 + 1 + 1; omega)]; exact h1
 ·rw [Below.heap_setCell _ _ _ _ (by show a + 1 + 1 ≠ a + 1 + 1 + 1 + 1; omega)]; exact h2
 ·rw [Below.heap_setCell _ _ _ _ (by show a + 1 + 1 + 1 ≠ a + 1 + 1 + 1 + 1; omega)]; exact h3
 ·rw [he]; simp [World.setCell, Array.getElem?_modify, h4]
theorem Ro.at {a : Nat} {s : ByteArray} {er : Int} {hv : HeadV} {u w : World} (H : Ro a s er hv u w) (i : Nat) (hi : i < 11) : ∃ v, w.cell? ⟨a + 1 + 1 + 1 + 1, i, none⟩ = some v ∧ w.frozen? ⟨a + 1 + 1 + 1 + 1, i, none⟩ = false := by
 have hs : (headC hv).size = 11 := rfl
 exact ⟨(headC hv)[i], by rw [Lib.cell_of_heap H.2.2.2.2.1]; exact Array.getElem?_eq_getElem (by omega), Lib.frozen_of_heap H.2.2.2.2.1 i⟩
def Bx (a r : Nat) (u w : World) : Prop := a ≤ r ∧ Below a u w
theorem Bx.set {a r i : Nat} {u w : World} (H : Bx a r u w) (v : Value) : Bx a r u (w.setCell ⟨r, i, none⟩ v) := ⟨H.1, Below.setCell (p := ⟨r, i, none⟩) H.2 H.1 _⟩
theorem Bx.drew {a r : Nat} {u w : World} (H : Bx a r u w) : Bx a r u w.drew := ⟨H.1, H.2.drew⟩
def w5 (w : World) (s : ByteArray) : World := ((((w.alloc (.cells #[.string s] 9)).alloc (.cells (headC headZ) 74)).alloc (.cells #[.int .i64 0] 24)).alloc (.cells #[.func (.func 155) #[] #[.pointer (some ⟨w.heap.size + 1 + 1, 0, none⟩)]] 181)).alloc (.cells (headC headZ) 74)
theorem Ro.start (w : World) (s : ByteArray) : Ro w.heap.size s 0 headZ w (w5 w s) := by
 have e0 := heap_alloc_new w (.cells #[.string s] 9)
 generalize hw1 : w.alloc (.cells #[.string s] 9) = w1 at e0
 have z1 : w1.heap.size = w.heap.size + 1 := by rw [← hw1]; simp
 have b1 : Below w.heap.size w w1 := by rw [← hw1]; exact (Below.refl _ w).alloc (Nat.le_refl _) _
 have e1 := heap_alloc_new w1 (.cells (headC headZ) 74)
 generalize hw2 : w1.alloc (.cells (headC headZ) 74) = w2 at e1
 have z2 : w2.heap.size = w.heap.size + 1 + 1 := by rw [← hw2, ← z1]; simp
 have b2 : Below w.heap.size w w2 := by rw [← hw2]; exact b1.alloc (by omega) _
 have g0 : w2.heap[w.heap.size]? = some (.cells #[.string s] 9 (0, 0)) := by rw [← hw2, Lib.alloc_old _ _ _ (by omega)]; exact e0
 have e2 := heap_alloc_new w2 (.cells #[.int .i64 0] 24)
 generalize hw3 : w2.alloc (.cells #[.int .i64 0] 24) = w3 at e2
 have z3 : w3.heap.size = w.heap.size + 1 + 1 + 1 := by rw [← hw3, ← z2]; simp
 have b3 : Below w.heap.size w w3 := by rw [← hw3]; exact b2.alloc (by omega) _
 have e3 := heap_alloc_new w3 (.cells #[.func (.func 155) #[] #[.pointer (some ⟨w.heap.size + 1 + 1, 0, none⟩)]] 181)
 generalize hw4 : w3.alloc (.cells #[.func (.func 155) #[] #[.pointer (some ⟨w.heap.size + 1 + 1, 0, none⟩)]] 181) = w4 at e3
 have z4 : w4.heap.size = w.heap.size + 1 + 1 + 1 + 1 := by rw [← hw4, ← z3]; simp
 have b4 : Below w.heap.size w w4 := by rw [← hw4]; exact b3.alloc (by omega) _
 have e4 := heap_alloc_new w4 (.cells (headC headZ) 74)
 have hw5 : w5 w s = w4.alloc (.cells (headC headZ) 74) := by unfold w5; rw [hw1, hw2, hw3, hw4]
 rw [hw5]
 rw [z1] at e1
 rw [z2] at e2
 rw [z3] at e3
 rw [z4] at e4
 refine ⟨?_, ?_, ?_, ?_, e4, b4.alloc (by omega) _⟩
 ·rw [Lib.alloc_old _ _ _ (by omega), ← hw4, Lib.alloc_old _ _ _ (by omega), ← hw3, Lib.alloc_old _ _ _ (by omega)]; exact g0
 ·rw [Lib.alloc_old _ _ _ (by omega), ← hw4, Lib.alloc_old _ _ _ (by omega), ← hw3, Lib.alloc_old _ _ _ (by omega)]; exact e1
 ·rw [Lib.alloc_old _ _ _ (by omega), ← hw4, Lib.alloc_old _ _ _ (by omega)]; exact e2
 ·rw [Lib.alloc_old _ _ _ (by omega)]; exact e3
end Go.Proofs.YtmejnabngfpbeaaGreatDoor
