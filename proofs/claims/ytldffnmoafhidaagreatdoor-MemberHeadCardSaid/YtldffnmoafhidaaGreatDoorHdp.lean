/- Texts of one kind, in one file: HedP, HedQ, HedS. -/
import Derived.Test.YtldffnmoafhidaaGreatDoorWrx
import Derived.Test.YtldffnmoafhidaaGreatDoorMea
import Derived.Test.YtldffnmoafhidaaGreatDoorHdb
import Derived.Test.YtldffnmoafhidaaGreatDoorOct
import Derived.Test.YtldffnmoafhidaaGreatDoorFld
import Derived.Deep.DeepCutAuto
import Derived.Deep.RegionWith
/- Package head: the reader's steps. -/
set_option linter.unusedVariables false
set_option maxRecDepth 100000
namespace Go.Proofs.YtldffnmoafhidaaGreatDoor
open Go.RowKit
open Go.OpenShut
theorem rd_lt {w : World} {k : Nat} {o : Obj} (h : w.heap[k]? = some o) : k < w.heap.size := by
  rcases Nat.lt_or_ge k w.heap.size with h' | h'
  · exact h'
  · rw [Array.getElem?_eq_none h'] at h; cases h
/-- the reader at b: behind k bytes of L, with the error er -/
def Rd (b : Nat) (L : List UInt8) (k : Nat) (er : Int) (w : World) : Prop := w.heap[b]? = some (.cells #[.string (bs (L.drop k)), .int .i64 er] 166 (0, 0))
theorem Rd.below {b : Nat} {L : List UInt8} {k : Nat} {er : Int} {w w' : World} (h : Rd b L k er w) (hb : Below w.heap.size w w') : Rd b L k er w' := (hb.block b (rd_lt h)).trans h
theorem Rd.rest {b : Nat} {L : List UInt8} {k : Nat} {er : Int} {w : World} (h : Rd b L k er w) (m : Nat) : Rd b L m er (w.setCell ⟨b, 0, none⟩ (.string (bs (L.drop m)))) := by
  unfold Rd at h ⊢; simp [World.setCell, Array.getElem?_modify, h]
theorem Rd.cells {b : Nat} {L : List UInt8} {k : Nat} {er : Int} {w : World} (h : Rd b L k er w) :
    (w.cell? ⟨b, 0, none⟩ = some (.string (bs (L.drop k))) ∧ w.frozen? ⟨b, 0, none⟩ = false) ∧ (w.cell? ⟨b, 1, none⟩ = some (.int .i64 er) ∧ w.frozen? ⟨b, 1, none⟩ = false) := by
  unfold Rd at h
  exact ⟨⟨by rw [Lib.cell_of_heap h]; rfl, Lib.frozen_of_heap h 0⟩, ⟨by rw [Lib.cell_of_heap h]; rfl, Lib.frozen_of_heap h 1⟩⟩
end Go.Proofs.YtldffnmoafhidaaGreatDoor
/- Package head: what the reader reads. -/
set_option linter.unusedVariables false
set_option maxRecDepth 100000
namespace Go.Proofs.YtldffnmoafhidaaGreatDoor
open Go.RowKit
open Go.OpenShut
def hq1 (L : List UInt8) : HeadV := { headZ with name := rdS L 0 100 true }
def hq2 (L : List UInt8) : HeadV := { hq1 L with mode := (octR (sl L 100 108)).1 }
def hq3 (L : List UInt8) : HeadV := { hq2 L with uid := (octR (sl L 108 116)).1 }
def hq4 (L : List UInt8) : HeadV := { hq3 L with gid := (octR (sl L 116 124)).1 }
def hq5 (L : List UInt8) : HeadV := { hq4 L with size := (octR (sl L 124 136)).1 }
def hq6 (L : List UInt8) : HeadV := { hq5 L with time := (octR (sl L 136 148)).1 }
def hq7 (L : List UInt8) : HeadV := { hq6 L with typ := L.getD 156 0 }
def hq8 (L : List UInt8) : HeadV := { hq7 L with link := rdS L 157 257 true }
def hq9 (L : List UInt8) : HeadV := { hq8 L with user := rdS L 265 297 false }
def hqA (L : List UInt8) : HeadV := { hq9 L with group := rdS L 297 329 false }
def hqB (L : List UInt8) : HeadV := { hqA L with pre := rdS L 345 500 true }
/-- on the way: the reader at b, the header at g, the result's cells at r -/
def Hr (B b g r : Nat) (L : List UInt8) (k : Nat) (er : Int) (hv : HeadV) (u w : World) : Prop :=
  Rd b L k er w ∧ w.heap[g]? = some (.cells (headC hv) 36 (0, 0)) ∧ w.heap[r]? = some (.cells (headC headZ) 36 (0, 0)) ∧ Below B u w ∧ B ≤ b ∧ B ≤ g ∧ B ≤ r ∧ r ≠ g ∧ L.length = 512
theorem Hr.bg {B b g r : Nat} {L : List UInt8} {k : Nat} {er : Int} {hv : HeadV} {u w : World} (H : Hr B b g r L k er hv u w) : b ≠ g ∧ b ≠ r := by
  have h1 := H.1
  unfold Rd at h1
  constructor
  · rintro rfl; have h2 := H.2.1; rw [h1] at h2; injection h2 with e; injection e with _ e _; exact absurd e (by decide)
  · rintro rfl; have h2 := H.2.2.1; rw [h1] at h2; injection h2 with e; injection e with _ e _; exact absurd e (by decide)
theorem Hr.size {B b g r : Nat} {L : List UInt8} {k : Nat} {er : Int} {hv : HeadV} {u w : World} (H : Hr B b g r L k er hv u w) : B ≤ w.heap.size := by
  have := rd_lt H.1; have := H.2.2.2.2.1; omega
theorem Hr.next {B b g r : Nat} {L : List UInt8} {k k2 : Nat} {er er2 : Int} {hv : HeadV} {u w w' : World} (H : Hr B b g r L k er hv u w) (h1 : Rd b L k2 er2 w') (hb : Bel B w w') : Hr B b g r L k2 er2 hv u w' :=
  ⟨h1, hb.2 _ _ _ H.2.1, hb.2 _ _ _ H.2.2.1, H.2.2.2.1.trans hb.1, H.2.2.2.2⟩
theorem Hr.set {B b g r : Nat} {L : List UInt8} {k : Nat} {er : Int} {hv : HeadV} {u w : World} (H : Hr B b g r L k er hv u w) (i : Nat) (v : Value) (hv' : HeadV) (he : headC hv' = (headC hv).setIfInBounds i v) : Hr B b g r L k er hv' u (w.setCell ⟨g, i, none⟩ v) := by
  obtain ⟨n1, n2⟩ := H.bg
  obtain ⟨h1, h2, h3, hb, x⟩ := H
  refine ⟨?_, ?_, ?_, hb.setCell (p := ⟨g, i, none⟩) x.2.1 _, x⟩
  · unfold Rd at h1 ⊢; rw [Below.heap_setCell _ _ _ _ (by show b ≠ g; exact n1)]; exact h1
  · rw [he]; simp [World.setCell, Array.getElem?_modify, h2]
  · rw [Below.heap_setCell _ _ _ _ (by show r ≠ g; exact x.2.2.2.1)]; exact h3
theorem Hr.at {B b g r : Nat} {L : List UInt8} {k : Nat} {er : Int} {hv : HeadV} {u w : World} (H : Hr B b g r L k er hv u w) (i : Nat) (hi : i < 11) : ∃ v, w.cell? ⟨g, i, none⟩ = some v ∧ w.frozen? ⟨g, i, none⟩ = false := by
  have hs : (headC hv).size = 11 := rfl
  exact ⟨(headC hv)[i], by rw [Lib.cell_of_heap H.2.1]; exact Array.getElem?_eq_getElem (by omega), Lib.frozen_of_heap H.2.1 i⟩
def Fin (B b : Nat) (L : List UInt8) (er : Int) (u w : World) : Prop := Rd b L 512 er w ∧ Below B u w
theorem Fin.set {B b r i : Nat} {L : List UInt8} {er : Int} {u w : World} (H : Fin B b L er u w) (hne : b ≠ r) (hB : B ≤ r) (v : Value) : Fin B b L er u (w.setCell ⟨r, i, none⟩ v) := by
  refine ⟨?_, H.2.setCell (p := ⟨r, i, none⟩) hB _⟩
  have h1 := H.1
  unfold Rd at h1 ⊢
  rw [Below.heap_setCell _ _ _ _ (by show b ≠ r; exact hne)]; exact h1
end Go.Proofs.YtldffnmoafhidaaGreatDoor
/- Package head: Read. -/
set_option linter.unusedVariables false
set_option maxRecDepth 100000
namespace Go.Proofs.YtldffnmoafhidaaGreatDoor
open Go.RowKit
open Go.OpenShut
/-- the result's cells at r, all zero, in a world reached from u -/
def Rz (r : Nat) (u w : World) : Prop := w.heap[r]? = some (.cells (headC headZ) 36 (0, 0)) ∧ Below r u w
theorem Rz.below {r : Nat} {u w w' : World} (h : Rz r u w) (hb : Below w.heap.size w w') : Rz r u w' :=
  ⟨(hb.block r (rd_lt h.1)).trans h.1, h.2.trans (hb.mono (Nat.le_of_lt (rd_lt h.1)))⟩
theorem Rz.drew {r : Nat} {u w : World} (h : Rz r u w) : Rz r u w.drew := ⟨h.1, h.2.drew⟩
theorem Rz.new (w : World) : Rz w.heap.size w (w.alloc (.cells (headC headZ) 36)) := ⟨heap_alloc_new w _, (Below.refl _ w).alloc (Nat.le_refl _) _⟩
theorem Rz.frozen {r : Nat} {u w : World} (h : Rz r u w) (i : Nat) : w.frozen? ⟨r, i, none⟩ = false := Lib.frozen_of_heap h.1 i
theorem Rz.cells {r : Nat} {u w : World} (h : Rz r u w) : ∀ i, i < 11 → ∃ v, w.cell? ⟨r, i, none⟩ = some v := by
  intro i hi
  have hs : (headC headZ).size = 11 := rfl
  exact ⟨(headC headZ)[i], by rw [Lib.cell_of_heap h.1]; exact Array.getElem?_eq_getElem (by omega)⟩
def Bw (r : Nat) (u w : World) : Prop := Below r u w
theorem Bw.set {r i : Nat} {u w : World} (H : Bw r u w) (v : Value) : Bw r u (w.setCell ⟨r, i, none⟩ v) := Below.setCell (p := ⟨r, i, none⟩) H (Nat.le_refl _) _
theorem Bw.drew {r : Nat} {u w : World} (H : Bw r u w) : Bw r u w.drew := Below.drew H
end Go.Proofs.YtldffnmoafhidaaGreatDoor
