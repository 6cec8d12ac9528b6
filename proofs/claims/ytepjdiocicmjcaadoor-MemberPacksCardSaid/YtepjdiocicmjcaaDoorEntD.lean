/- The reference's finding. -/
import Derived.Test.YtepjdiocicmjcaaDoorEntB
import Derived.Test.YtepjdiocicmjcaaDoorNodD
set_option linter.unusedVariables false
set_option maxRecDepth 100000
namespace Go.Proofs.YtepjdiocicmjcaaDoor
open Go.RowKit
open Go.OpenShut
theorem blk11 {w : World} {g t : Nat} {a0 a1 a2 a3 a4 a5 a6 a7 a8 a9 a10 : Value} (h : Blk w g t #[a0, a1, a2, a3, a4, a5, a6, a7, a8, a9, a10]) :
    (w.cell? ⟨g, 0, none⟩ = some a0 ∧ w.cell? ⟨g, 1, none⟩ = some a1 ∧ w.cell? ⟨g, 2, none⟩ = some a2 ∧ w.cell? ⟨g, 3, none⟩ = some a3 ∧ w.cell? ⟨g, 4, none⟩ = some a4 ∧ w.cell? ⟨g, 5, none⟩ = some a5 ∧ w.cell? ⟨g, 6, none⟩ = some a6 ∧ w.cell? ⟨g, 7, none⟩ = some a7 ∧ w.cell? ⟨g, 8, none⟩ = some a8 ∧ w.cell? ⟨g, 9, none⟩ = some a9 ∧ w.cell? ⟨g, 10, none⟩ = some a10) ∧
    (w.frozen? ⟨g, 0, none⟩ = false ∧ w.frozen? ⟨g, 1, none⟩ = false ∧ w.frozen? ⟨g, 2, none⟩ = false ∧ w.frozen? ⟨g, 3, none⟩ = false ∧ w.frozen? ⟨g, 4, none⟩ = false ∧ w.frozen? ⟨g, 5, none⟩ = false ∧ w.frozen? ⟨g, 6, none⟩ = false ∧ w.frozen? ⟨g, 7, none⟩ = false ∧ w.frozen? ⟨g, 8, none⟩ = false ∧ w.frozen? ⟨g, 9, none⟩ = false ∧ w.frozen? ⟨g, 10, none⟩ = false) :=
  ⟨⟨h.cell 0, h.cell 1, h.cell 2, h.cell 3, h.cell 4, h.cell 5, h.cell 6, h.cell 7, h.cell 8, h.cell 9, h.cell 10⟩, h.frozen 0, h.frozen 1, h.frozen 2, h.frozen 3, h.frozen 4, h.frozen 5, h.frozen 6, h.frozen 7, h.frozen 8, h.frozen 9, h.frozen 10⟩
/-- the cells of the j-th member -/
theorem EntsAt.cells {w : World} {A : Option Addr} {l : List EntV} (h : EntsAt w A l) (j : Nat) (hj : j < l.length) : ∃ (b o : Nat) (D : Option Addr) (c : Nat), A = some ⟨b, o, none⟩ ∧
    w.cell? ⟨b, o + j * 11, none⟩ = some (.string (bs l[j].path)) ∧ w.cell? ⟨b, o + j * 11 + 1, none⟩ = some (.int .i64 l[j].kind) ∧ w.cell? ⟨b, o + j * 11 + 2, none⟩ = some (.string (bs l[j].target)) ∧
    (w.cell? ⟨b, o + j * 11 + 3, none⟩ = some (.int .i64 l[j].md.mode) ∧ w.cell? ⟨b, o + j * 11 + 4, none⟩ = some (.int .i64 l[j].md.uid) ∧ w.cell? ⟨b, o + j * 11 + 5, none⟩ = some (.int .i64 l[j].md.gid) ∧ w.cell? ⟨b, o + j * 11 + 6, none⟩ = some (.string (bs l[j].md.user)) ∧ w.cell? ⟨b, o + j * 11 + 7, none⟩ = some (.string (bs l[j].md.group)) ∧ w.cell? ⟨b, o + j * 11 + 8, none⟩ = some (.int .i64 l[j].md.second) ∧ w.cell? ⟨b, o + j * 11 + 9, none⟩ = some (.int .i64 l[j].md.nano)) ∧
    w.cell? ⟨b, o + j * 11 + 10, none⟩ = some (.slice D l[j].data.length c) ∧ SlOk D l[j].data.length c ∧ BytsAt w D l[j].data := by
  obtain ⟨b, o, D, c, e, h12, hs, hd⟩ := h j hj
  exact ⟨b, o, D, c, e, h12 0 (by omega), h12 1 (by omega), h12 2 (by omega), ⟨h12 3 (by omega), h12 4 (by omega), h12 5 (by omega), h12 6 (by omega), h12 7 (by omega), h12 8 (by omega), h12 9 (by omega)⟩, h12 10 (by omega), hs, hd⟩
theorem EntsAt.take {w : World} {A : Option Addr} {l : List EntV} (h : EntsAt w A l) (k : Nat) : EntsAt w A (l.take k) := fun j hj => by
  have hj' : j < l.length := by rw [List.length_take] at hj; omega
  have := h j hj'
  rwa [List.getElem_take]
end Go.Proofs.YtepjdiocicmjcaaDoor
