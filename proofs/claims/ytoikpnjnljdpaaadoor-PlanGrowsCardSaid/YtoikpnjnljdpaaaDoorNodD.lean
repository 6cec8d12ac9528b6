/- The reference's finding. -/
import Derived.Test.YtoikpnjnljdpaaaDoorNodC
set_option linter.unusedVariables false
set_option maxRecDepth 100000
namespace Go.Proofs.YtoikpnjnljdpaaaDoor
open Go.RowKit
open Go.OpenShut
/-- the cells of the j-th node -/
theorem NodesAt.cells {w : World} {A : Option Addr} {l : List NodeV} (h : NodesAt w A l) (j : Nat) (hj : j < l.length) : ∃ (b o : Nat) (D : Option Addr) (c : Nat), A = some ⟨b, o, none⟩ ∧
    w.cell? ⟨b, o + j * 12, none⟩ = some (.string (bs l[j].path)) ∧ w.cell? ⟨b, o + j * 12 + 1, none⟩ = some (.int .i64 l[j].kind) ∧ w.cell? ⟨b, o + j * 12 + 2, none⟩ = some (.int .i64 l[j].same) ∧ w.cell? ⟨b, o + j * 12 + 3, none⟩ = some (.string (bs l[j].target)) ∧
    (w.cell? ⟨b, o + j * 12 + 4, none⟩ = some (.int .i64 l[j].md.mode) ∧ w.cell? ⟨b, o + j * 12 + 5, none⟩ = some (.int .i64 l[j].md.uid) ∧ w.cell? ⟨b, o + j * 12 + 6, none⟩ = some (.int .i64 l[j].md.gid) ∧ w.cell? ⟨b, o + j * 12 + 7, none⟩ = some (.string (bs l[j].md.user)) ∧ w.cell? ⟨b, o + j * 12 + 8, none⟩ = some (.string (bs l[j].md.group)) ∧ w.cell? ⟨b, o + j * 12 + 9, none⟩ = some (.int .i64 l[j].md.second) ∧ w.cell? ⟨b, o + j * 12 + 10, none⟩ = some (.int .i64 l[j].md.nano)) ∧
    w.cell? ⟨b, o + j * 12 + 11, none⟩ = some (.slice D l[j].data.length c) ∧ SlOk D l[j].data.length c ∧ BytsAt w D l[j].data := by
  obtain ⟨b, o, D, c, e, h12, hs, hd⟩ := h j hj
  exact ⟨b, o, D, c, e, h12 0 (by omega), h12 1 (by omega), h12 2 (by omega), h12 3 (by omega), ⟨h12 4 (by omega), h12 5 (by omega), h12 6 (by omega), h12 7 (by omega), h12 8 (by omega), h12 9 (by omega), h12 10 (by omega)⟩, h12 11 (by omega), hs, hd⟩
theorem NodesAt.take {w : World} {A : Option Addr} {l : List NodeV} (h : NodesAt w A l) (k : Nat) : NodesAt w A (l.take k) := fun j hj => by
  have hj' : j < l.length := by rw [List.length_take] at hj; omega
  have := h j hj'
  rwa [List.getElem_take]
theorem bs_eq {a b : List UInt8} : ((bs a).toList == (bs b).toList) = decide (a = b) := by
  rw [str_eq, Bool.eq_iff_iff, decide_eq_true_eq, decide_eq_true_eq]
  exact ⟨fun e => congrArg (fun s : ByteArray => s.data.toList) e, fun e => by rw [e]⟩
end Go.Proofs.YtoikpnjnljdpaaaDoor
