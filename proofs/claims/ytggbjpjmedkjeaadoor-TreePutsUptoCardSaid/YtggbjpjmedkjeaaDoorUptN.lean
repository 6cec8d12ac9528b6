/- The bulk of an argument that is a node. -/
import Derived.Test.YtggbjpjmedkjeaaDoorNodA
import Derived.Test.YtggbjpjmedkjeaaDoorRows
set_option linter.unusedVariables false
set_option maxRecDepth 100000
namespace Go.Proofs.YtggbjpjmedkjeaaDoor
open Go.RowKit
open Go.OpenShut
open Go.ChangeShapes Go.WideShapes Go.Deep
theorem bulk_mem {H : Type} {d : DataW H} {l : List (DataW H)} (h : d ∈ l) : Rows.uptoBulk d ≤ Rows.uptoBulkAll l := by
  induction l with
  | nil => cases h
  | cons x r ih =>
    simp only [Rows.uptoBulkAll]
    rcases List.mem_cons.1 h with rfl | h
    · omega
    · have := ih h; omega
section
variable {H : Type} {enc : TypeId × Value → H} {w : World} {base : Nat} {spare : Nat → Bool} {held : Bool}
theorem node_bulk {a : NodeV} {D : Option Addr} {c : Nat} {d : DataW H} {p : List MemPlace} (h : DataW.Trod enc Tryd.prog w base spare held 26 (.agg (nodC a D c).toArray) d p) : a.path.length + 1 ≤ Rows.uptoBulk d := by
  obtain ⟨fuel, hf0⟩ := h
  have h0 : DataW.trod enc Tryd.prog w base spare held fuel 26 (nodC a D c) = some (d, p) := hf0
  obtain ⟨f0, f1, f2, f3, f4, f5, he, ⟨t0, -⟩, o0, -⟩ := node_flds
  obtain ⟨ys, n', hn', hy, hlen, hyl, hf⟩ := DataW.trod_struct he h0
  have ks : Tryd.prog.cellsOf 9 = 1 := by kernel_rfl
  obtain ⟨y0, y1, y2, y3, y4, y5, rfl⟩ := list6 hyl
  have h1 := hf 0 f0 rfl
  rw [t0, o0, ks] at h1
  obtain ⟨s0, q0, x0, -⟩ := DataW.trod_string Tryd.underlying9 (show DataW.trod enc Tryd.prog w base spare held n' 9 [.string (bs a.path)] = some y0 from h1)
  simp only [List.cons.injEq, and_true, Value.string.injEq] at q0
  subst x0
  have hd : d = .agg ([(DataW.lit (Lit.string s0.data.toList), ([] : List MemPlace)), y1, y2, y3, y4, y5].map (·.1)) := congrArg Prod.fst hy
  have hb := bulk_mem (d := (DataW.lit (Lit.string s0.data.toList) : DataW H)) (l := [(DataW.lit (Lit.string s0.data.toList), ([] : List MemPlace)), y1, y2, y3, y4, y5].map (·.1)) (by simp)
  simp only [Rows.uptoBulk] at hb
  rw [hd]
  have hl : s0.data.toList.length = a.path.length := by rw [← q0]; rfl
  have e : Rows.uptoBulk (.agg ([(DataW.lit (Lit.string s0.data.toList), ([] : List MemPlace)), y1, y2, y3, y4, y5].map (·.1))) = Rows.uptoBulkAll ([(DataW.lit (Lit.string s0.data.toList), ([] : List MemPlace)), y1, y2, y3, y4, y5].map (·.1)) + 1 := by simp only [Rows.uptoBulk]
  rw [e]
  omega
end
end Go.Proofs.YtggbjpjmedkjeaaDoor
