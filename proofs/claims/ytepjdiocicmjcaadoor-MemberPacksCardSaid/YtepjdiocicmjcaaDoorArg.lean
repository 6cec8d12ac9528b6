/- Arguments that are structs: records, raw things. -/
import Derived.Test.YtepjdiocicmjcaaDoorBlk
import Derived.Lib.SmallJoins
import Derived.SizedLaws
set_option linter.unusedVariables false
set_option maxRecDepth 100000
namespace Go.Proofs.YtepjdiocicmjcaaDoor
open Go.RowKit
open Go.OpenShut
open Go.ChangeShapes Go.WideShapes Go.Deep
section
variable {H : Type} {enc : TypeId × Value → H} {w : World} {base : Nat} {spare : Nat → Bool} {held : Bool}
theorem weights_fld {P : Program} {e : TypeId} {fs : Array Field} (he : P.underlying e = some (.struct fs)) {parts : List (DataW H)} {j : Nat} {f : Field} {d : DataW H} (hf : fs[j]? = some f) (hd : parts[j]? = some d) : ∀ x ∈ d.weights P f.type, x ∈ (DataW.agg parts).weights P e := by
  intro x hx
  unfold DataW.weights
  rw [he]
  exact DataW.weights_mem_each (j := j) (t := f.type) (by simp [hf]) hd x hx
theorem reach_str {P : Program} {t : TypeId} {s : ByteArray} : s.data.toList.length ∈ (DataW.lit (H := H) (.string s.data.toList)).weights P t := by
  unfold DataW.weights; simp
/-- a struct by value, whatever the number of its fields, each of one cell -/
theorem open_aggN {P : Program} {r : Reach} {b0 : Nat} {t : TypeId} {fs : Array Field} {v : Value} {d : DataW H} {p : List MemPlace} (hs : P.underlying t = some (.struct fs)) (hone : oneCellFields P fs = true) (hC : P.cellsOf t = fs.size)
    (hv : Value.okWide P w r b0 t v) (h : DataW.Trod enc P w base spare held t v d p) :
    ∃ (cs : Array Value) (ys : List (DataW H × List MemPlace)) (n : Nat), v = .agg cs ∧ cs.size = fs.size ∧ d = .agg (ys.map (·.1)) ∧ ys.length = fs.size ∧
      ∀ (j : Nat) (f : Field), fs[j]? = some f → ∃ (u : Value) (y : DataW H × List MemPlace), cs[j]? = some u ∧ ys[j]? = some y ∧ DataW.trod enc P w base spare held n f.type [u] = some y := by
  obtain ⟨cs, rfl, hsz⟩ := okWide_struct hs hv
  obtain ⟨fuel, hf⟩ := h
  obtain ⟨ys, n, -, hx, hl, hyl, hfl⟩ := DataW.trod_struct hs hf
  simp only [Prod.mk.injEq] at hx
  refine ⟨cs, ys, n, rfl, by omega, hx.1, hyl, fun j f hj => ?_⟩
  obtain ⟨ho, hk⟩ := hone_of hone j f hj
  have hjl : j < fs.size := (Array.getElem?_eq_some_iff.1 hj).1
  have hjc : j < cs.size := by omega
  have h1 := hfl j f hj
  have hone' : ((Value.agg cs).cells.toList.drop f.offset).take (P.cellsOf f.type) = [cs[j]] := by
    rw [ho, hk]
    show (cs.toList.drop j).take 1 = _
    rw [List.drop_eq_getElem_cons (by simpa using hjc)]
    simp
  rw [hone'] at h1
  have hys : ys[j]? = some (ys[j]'(by omega)) := List.getElem?_eq_getElem (by omega)
  exact ⟨cs[j], ys[j]'(by omega), Array.getElem?_eq_getElem hjc, hys, h1.trans hys⟩
theorem rec_flds : ∃ f0 f1 : Field, Tryd.prog.underlying 39 = some (.struct #[f0, f1]) ∧ f0.type = 9 ∧ f1.type = 9 ∧ oneCellFields Tryd.prog #[f0, f1] = true :=
  ⟨_, _, Tryd.underlying39, rfl, rfl, by kernel_rfl⟩
theorem open_rec {r : Reach} {b0 : Nat} {v : Value} {d : DataW H} {p : List MemPlace} (hv : Value.okWide Tryd.prog w r b0 39 v) (h : DataW.Trod enc Tryd.prog w base spare held 39 v d p) (hwt : ∀ x ∈ d.weights Tryd.prog 39, x ≤ reachBytes) :
    ∃ k u : ByteArray, v = .agg #[.string k, .string u] ∧ (k.size ≤ 140737488351232 ∧ u.size ≤ 140737488351232) := by
  obtain ⟨f0, f1, he, t0, t1, hone⟩ := rec_flds
  obtain ⟨v0, v1, y0, y1, n, rfl, rfl, -, h0, h1⟩ := Go.Joins.open_agg2 he hone (by kernel_rfl) hv h
  have hr4 : reachBytes = 140737488351232 := rfl
  rw [t0] at h0
  rw [t1] at h1
  obtain ⟨s0, q0, x0, z0⟩ := DataW.trod_string Tryd.underlying9 h0
  obtain ⟨s1, q1, x1, z1⟩ := DataW.trod_string Tryd.underlying9 h1
  simp only [List.cons.injEq, and_true] at q0 q1
  subst q0 q1
  refine ⟨s0, s1, rfl, ?_, ?_⟩
  · have := hwt _ (weights_fld he (j := 0) (f := f0) (d := y0.1) rfl rfl _ (by rw [x0]; exact reach_str))
    rw [hr4] at this; simpa using this
  · have := hwt _ (weights_fld he (j := 1) (f := f1) (d := y1.1) rfl rfl _ (by rw [x1]; exact reach_str))
    rw [hr4] at this; simpa using this
end
end Go.Proofs.YtepjdiocicmjcaaDoor
