/- Arguments that are structs: records, raw things. -/
import Derived.Test.YtdcbmjihpjnbbaaDoorBlk
import Derived.Lib.SmallJoins
import Derived.SizedLaws
set_option linter.unusedVariables false
set_option maxRecDepth 100000
namespace Go.Proofs.YtdcbmjihpjnbbaaDoor
open Go.RowKit
open Go.OpenShut
open Go.ChangeShapes Go.WideShapes Go.Deep
section
variable {H : Type} {enc : TypeId × Value → H} {w : World} {base : Nat} {spare : Nat → Bool} {held : Bool}
theorem weights_fld {P : Program} {e : TypeId} {fs : Array Field} (he : P.underlying e = some (.struct fs)) {parts : List (DataW H)} {j : Nat} {f : Field} {d : DataW H} (hf : fs[j]? = some f) (hd : parts[j]? = some d) : ∀ x ∈ d.weights P f.type, x ∈ (DataW.agg parts).weights P e := by
  intro x hx
  unfold DataW.weights
  rw [he]
  exact DataW.weights_mem_each (j := j) (t := f.type) (by simp [hf]) hd x hx
theorem reach_str {P : Program} {t : TypeId} {s : ByteArray} : s.data.toList.length ∈ (DataW.lit (H := H) (.string s.data.toList)).weights P t := by
  unfold DataW.weights; simp
theorem raw_flds : ∃ f0 f1 f2 f3 : Field, Tryd.prog.underlying 41 = some (.struct #[f0, f1, f2, f3]) ∧ f0.type = 3 ∧ f1.type = 3 ∧ f2.type = 3 ∧ f3.type = 9 ∧ oneCellFields Tryd.prog #[f0, f1, f2, f3] = true :=
  ⟨_, _, _, _, Tryd.underlying41, rfl, rfl, rfl, rfl, by kernel_rfl⟩
theorem open_raw {r : Reach} {b0 : Nat} {v : Value} {d : DataW H} {p : List MemPlace} (hv : Value.okWide Tryd.prog w r b0 41 v) (h : DataW.Trod enc Tryd.prog w base spare held 41 v d p) (hwt : ∀ x ∈ d.weights Tryd.prog 41, x ≤ reachBytes) :
    ∃ a : RawV, v = .agg (rawC a).toArray ∧ a.wf := by
  obtain ⟨f0, f1, f2, f3, he, t0, t1, t2, t3, hone⟩ := raw_flds
  obtain ⟨v0, v1, v2, v3, y0, y1, y2, y3, n, rfl, rfl, -, h0, h1, h2, h3⟩ := Go.Joins.open_agg4 he hone (by kernel_rfl) hv h
  have hr4 : reachBytes = 140737488351232 := rfl
  rw [t0] at h0
  rw [t1] at h1
  rw [t2] at h2
  rw [t3] at h3
  obtain ⟨n0, q0, x0, w0⟩ := DataW.trod_int Tryd.underlying3 h0
  obtain ⟨n1, q1, x1, w1⟩ := DataW.trod_int Tryd.underlying3 h1
  obtain ⟨n2, q2, x2, w2⟩ := DataW.trod_int Tryd.underlying3 h2
  obtain ⟨s3, q3, x3, z3⟩ := DataW.trod_string Tryd.underlying9 h3
  simp only [List.cons.injEq, and_true] at q0 q1 q2 q3
  subst q0 q1 q2 q3
  refine ⟨⟨n0, n1, n2, s3⟩, rfl, w0, w1, w2, ?_⟩
  have := hwt _ (weights_fld he (j := 3) (f := f3) (d := y3.1) rfl rfl _ (by rw [x3]; exact reach_str))
  rw [hr4] at this; simpa using this
end
end Go.Proofs.YtdcbmjihpjnbbaaDoor
