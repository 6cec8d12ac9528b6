/- Arguments that are metadata. -/
import Derived.Test.YtoikpnjnljdpaaaDoorArg
import Derived.Test.YtoikpnjnljdpaaaDoorMetA
set_option linter.unusedVariables false
set_option maxRecDepth 100000
namespace Go.Proofs.YtoikpnjnljdpaaaDoor
open Go.RowKit
open Go.OpenShut
open Go.ChangeShapes Go.WideShapes Go.Deep
theorem array7 {α : Type} {cs : Array α} (h : cs.size = 7) : ∃ c0 c1 c2 c3 c4 c5 c6, cs = #[c0, c1, c2, c3, c4, c5, c6] := by
  obtain ⟨l⟩ := cs
  match l, h with
  | [c0, c1, c2, c3, c4, c5, c6], _ => exact ⟨c0, c1, c2, c3, c4, c5, c6, rfl⟩
section
variable {H : Type} {enc : TypeId × Value → H} {w : World} {base : Nat} {spare : Nat → Bool} {held : Bool}
def MetaV.wf (m : MetaV) : Prop := m.sz ∧
  (Lit.int .i64 m.mode).wf = true ∧ (Lit.int .i64 m.uid).wf = true ∧ (Lit.int .i64 m.gid).wf = true ∧ (Lit.int .i64 m.second).wf = true ∧ (Lit.int .i64 m.nano).wf = true
theorem meta_flds : ∃ f0 f1 f2 f3 f4 f5 f6 : Field, Tryd.prog.underlying 23 = some (.struct #[f0, f1, f2, f3, f4, f5, f6]) ∧
    (f0.type = 3 ∧ f1.type = 3 ∧ f2.type = 3 ∧ f3.type = 9 ∧ f4.type = 9 ∧ f5.type = 3 ∧ f6.type = 3) ∧ oneCellFields Tryd.prog #[f0, f1, f2, f3, f4, f5, f6] = true :=
  ⟨_, _, _, _, _, _, _, Tryd.underlying23, ⟨rfl, rfl, rfl, rfl, rfl, rfl, rfl⟩, by kernel_rfl⟩
theorem open_meta {r : Reach} {b0 : Nat} {v : Value} {d : DataW H} {p : List MemPlace} (hv : Value.okWide Tryd.prog w r b0 23 v) (h : DataW.Trod enc Tryd.prog w base spare held 23 v d p) (hwt : ∀ x ∈ d.weights Tryd.prog 23, x ≤ reachBytes) :
    ∃ a : MetaV, v = .agg (metA a) ∧ a.wf := by
  obtain ⟨f0, f1, f2, f3, f4, f5, f6, he, ⟨t0, t1, t2, t3, t4, t5, t6⟩, hone⟩ := meta_flds
  obtain ⟨cs, ys, n, rfl, hcs, hd, hyl, hf⟩ := open_aggN he hone (by kernel_rfl) hv h
  have hr4 : reachBytes = 140737488351232 := rfl
  obtain ⟨c0, c1, c2, c3, c4, c5, c6, rfl⟩ := array7 hcs
  obtain ⟨_, y0, e0, z0, h0⟩ := hf 0 f0 rfl
  obtain ⟨_, y1, e1, z1, h1⟩ := hf 1 f1 rfl
  obtain ⟨_, y2, e2, z2, h2⟩ := hf 2 f2 rfl
  obtain ⟨_, y3, e3, z3, h3⟩ := hf 3 f3 rfl
  obtain ⟨_, y4, e4, z4, h4⟩ := hf 4 f4 rfl
  obtain ⟨_, y5, e5, z5, h5⟩ := hf 5 f5 rfl
  obtain ⟨_, y6, e6, z6, h6⟩ := hf 6 f6 rfl
  cases e0; cases e1; cases e2; cases e3; cases e4; cases e5; cases e6
  rw [t0] at h0
  rw [t1] at h1
  rw [t2] at h2
  rw [t3] at h3
  rw [t4] at h4
  rw [t5] at h5
  rw [t6] at h6
  have W : ∀ (j : Nat) (f : Field) (y : DataW H × List MemPlace) (s : ByteArray), (#[f0, f1, f2, f3, f4, f5, f6] : Array Field)[j]? = some f → ys[j]? = some y → y.1 = .lit (.string s.data.toList) → s.data.toList.length ≤ 140737488351232 := by
    intro j f y s hj hy hx
    have hm : s.data.toList.length ∈ d.weights Tryd.prog 23 := by
      rw [hd]
      exact weights_fld he (j := j) (f := f) (d := y.1) hj (by rw [List.getElem?_map, hy]; rfl) _ (by rw [hx]; exact reach_str)
    have := hwt _ hm
    rw [hr4] at this; exact this
  obtain ⟨n0, q0, x0, w0⟩ := DataW.trod_int Tryd.underlying3 h0
  obtain ⟨n1, q1, x1, w1⟩ := DataW.trod_int Tryd.underlying3 h1
  obtain ⟨n2, q2, x2, w2⟩ := DataW.trod_int Tryd.underlying3 h2
  obtain ⟨s3, q3, x3, -⟩ := DataW.trod_string Tryd.underlying9 h3
  obtain ⟨s4, q4, x4, -⟩ := DataW.trod_string Tryd.underlying9 h4
  obtain ⟨n5, q5, x5, w5⟩ := DataW.trod_int Tryd.underlying3 h5
  obtain ⟨n6, q6, x6, w6⟩ := DataW.trod_int Tryd.underlying3 h6
  simp only [List.cons.injEq, and_true] at q0 q1 q2 q3 q4 q5 q6
  subst q0 q1 q2 q3 q4 q5 q6
  refine ⟨⟨n0, n1, n2, s3.data.toList, s4.data.toList, n5, n6⟩, ?_, ⟨W 3 f3 y3 s3 rfl z3 (by rw [x3]), W 4 f4 y4 s4 rfl z4 (by rw [x4])⟩, w0, w1, w2, w5, w6⟩
  unfold metA
  simp only [bs_of]
end
end Go.Proofs.YtoikpnjnljdpaaaDoor
