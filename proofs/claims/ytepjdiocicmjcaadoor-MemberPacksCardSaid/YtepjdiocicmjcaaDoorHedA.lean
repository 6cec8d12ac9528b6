/- Arguments that are headers. -/
import Derived.Test.YtepjdiocicmjcaaDoorArg
import Derived.Test.YtepjdiocicmjcaaDoorMth
set_option linter.unusedVariables false
set_option maxRecDepth 100000
namespace Go.Proofs.YtepjdiocicmjcaaDoor
open Go.RowKit
open Go.OpenShut
open Go.ChangeShapes Go.WideShapes Go.Deep
/-- a header's cells -/
def headC (h : HeadV) : Array Value := #[.string (bs h.name), .string (bs h.pre), .string (bs h.link), .int .i64 h.mode, .int .i64 h.uid, .int .i64 h.gid, .int .i64 h.size, .int .i64 h.time, .int .u8 (h.typ.toNat : Int), .string (bs h.user), .string (bs h.group)]
def HeadV.wf (h : HeadV) : Prop := (h.name.length ≤ 140737488351232 ∧ h.pre.length ≤ 140737488351232 ∧ h.link.length ≤ 140737488351232 ∧ h.user.length ≤ 140737488351232 ∧ h.group.length ≤ 140737488351232) ∧
  (Lit.int .i64 h.mode).wf = true ∧ (Lit.int .i64 h.uid).wf = true ∧ (Lit.int .i64 h.gid).wf = true ∧ (Lit.int .i64 h.size).wf = true ∧ (Lit.int .i64 h.time).wf = true
theorem array11 {α : Type} {cs : Array α} (h : cs.size = 11) : ∃ c0 c1 c2 c3 c4 c5 c6 c7 c8 c9 c10, cs = #[c0, c1, c2, c3, c4, c5, c6, c7, c8, c9, c10] := by
  obtain ⟨l⟩ := cs
  match l, h with
  | [c0, c1, c2, c3, c4, c5, c6, c7, c8, c9, c10], _ => exact ⟨c0, c1, c2, c3, c4, c5, c6, c7, c8, c9, c10, rfl⟩
theorem byte_of {n : Int} (h : (Lit.int .u8 n).wf = true) : ((UInt8.ofNat n.toNat).toNat : Int) = n := by
  have h1 : IntKind.u8.min ≤ n ∧ n ≤ IntKind.u8.max := by simpa [Lit.wf] using h
  rw [show IntKind.u8.min = 0 from rfl, show IntKind.u8.max = 255 from rfl] at h1
  rw [UInt8.toNat_ofNat']; omega
section
variable {H : Type} {enc : TypeId × Value → H} {w : World} {base : Nat} {spare : Nat → Bool} {held : Bool}
theorem head_flds : ∃ f0 f1 f2 f3 f4 f5 f6 f7 f8 f9 f10 : Field, Tryd.prog.underlying 32 = some (.struct #[f0, f1, f2, f3, f4, f5, f6, f7, f8, f9, f10]) ∧
    (f0.type = 9 ∧ f1.type = 9 ∧ f2.type = 9 ∧ f3.type = 3 ∧ f4.type = 3 ∧ f5.type = 3 ∧ f6.type = 3 ∧ f7.type = 3 ∧ f8.type = 5 ∧ f9.type = 9 ∧ f10.type = 9) ∧ oneCellFields Tryd.prog #[f0, f1, f2, f3, f4, f5, f6, f7, f8, f9, f10] = true :=
  ⟨_, _, _, _, _, _, _, _, _, _, _, Tryd.underlying32, ⟨rfl, rfl, rfl, rfl, rfl, rfl, rfl, rfl, rfl, rfl, rfl⟩, by kernel_rfl⟩
theorem open_head {r : Reach} {b0 : Nat} {v : Value} {d : DataW H} {p : List MemPlace} (hv : Value.okWide Tryd.prog w r b0 32 v) (h : DataW.Trod enc Tryd.prog w base spare held 32 v d p) (hwt : ∀ x ∈ d.weights Tryd.prog 32, x ≤ reachBytes) :
    ∃ a : HeadV, v = .agg (headC a) ∧ a.wf := by
  obtain ⟨f0, f1, f2, f3, f4, f5, f6, f7, f8, f9, f10, he, ⟨t0, t1, t2, t3, t4, t5, t6, t7, t8, t9, t10⟩, hone⟩ := head_flds
  obtain ⟨cs, ys, n, rfl, hcs, hd, hyl, hf⟩ := open_aggN he hone (by kernel_rfl) hv h
  have hr4 : reachBytes = 140737488351232 := rfl
  obtain ⟨c0, c1, c2, c3, c4, c5, c6, c7, c8, c9, c10, rfl⟩ := array11 hcs
  obtain ⟨_, y0, e0, z0, h0⟩ := hf 0 f0 rfl
  obtain ⟨_, y1, e1, z1, h1⟩ := hf 1 f1 rfl
  obtain ⟨_, y2, e2, z2, h2⟩ := hf 2 f2 rfl
  obtain ⟨_, y3, e3, z3, h3⟩ := hf 3 f3 rfl
  obtain ⟨_, y4, e4, z4, h4⟩ := hf 4 f4 rfl
  obtain ⟨_, y5, e5, z5, h5⟩ := hf 5 f5 rfl
  obtain ⟨_, y6, e6, z6, h6⟩ := hf 6 f6 rfl
  obtain ⟨_, y7, e7, z7, h7⟩ := hf 7 f7 rfl
  obtain ⟨_, y8, e8, z8, h8⟩ := hf 8 f8 rfl
  obtain ⟨_, y9, e9, z9, h9⟩ := hf 9 f9 rfl
  obtain ⟨_, y10, e10, z10, h10⟩ := hf 10 f10 rfl
  cases e0; cases e1; cases e2; cases e3; cases e4; cases e5; cases e6; cases e7; cases e8; cases e9; cases e10
  rw [t0] at h0
  rw [t1] at h1
  rw [t2] at h2
  rw [t3] at h3
  rw [t4] at h4
  rw [t5] at h5
  rw [t6] at h6
  rw [t7] at h7
  rw [t8] at h8
  rw [t9] at h9
  rw [t10] at h10
  have W : ∀ (j : Nat) (f : Field) (y : DataW H × List MemPlace) (s : ByteArray), (#[f0, f1, f2, f3, f4, f5, f6, f7, f8, f9, f10] : Array Field)[j]? = some f → ys[j]? = some y → y.1 = .lit (.string s.data.toList) → s.data.toList.length ≤ 140737488351232 := by
    intro j f y s hj hy hx
    have hm : s.data.toList.length ∈ d.weights Tryd.prog 32 := by
      rw [hd]
      exact weights_fld he (j := j) (f := f) (d := y.1) hj (by rw [List.getElem?_map, hy]; rfl) _ (by rw [hx]; exact reach_str)
    have := hwt _ hm
    rw [hr4] at this; exact this
  obtain ⟨s0, q0, x0, -⟩ := DataW.trod_string Tryd.underlying9 h0
  obtain ⟨s1, q1, x1, -⟩ := DataW.trod_string Tryd.underlying9 h1
  obtain ⟨s2, q2, x2, -⟩ := DataW.trod_string Tryd.underlying9 h2
  obtain ⟨n3, q3, x3, w3⟩ := DataW.trod_int Tryd.underlying3 h3
  obtain ⟨n4, q4, x4, w4⟩ := DataW.trod_int Tryd.underlying3 h4
  obtain ⟨n5, q5, x5, w5⟩ := DataW.trod_int Tryd.underlying3 h5
  obtain ⟨n6, q6, x6, w6⟩ := DataW.trod_int Tryd.underlying3 h6
  obtain ⟨n7, q7, x7, w7⟩ := DataW.trod_int Tryd.underlying3 h7
  obtain ⟨n8, q8, x8, w8⟩ := DataW.trod_int Tryd.underlying5 h8
  obtain ⟨s9, q9, x9, -⟩ := DataW.trod_string Tryd.underlying9 h9
  obtain ⟨s10, q10, x10, -⟩ := DataW.trod_string Tryd.underlying9 h10
  simp only [List.cons.injEq, and_true] at q0 q1 q2 q3 q4 q5 q6 q7 q8 q9 q10
  subst q0 q1 q2 q3 q4 q5 q6 q7 q8 q9 q10
  refine ⟨⟨s0.data.toList, s1.data.toList, s2.data.toList, n3, n4, n5, n6, n7, UInt8.ofNat n8.toNat, s9.data.toList, s10.data.toList⟩, ?_, ⟨W 0 f0 y0 s0 rfl z0 (by rw [x0]), W 1 f1 y1 s1 rfl z1 (by rw [x1]), W 2 f2 y2 s2 rfl z2 (by rw [x2]), W 9 f9 y9 s9 rfl z9 (by rw [x9]), W 10 f10 y10 s10 rfl z10 (by rw [x10])⟩, w3, w4, w5, w6, w7⟩
  unfold headC
  simp only [bs_of, byte_of w8]
end
end Go.Proofs.YtepjdiocicmjcaaDoor
