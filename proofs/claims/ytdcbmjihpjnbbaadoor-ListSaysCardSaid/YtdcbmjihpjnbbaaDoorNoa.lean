/- Texts of one kind, in one file: NodA, NodB. -/
import Derived.Test.YtdcbmjihpjnbbaaDoorMet
import Derived.Test.YtdcbmjihpjnbbaaDoorBas
/- Nodes in memory; arguments that are nodes, and lists of them. -/
set_option linter.unusedVariables false
set_option maxRecDepth 100000
namespace Go.Proofs.YtdcbmjihpjnbbaaDoor
open Go.RowKit
open Go.OpenShut
open Go.ChangeShapes Go.WideShapes Go.Deep
/-- a node's cells, its data lying at D with room for c -/
def nodC (x : NodeV) (D : Option Addr) (c : Nat) : List Value :=
  [.string (bs x.path), .int .i64 x.kind, .int .i64 x.same, .string (bs x.target), .int .i64 x.md.mode, .int .i64 x.md.uid, .int .i64 x.md.gid, .string (bs x.md.user), .string (bs x.md.group), .int .i64 x.md.second, .int .i64 x.md.nano, .slice D x.data.length c]
/-- nodes in memory -/
def NodesAt (w : World) (A : Option Addr) (l : List NodeV) : Prop :=
  ∀ j (hj : j < l.length), ∃ (b o : Nat) (D : Option Addr) (c : Nat), A = some ⟨b, o, none⟩ ∧ (∀ i, i < 12 → w.cell? ⟨b, o + j * 12 + i, none⟩ = (nodC l[j] D c)[i]?) ∧ SlOk D l[j].data.length c ∧ BytsAt w D l[j].data
theorem NodesAt.nil (w : World) (A : Option Addr) : NodesAt w A [] := fun j hj => by simp at hj
theorem NodesAt.below {w w' : World} {A : Option Addr} {l : List NodeV} (h : NodesAt w A l) (hb : Below w.heap.size w w') : NodesAt w' A l := fun j hj => by
  obtain ⟨b, o, D, c, e, h12, hs, hd⟩ := h j hj
  have hlt : b < w.heap.size := World.block_lt_of_cell? w _ (h12 0 (by omega))
  exact ⟨b, o, D, c, e, fun i hi => (hb.cell (p := ⟨b, o + j * 12 + i, none⟩) hlt).trans (h12 i hi), hs, hd.below hb⟩
def NodeV.wf (x : NodeV) : Prop := (x.path.length ≤ 140737488351232 ∧ x.target.length ≤ 140737488351232 ∧ x.data.length ≤ 140737488351232) ∧ x.md.wf ∧ (Lit.int .i64 x.kind).wf = true ∧ (Lit.int .i64 x.same).wf = true
section
variable {H : Type} {enc : TypeId × Value → H} {w : World} {base : Nat} {spare : Nat → Bool} {held : Bool}
/-- a struct's fields, each of one cell, as they lie -/
theorem struct_flds {P : Program} {e : TypeId} {fs : Array Field} {fuel : Nat} {cs : List Value} {x : DataW H × List MemPlace} (he : P.underlying e = some (.struct fs))
    (hone : oneCellFields P fs = true) (hC : P.cellsOf e = fs.size) (h : DataW.trod enc P w base spare held fuel e cs = some x) :
    ∃ (ys : List (DataW H × List MemPlace)) (n : Nat), x.1 = .agg (ys.map (·.1)) ∧ cs.length = fs.size ∧
      ∀ (j : Nat) (f : Field), fs[j]? = some f → ∃ (v : Value) (y : DataW H × List MemPlace), cs[j]? = some v ∧ ys[j]? = some y ∧ DataW.trod enc P w base spare held n f.type [v] = some y := by
  obtain ⟨ys, n', hn', hy, hlen, hyl, hf⟩ := DataW.trod_struct he h
  rw [hC] at hlen
  subst hy
  refine ⟨ys, n', rfl, hlen, fun j f hj => ?_⟩
  obtain ⟨ho, hk⟩ := hone_of hone j f hj
  have hjl : j < fs.size := (Array.getElem?_eq_some_iff.1 hj).1
  have hv : cs[j]? = some (cs[j]'(by omega)) := List.getElem?_eq_getElem (by omega)
  have h1 := hf j f hj
  rw [ho, hk] at h1
  have hone' : (cs.drop j).take 1 = [cs[j]'(by omega)] := by
    rw [List.drop_eq_getElem_cons (by omega)]
    rfl
  rw [hone'] at h1
  have hys : ys[j]? = some (ys[j]'(by omega)) := List.getElem?_eq_getElem (by omega)
  exact ⟨_, _, hv, hys, h1.trans hys⟩
theorem meta_of {fuel : Nat} {cs : List Value} {x : DataW H × List MemPlace} (h : DataW.trod enc Tryd.prog w base spare held fuel 27 cs = some x) (hwt : ∀ y ∈ x.1.weights Tryd.prog 27, y ≤ reachBytes) :
    ∃ m : MetaV, cs = (metA m).toList ∧ m.wf := by
  obtain ⟨f0, f1, f2, f3, f4, f5, f6, he, ⟨t0, t1, t2, t3, t4, t5, t6⟩, hone⟩ := meta_flds
  obtain ⟨ys, n, hd, hcs, hf⟩ := struct_flds he hone (by kernel_rfl) h
  have hr4 : reachBytes = 140737488351232 := rfl
  match cs, hcs with
  | [c0, c1, c2, c3, c4, c5, c6], _ =>
    obtain ⟨_, y0, e0, z0, h0⟩ := hf 0 f0 rfl
    obtain ⟨_, y1, e1, z1, h1⟩ := hf 1 f1 rfl
    obtain ⟨_, y2, e2, z2, h2⟩ := hf 2 f2 rfl
    obtain ⟨_, y3, e3, z3, h3⟩ := hf 3 f3 rfl
    obtain ⟨_, y4, e4, z4, h4⟩ := hf 4 f4 rfl
    obtain ⟨_, y5, e5, z5, h5⟩ := hf 5 f5 rfl
    obtain ⟨_, y6, e6, z6, h6⟩ := hf 6 f6 rfl
    cases e0; cases e1; cases e2; cases e3; cases e4; cases e5; cases e6
    rw [t0] at h0
    rw [t1] at h1
    rw [t2] at h2
    rw [t3] at h3
    rw [t4] at h4
    rw [t5] at h5
    rw [t6] at h6
    have W : ∀ (j : Nat) (f : Field) (y : DataW H × List MemPlace) (s : ByteArray), (#[f0, f1, f2, f3, f4, f5, f6] : Array Field)[j]? = some f → ys[j]? = some y → y.1 = .lit (.string s.data.toList) → s.data.toList.length ≤ 140737488351232 := by
      intro j f y s hj hy hx
      have hm : s.data.toList.length ∈ x.1.weights Tryd.prog 27 := by
        rw [hd]
        exact weights_fld he (j := j) (f := f) (d := y.1) hj (by rw [List.getElem?_map, hy]; rfl) _ (by rw [hx]; exact reach_str)
      have := hwt _ hm
      rw [hr4] at this; exact this
    obtain ⟨n0, q0, x0, w0⟩ := DataW.trod_int Tryd.underlying3 h0
    obtain ⟨n1, q1, x1, w1⟩ := DataW.trod_int Tryd.underlying3 h1
    obtain ⟨n2, q2, x2, w2⟩ := DataW.trod_int Tryd.underlying3 h2
    obtain ⟨s3, q3, x3, -⟩ := DataW.trod_string Tryd.underlying9 h3
    obtain ⟨s4, q4, x4, -⟩ := DataW.trod_string Tryd.underlying9 h4
    obtain ⟨n5, q5, x5, w5⟩ := DataW.trod_int Tryd.underlying3 h5
    obtain ⟨n6, q6, x6, w6⟩ := DataW.trod_int Tryd.underlying3 h6
    simp only [List.cons.injEq, and_true] at q0 q1 q2 q3 q4 q5 q6
    subst q0 q1 q2 q3 q4 q5 q6
    refine ⟨⟨n0, n1, n2, s3.data.toList, s4.data.toList, n5, n6⟩, ?_, ⟨W 3 f3 y3 s3 rfl z3 (by rw [x3]), W 4 f4 y4 s4 rfl z4 (by rw [x4])⟩, w0, w1, w2, w5, w6⟩
    unfold metA
    simp only [bs_of]
end
end Go.Proofs.YtdcbmjihpjnbbaaDoor
/- Lists of nodes of the call's own. -/
set_option linter.unusedVariables false
set_option maxRecDepth 100000
namespace Go.Proofs.YtdcbmjihpjnbbaaDoor
open Go.RowKit
open Go.OpenShut
/-- a node's cells, the slice of its data being v -/
def nodV (x : NodeV) (v : Value) : List Value :=
  [.string (bs x.path), .int .i64 x.kind, .int .i64 x.same, .string (bs x.target), .int .i64 x.md.mode, .int .i64 x.md.uid, .int .i64 x.md.gid, .string (bs x.md.user), .string (bs x.md.group), .int .i64 x.md.second, .int .i64 x.md.nano, v]
abbrev NodP := NodeV × Value
def rowN (xs : List NodP) : List Value := xs.flatMap fun x => nodV x.1 x.2
/-- the slice v bears the data l in memory -/
def DatOk (w : World) (v : Value) (l : List UInt8) : Prop := ∃ D c, v = .slice D l.length c ∧ SlOk D l.length c ∧ BytsAt w D l
theorem DatOk.below {w w' : World} {v : Value} {l : List UInt8} (h : DatOk w v l) (hb : Below w.heap.size w w') : DatOk w' v l := by
  obtain ⟨D, c, e, h1, h2⟩ := h
  exact ⟨D, c, e, h1, h2.below hb⟩
theorem OwnB.dat {w : World} {B : Nat} {v : Value} {l : List UInt8} (h : OwnB w B v l) : DatOk w v l := h.form
theorem DatOk.nil (w : World) : DatOk w (.slice none 0 0) [] := ⟨none, 0, rfl, ⟨Nat.le_refl _, by decide, fun _ => rfl⟩, BytsAt.nil _ _⟩
/-- a row of bytes is kept where another row grows -/
theorem OwnB.grown {w w' : World} {B : Nat} {v : Value} {l : List UInt8} {row : Option Nat} (h : OwnB w B v l) (hg : w.grownBy w' row) (hr : ∀ g, v.ownBlock = some g → row ≠ some g) : OwnB w' B v l :=
  own_heap h fun g e => hg.block g (World.ownsRow.lt h g e).2 (fun e2 => hr g e e2.symm)
end Go.Proofs.YtdcbmjihpjnbbaaDoor
