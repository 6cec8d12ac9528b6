/- Texts of one kind, in one file: NodA, NodB. -/
import Derived.Test.YtoikpnjnljdpaaaGreatDoorMet
import Derived.Test.YtoikpnjnljdpaaaGreatDoorBas
/- Nodes in memory; arguments that are nodes, and lists of them. -/
set_option linter.unusedVariables false
set_option maxRecDepth 100000
namespace Go.Proofs.YtoikpnjnljdpaaaGreatDoor
open Go.RowKit
open Go.OpenShut
open Go.ChangeShapes Go.WideShapes Go.Deep
theorem list12 {α : Type} {l : List α} (h : l.length = 12) : ∃ c0 c1 c2 c3 c4 c5 c6 c7 c8 c9 c10 c11, l = [c0, c1, c2, c3, c4, c5, c6, c7, c8, c9, c10, c11] := by
  match l, h with
  | [c0, c1, c2, c3, c4, c5, c6, c7, c8, c9, c10, c11], _ => exact ⟨_, _, _, _, _, _, _, _, _, _, _, _, rfl⟩
theorem list6 {α : Type} {l : List α} (h : l.length = 6) : ∃ c0 c1 c2 c3 c4 c5, l = [c0, c1, c2, c3, c4, c5] := by
  match l, h with
  | [c0, c1, c2, c3, c4, c5], _ => exact ⟨_, _, _, _, _, _, rfl⟩
/-- a node's cells, its data lying at D with room for c -/
def nodC (x : NodeV) (D : Option Addr) (c : Nat) : List Value :=
  [.string (bs x.path), .int .i64 x.kind, .int .i64 x.same, .string (bs x.target), .int .i64 x.md.mode, .int .i64 x.md.uid, .int .i64 x.md.gid, .string (bs x.md.user), .string (bs x.md.group), .int .i64 x.md.second, .int .i64 x.md.nano, .slice D x.data.length c]
theorem nodC_length (x : NodeV) (D : Option Addr) (c : Nat) : (nodC x D c).length = 12 := rfl
/-- nodes in memory -/
def NodesAt (w : World) (A : Option Addr) (l : List NodeV) : Prop :=
  ∀ j (hj : j < l.length), ∃ (b o : Nat) (D : Option Addr) (c : Nat), A = some ⟨b, o, none⟩ ∧ (∀ i, i < 12 → w.cell? ⟨b, o + j * 12 + i, none⟩ = (nodC l[j] D c)[i]?) ∧ SlOk D l[j].data.length c ∧ BytsAt w D l[j].data
theorem NodesAt.nil (w : World) (A : Option Addr) : NodesAt w A [] := fun j hj => by simp at hj
theorem NodesAt.below {w w' : World} {A : Option Addr} {l : List NodeV} (h : NodesAt w A l) (hb : Below w.heap.size w w') : NodesAt w' A l := fun j hj => by
  obtain ⟨b, o, D, c, e, h12, hs, hd⟩ := h j hj
  have hlt : b < w.heap.size := World.block_lt_of_cell? w _ (h12 0 (by omega))
  exact ⟨b, o, D, c, e, fun i hi => (hb.cell (p := ⟨b, o + j * 12 + i, none⟩) hlt).trans (h12 i hi), hs, hd.below hb⟩
def NodeV.wf (x : NodeV) : Prop := (x.path.length ≤ 140737488351232 ∧ x.target.length ≤ 140737488351232 ∧ x.data.length ≤ 140737488351232) ∧ x.md.wf ∧ (Lit.int .i64 x.kind).wf = true ∧ (Lit.int .i64 x.same).wf = true
section
variable {H : Type} {enc : TypeId × Value → H} {w : World} {base : Nat} {spare : Nat → Bool} {held : Bool}
/-- a struct's fields, each of one cell, as they lie -/
theorem struct_flds {P : Program} {e : TypeId} {fs : Array Field} {fuel : Nat} {cs : List Value} {x : DataW H × List MemPlace} (he : P.underlying e = some (.struct fs))
    (hone : oneCellFields P fs = true) (hC : P.cellsOf e = fs.size) (h : DataW.trod enc P w base spare held fuel e cs = some x) :
    ∃ (ys : List (DataW H × List MemPlace)) (n : Nat), x.1 = .agg (ys.map (·.1)) ∧ cs.length = fs.size ∧
      ∀ (j : Nat) (f : Field), fs[j]? = some f → ∃ (v : Value) (y : DataW H × List MemPlace), cs[j]? = some v ∧ ys[j]? = some y ∧ DataW.trod enc P w base spare held n f.type [v] = some y := by
  obtain ⟨ys, n', hn', hy, hlen, hyl, hf⟩ := DataW.trod_struct he h
  rw [hC] at hlen
  subst hy
  refine ⟨ys, n', rfl, hlen, fun j f hj => ?_⟩
  obtain ⟨ho, hk⟩ := hone_of hone j f hj
  have hjl : j < fs.size := (Array.getElem?_eq_some_iff.1 hj).1
  have hv : cs[j]? = some (cs[j]'(by omega)) := List.getElem?_eq_getElem (by omega)
  have h1 := hf j f hj
  rw [ho, hk] at h1
  have hone' : (cs.drop j).take 1 = [cs[j]'(by omega)] := by
    rw [List.drop_eq_getElem_cons (by omega)]
    rfl
  rw [hone'] at h1
  have hys : ys[j]? = some (ys[j]'(by omega)) := List.getElem?_eq_getElem (by omega)
  exact ⟨_, _, hv, hys, h1.trans hys⟩
theorem meta_of {fuel : Nat} {cs : List Value} {x : DataW H × List MemPlace} (h : DataW.trod enc Tryz.prog w base spare held fuel 42 cs = some x) (hwt : ∀ y ∈ x.1.weights Tryz.prog 42, y ≤ reachBytes) :
    ∃ m : MetaV, cs = (metA m).toList ∧ m.wf := by
  obtain ⟨f0, f1, f2, f3, f4, f5, f6, he, ⟨t0, t1, t2, t3, t4, t5, t6⟩, hone⟩ := meta_flds
  obtain ⟨ys, n, hd, hcs, hf⟩ := struct_flds he hone (by kernel_rfl) h
  have hr4 : reachBytes = 140737488351232 := rfl
  match cs, hcs with
  | [c0, c1, c2, c3, c4, c5, c6], _ =>
    obtain ⟨_, y0, e0, z0, h0⟩ := hf 0 f0 rfl
    obtain ⟨_, y1, e1, z1, h1⟩ := hf 1 f1 rfl
    obtain ⟨_, y2, e2, z2, h2⟩ := hf 2 f2 rfl
    obtain ⟨_, y3, e3, z3, h3⟩ := hf 3 f3 rfl
    obtain ⟨_, y4, e4, z4, h4⟩ := hf 4 f4 rfl
    obtain ⟨_, y5, e5, z5, h5⟩ := hf 5 f5 rfl
    obtain ⟨_, y6, e6, z6, h6⟩ := hf 6 f6 rfl
    cases e0; cases e1; cases e2; cases e3; cases e4; cases e5; cases e6
    rw [t0] at h0
    rw [t1] at h1
    rw [t2] at h2
    rw [t3] at h3
    rw [t4] at h4
    rw [t5] at h5
    rw [t6] at h6
    have W : ∀ (j : Nat) (f : Field) (y : DataW H × List MemPlace) (s : ByteArray), (#[f0, f1, f2, f3, f4, f5, f6] : Array Field)[j]? = some f → ys[j]? = some y → y.1 = .lit (.string s.data.toList) → s.data.toList.length ≤ 140737488351232 := by
      intro j f y s hj hy hx
      have hm : s.data.toList.length ∈ x.1.weights Tryz.prog 42 := by
        rw [hd]
        exact weights_fld he (j := j) (f := f) (d := y.1) hj (by rw [List.getElem?_map, hy]; rfl) _ (by rw [hx]; exact reach_str)
      have := hwt _ hm
      rw [hr4] at this; exact this
    obtain ⟨n0, q0, x0, w0⟩ := DataW.trod_int Tryz.underlying3 h0
    obtain ⟨n1, q1, x1, w1⟩ := DataW.trod_int Tryz.underlying3 h1
    obtain ⟨n2, q2, x2, w2⟩ := DataW.trod_int Tryz.underlying3 h2
    obtain ⟨s3, q3, x3, -⟩ := DataW.trod_string Tryz.underlying9 h3
    obtain ⟨s4, q4, x4, -⟩ := DataW.trod_string Tryz.underlying9 h4
    obtain ⟨n5, q5, x5, w5⟩ := DataW.trod_int Tryz.underlying3 h5
    obtain ⟨n6, q6, x6, w6⟩ := DataW.trod_int Tryz.underlying3 h6
    simp only [List.cons.injEq, and_true] at q0 q1 q2 q3 q4 q5 q6
    subst q0 q1 q2 q3 q4 q5 q6
    refine ⟨⟨n0, n1, n2, s3.data.toList, s4.data.toList, n5, n6⟩, ?_, ⟨W 3 f3 y3 s3 rfl z3 (by rw [x3]), W 4 f4 y4 s4 rfl z4 (by rw [x4])⟩, w0, w1, w2, w5, w6⟩
    unfold metA
    simp only [bs_of]
theorem node_flds : ∃ f0 f1 f2 f3 f4 f5 : Field, Tryz.prog.underlying 51 = some (.struct #[f0, f1, f2, f3, f4, f5]) ∧
    (f0.type = 9 ∧ f1.type = 3 ∧ f2.type = 3 ∧ f3.type = 9 ∧ f4.type = 42 ∧ f5.type = 43) ∧ (f0.offset = 0 ∧ f1.offset = 1 ∧ f2.offset = 2 ∧ f3.offset = 3 ∧ f4.offset = 4 ∧ f5.offset = 11) :=
  ⟨_, _, _, _, _, _, Tryz.underlying51, ⟨rfl, rfl, rfl, rfl, rfl, rfl⟩, ⟨rfl, rfl, rfl, rfl, rfl, rfl⟩⟩
theorem node_of {fuel : Nat} {cs : List Value} {x : DataW H × List MemPlace} (h : DataW.trod enc Tryz.prog w base spare held fuel 51 cs = some x) (hwt : ∀ y ∈ x.1.weights Tryz.prog 51, y ≤ reachBytes) :
    ∃ (n : NodeV) (D : Option Addr) (c : Nat), cs = nodC n D c ∧ n.wf ∧ SlOk D n.data.length c ∧ BytsAt w D n.data := by
  obtain ⟨f0, f1, f2, f3, f4, f5, he, ⟨t0, t1, t2, t3, t4, t5⟩, o0, o1, o2, o3, o4, o5⟩ := node_flds
  obtain ⟨ys, n', hn', hy, hlen, hyl, hf⟩ := DataW.trod_struct he h
  rw [show Tryz.prog.cellsOf 51 = 12 by kernel_rfl] at hlen
  have ks : Tryz.prog.cellsOf 9 = 1 := by kernel_rfl
  have ki : Tryz.prog.cellsOf 3 = 1 := by kernel_rfl
  have km : Tryz.prog.cellsOf 42 = 7 := by kernel_rfl
  have kb : Tryz.prog.cellsOf 43 = 1 := by kernel_rfl
  have hd : x.1 = .agg (ys.map (·.1)) := by rw [hy]
  have hr4 : reachBytes = 140737488351232 := rfl
  obtain ⟨c0, c1, c2, c3, c4, c5, c6, c7, c8, c9, c10, c11, rfl⟩ := list12 hlen
  obtain ⟨y0, y1, y2, y3, y4, y5, rfl⟩ := list6 hyl
  have h0 := hf 0 f0 rfl
  have h1 := hf 1 f1 rfl
  have h2 := hf 2 f2 rfl
  have h3 := hf 3 f3 rfl
  have h4 := hf 4 f4 rfl
  have h5 := hf 5 f5 rfl
  rw [t0, o0, ks] at h0
  rw [t1, o1, ki] at h1
  rw [t2, o2, ki] at h2
  rw [t3, o3, ks] at h3
  rw [t4, o4, km] at h4
  rw [t5, o5, kb] at h5
  have W0 : ∀ (j : Nat) (f : Field) (y : DataW H × List MemPlace), (#[f0, f1, f2, f3, f4, f5] : Array Field)[j]? = some f → [y0, y1, y2, y3, y4, y5][j]? = some y → ∀ z ∈ y.1.weights Tryz.prog f.type, z ≤ reachBytes := by
    intro j f y hj hy' z hz
    refine hwt _ ?_
    rw [hd]
    exact weights_fld he (j := j) (f := f) (d := y.1) hj (by rw [List.getElem?_map, hy']; rfl) _ hz
  have W : ∀ (j : Nat) (f : Field) (y : DataW H × List MemPlace) (s : ByteArray), (#[f0, f1, f2, f3, f4, f5] : Array Field)[j]? = some f → [y0, y1, y2, y3, y4, y5][j]? = some y → y.1 = .lit (.string s.data.toList) → s.data.toList.length ≤ 140737488351232 := by
    intro j f y s hj hy' hx
    have := W0 j f y hj hy' s.data.toList.length (by rw [hx]; exact reach_str)
    rw [hr4] at this; exact this
  obtain ⟨s0, q0, x0, -⟩ := DataW.trod_string Tryz.underlying9 (show DataW.trod enc Tryz.prog w base spare held n' 9 [c0] = some y0 from h0)
  obtain ⟨n1, q1, x1, w1⟩ := DataW.trod_int Tryz.underlying3 (show DataW.trod enc Tryz.prog w base spare held n' 3 [c1] = some y1 from h1)
  obtain ⟨n2, q2, x2, w2⟩ := DataW.trod_int Tryz.underlying3 (show DataW.trod enc Tryz.prog w base spare held n' 3 [c2] = some y2 from h2)
  obtain ⟨s3, q3, x3, -⟩ := DataW.trod_string Tryz.underlying9 (show DataW.trod enc Tryz.prog w base spare held n' 9 [c3] = some y3 from h3)
  have W4 := W0 4 f4 y4 rfl rfl
  have W5 := W0 5 f5 y5 rfl rfl
  rw [t4] at W4
  rw [t5] at W5
  obtain ⟨md, q4, w4⟩ := meta_of (show DataW.trod enc Tryz.prog w base spare held n' 42 [c4, c5, c6, c7, c8, c9, c10] = some y4 from h4) W4
  obtain ⟨D, m, c, l, q5, hl, hm, hs, hb⟩ := byts_of (show DataW.trod enc Tryz.prog w base spare held n' 43 [c11] = some y5 from h5) W5
  simp only [List.cons.injEq, and_true] at q0 q1 q2 q3 q5
  unfold metA at q4
  simp only [List.cons.injEq, and_true] at q4
  obtain ⟨k4, k5, k6, k7, k8, k9, k10⟩ := q4
  subst q0 q1 q2 q3 q5 k4 k5 k6 k7 k8 k9 k10 hl
  refine ⟨⟨s0.data.toList, n1, n2, s3.data.toList, md, l⟩, D, c, ?_, ⟨⟨W 0 f0 y0 s0 rfl rfl (by rw [x0]), W 3 f3 y3 s3 rfl rfl (by rw [x3]), hm⟩, w4, w1, w2⟩, hs, hb⟩
  unfold nodC
  simp only [bs_of]
theorem open_node {r : Reach} {b0 : Nat} {v : Value} {d : DataW H} {p : List MemPlace} (hv : Value.okWide Tryz.prog w r b0 51 v) (h : DataW.Trod enc Tryz.prog w base spare held 51 v d p) (hwt : ∀ x ∈ d.weights Tryz.prog 51, x ≤ reachBytes) :
    ∃ (a : NodeV) (D : Option Addr) (c : Nat), v = .agg (nodC a D c).toArray ∧ a.wf ∧ SlOk D a.data.length c ∧ BytsAt w D a.data := by
  obtain ⟨f0, f1, f2, f3, f4, f5, he, -⟩ := node_flds
  obtain ⟨cs, rfl, hsz⟩ := okWide_struct he hv
  obtain ⟨fuel, hf⟩ := h
  obtain ⟨n, D, c, e, h1, h2, h3⟩ := node_of (show DataW.trod enc Tryz.prog w base spare held fuel 51 cs.toList = some (d, p) from hf) hwt
  exact ⟨n, D, c, by rw [← e], h1, h2, h3⟩
theorem open_nodes {v : Value} {d : DataW H} {p : List MemPlace} (hv : ∃ a len cap, v = .slice a len cap) (h : DataW.Trod enc Tryz.prog w base spare held 22 v d p) (hwt : ∀ x ∈ d.weights Tryz.prog 22, x ≤ reachBytes) :
    ∃ (A : Option Addr) (n c : Nat) (l : List NodeV), v = .slice A n c ∧ l.length = n ∧ n * 144 ≤ 140737488351232 ∧ (∀ r ∈ l, r.wf) ∧ SlOk A n c ∧ NodesAt w A l := by
  obtain ⟨a0, len0, cap0, rfl⟩ := hv
  obtain ⟨fuel, hf⟩ := h
  rcases open_slice Tryz.underlying22 hf with ⟨hcs, hx⟩ | ⟨a, len, cap, m, n', D, Pl, hcs, hb, hl, hm, hmm, hx, hi⟩
  · simp only [Value.cells, List.cons.injEq, Value.slice.injEq, and_true] at hcs
    obtain ⟨rfl, rfl, rfl⟩ := hcs
    exact ⟨none, 0, 0, [], rfl, rfl, by omega, (fun r hr => by simp at hr), ⟨Nat.le_refl _, by decide, fun _ => rfl⟩, NodesAt.nil _ _⟩
  · simp only [Value.cells, List.cons.injEq, Value.slice.injEq, and_true] at hcs
    obtain ⟨rfl, rfl, rfl⟩ := hcs
    have hlm : len0 ≤ m := by rw [hmm]; split <;> omega
    simp only [Prod.mk.injEq] at hx
    obtain ⟨hxd, -⟩ := hx
    subst hxd
    have hr4 : reachBytes = 140737488351232 := rfl
    have hn : len0 * 144 ≤ 140737488351232 := by
      have h1 := hwt _ (weights_len Tryz.underlying22)
      rw [hr4] at h1
      have h2 : Tryz.prog.bytesOf 51 = 144 := by kernel_rfl
      rw [h2] at h1
      simp only [List.length_map, List.length_range] at h1
      omega
    have key : ∀ i, i < len0 → ∃ y : NodeV × Option Addr × Nat, y.1.wf ∧ SlOk y.2.1 y.1.data.length y.2.2 ∧ BytsAt w y.2.1 y.1.data ∧ ∀ j, j < 12 → w.cell? (a.add (i * 12 + j)) = (nodC y.1 y.2.1 y.2.2)[j]? := fun i hil => by
      obtain ⟨cs', hc, ht'⟩ := hi i (by omega)
      rw [show Tryz.prog.cellsOf 51 = 12 by kernel_rfl] at hc
      obtain ⟨_, hcl, hat⟩ := World.cells?_some hc
      obtain ⟨n, Dd, c, e, h1, h2, h3⟩ := node_of ht' (fun y hy => hwt _ (weights_slice Tryz.underlying22 (d := D i) (List.mem_map.2 ⟨i, List.mem_range.2 hil, rfl⟩) _ hy))
      refine ⟨⟨n, Dd, c⟩, h1, h2, h3, fun j hj => ?_⟩
      rw [← Go.Deep.add_add, hat j hj, e]
    obtain ⟨f, hfx⟩ := choose_lt key
    refine ⟨some a, len0, cap0, (List.range len0).map fun i => (f i).1, rfl, by simp, hn, fun r hr => ?_, ⟨hl, hm, fun e => by cases e⟩, fun j hj => ?_⟩
    · obtain ⟨i, hi1, rfl⟩ := List.mem_map.1 hr
      exact (hfx i (List.mem_range.1 hi1)).1
    · have hj' : j < len0 := by simpa using hj
      obtain ⟨b, o, sp⟩ := a
      have hsp : sp = none := by
        have h0 := (hfx 0 (by omega)).2.2.2 0 (by omega)
        have h1 : w.cell? (Addr.mk b o sp) = some (.string (bs (f 0).1.path)) := by simpa [Addr.add, nodC] using h0
        simpa using World.cell?_spot h1
      subst hsp
      obtain ⟨k1, k2, k3, k4⟩ := hfx j hj'
      rw [List.getElem_map, List.getElem_range]
      refine ⟨b, o, (f j).2.1, (f j).2.2, rfl, fun i hi12 => ?_, k2, k3⟩
      rw [← k4 i hi12]
      unfold Addr.add
      split
      · rename_i h; congr 1; first | (simp; done) | (simp; omega)
      · congr 1; first | (simp; done) | (simp; omega)
end
end Go.Proofs.YtoikpnjnljdpaaaGreatDoor
/- Lists of nodes of the call's own. -/
set_option linter.unusedVariables false
set_option maxRecDepth 100000
namespace Go.Proofs.YtoikpnjnljdpaaaGreatDoor
open Go.RowKit
open Go.OpenShut
/-- a node's cells, the slice of its data being v -/
def nodV (x : NodeV) (v : Value) : List Value :=
  [.string (bs x.path), .int .i64 x.kind, .int .i64 x.same, .string (bs x.target), .int .i64 x.md.mode, .int .i64 x.md.uid, .int .i64 x.md.gid, .string (bs x.md.user), .string (bs x.md.group), .int .i64 x.md.second, .int .i64 x.md.nano, v]
theorem nodC_eq (x : NodeV) (D : Option Addr) (c : Nat) : nodC x D c = nodV x (.slice D x.data.length c) := rfl
theorem nodV_length (x : NodeV) (v : Value) : (nodV x v).length = 12 := rfl
theorem nodV_one (x : NodeV) (D : Option Addr) (n c : Nat) : ∀ u ∈ nodV x (.slice D n c), u.oneCell' = true := by
  intro u hu
  simp only [nodV, List.mem_cons, List.not_mem_nil, or_false] at hu
  rcases hu with rfl | rfl | rfl | rfl | rfl | rfl | rfl | rfl | rfl | rfl | rfl | rfl <;> rfl
abbrev NodP := NodeV × Value
def rowN (xs : List NodP) : List Value := xs.flatMap fun x => nodV x.1 x.2
theorem rowN_nil : rowN [] = [] := rfl
theorem rowN_app (xs ys : List NodP) : rowN (xs ++ ys) = rowN xs ++ rowN ys := by simp [rowN]
theorem rowN_one (x : NodP) : rowN [x] = nodV x.1 x.2 := by simp [rowN]
theorem rowN_length (xs : List NodP) : (rowN xs).length = xs.length * 12 := by
  induction xs with
  | nil => rfl
  | cons x xs ih =>
    have e : rowN (x :: xs) = nodV x.1 x.2 ++ rowN xs := rfl
    rw [e, List.length_append, nodV_length, ih, List.length_cons]; omega
theorem rowN_get (xs : List NodP) (j i : Nat) (hj : j < xs.length) (hi : i < 12) : (rowN xs)[j * 12 + i]? = (nodV xs[j].1 xs[j].2)[i]? := by
  induction xs generalizing j with
  | nil => simp at hj
  | cons x xs ih =>
    have e : rowN (x :: xs) = nodV x.1 x.2 ++ rowN xs := rfl
    rw [e]
    cases j with
    | zero => rw [List.getElem?_append_left (by rw [nodV_length]; omega)]; simp
    | succ j =>
      rw [List.getElem?_append_right (by rw [nodV_length]; omega), nodV_length, show (j + 1) * 12 + i - 12 = j * 12 + i by omega, ih j (by simpa using hj)]; rfl
theorem rowN_set (xs : List NodP) (j : Nat) (v : Value) (hj : j < xs.length) : (rowN xs).set (j * 12 + 11) v = rowN (xs.set j (xs[j].1, v)) := by
  induction xs generalizing j with
  | nil => simp at hj
  | cons x xs ih =>
    have e : ∀ (y : NodP) (ys : List NodP), rowN (y :: ys) = nodV y.1 y.2 ++ rowN ys := fun _ _ => rfl
    rw [e]
    cases j with
    | zero =>
      rw [Nat.zero_mul, Nat.zero_add, List.set_append_left _ _ (by rw [nodV_length]; omega)]
      simp only [List.getElem_cons_zero, List.set_cons_zero]
      rw [e]; rfl
    | succ j =>
      rw [List.set_append_right _ _ (by rw [nodV_length]; omega), nodV_length, show (j + 1) * 12 + 11 - 12 = j * 12 + 11 by omega]
      simp only [List.getElem_cons_succ, List.set_cons_succ]
      rw [ih j (by simpa using hj), e]
/-- the slice v bears the data l in memory -/
def DatOk (w : World) (v : Value) (l : List UInt8) : Prop := ∃ D c, v = .slice D l.length c ∧ SlOk D l.length c ∧ BytsAt w D l
theorem DatOk.below {w w' : World} {v : Value} {l : List UInt8} (h : DatOk w v l) (hb : Below w.heap.size w w') : DatOk w' v l := by
  obtain ⟨D, c, e, h1, h2⟩ := h
  exact ⟨D, c, e, h1, h2.below hb⟩
theorem OwnB.dat {w : World} {B : Nat} {v : Value} {l : List UInt8} (h : OwnB w B v l) : DatOk w v l := h.form
theorem DatOk.nil (w : World) : DatOk w (.slice none 0 0) [] := ⟨none, 0, rfl, ⟨Nat.le_refl _, by decide, fun _ => rfl⟩, BytsAt.nil _ _⟩
/-- a row of nodes of the call's own -/
def RowN (w : World) (B : Nat) (v : Value) (xs : List NodP) : Prop := w.ownsRow B 51 12 v xs.length (rowN xs)
theorem RowN.nil (w : World) (B : Nat) : RowN w B (.slice none 0 0) [] := World.ownsRow_nil _ _ _ _
theorem RowN.below {w w' : World} {B : Nat} {v : Value} {xs : List NodP} (h : RowN w B v xs) (hb : Below w.heap.size w w') : RowN w' B v xs :=
  own_heap h fun g hg => hb.block g (World.ownsRow.lt h g hg).2
theorem RowN.drewN {w : World} {B n : Nat} {v : Value} {xs : List NodP} (h : RowN w B v xs) : RowN (w.drewN n) B v xs := h
theorem RowN.alloc {w : World} {B : Nat} {v : Value} {xs : List NodP} (h : RowN w B v xs) (o : Obj) : RowN (w.alloc o) B v xs := World.ownsRow.alloc h o
theorem RowN.form {w : World} {B : Nat} {v : Value} {xs : List NodP} (h : RowN w B v xs) : ∃ A c, v = .slice A xs.length c ∧ SlOk A xs.length c := by
  unfold RowN World.ownsRow at h
  rcases h.2 with ⟨rfl, h0⟩ | ⟨g, cap, cur, rfl, hB, hg, hcap, hm, hs, ht⟩
  · rw [h0]; exact ⟨none, 0, rfl, ⟨Nat.le_refl _, by decide, fun _ => rfl⟩⟩
  · exact ⟨some ⟨g, 0, none⟩, cap, rfl, ⟨hcap, hm, fun e => by cases e⟩⟩
theorem RowN.at {w : World} {B : Nat} {v : Value} {xs : List NodP} (h : RowN w B v xs) (hd : ∀ x ∈ xs, DatOk w x.2 x.1.data) : ∃ A c, v = .slice A xs.length c ∧ SlOk A xs.length c ∧ NodesAt w A (xs.map (·.1)) := by
  have h' := h
  unfold RowN World.ownsRow at h
  rcases h.2 with ⟨rfl, h0⟩ | ⟨g, cap, cur, rfl, hB, hg, hcap, hm, hs, ht⟩
  · have e := List.eq_nil_of_length_eq_zero h0
    subst e
    exact ⟨none, 0, rfl, ⟨Nat.le_refl _, by decide, fun _ => rfl⟩, NodesAt.nil _ _⟩
  · refine ⟨some ⟨g, 0, none⟩, cap, rfl, ⟨hcap, hm, fun e => by cases e⟩, fun j hj => ?_⟩
    have hj' : j < xs.length := by simpa using hj
    obtain ⟨D, c, e, h1, h2⟩ := hd _ (List.getElem_mem hj')
    rw [List.getElem_map]
    refine ⟨g, 0, D, c, rfl, fun i hi => ?_, h1, h2⟩
    rw [Nat.zero_add, World.ownsRow.cellAt h' (j * 12 + i) (by omega), rowN_get xs j i hj' hi, e]; rfl
/-- a list of nodes of the call's own, their data too -/
def OwnN (w : World) (B : Nat) (v : Value) (xs : List NodP) : Prop := RowN w B v xs ∧ ∀ x ∈ xs, OwnB w B x.2 x.1.data
theorem OwnN.nil (w : World) (B : Nat) : OwnN w B (.slice none 0 0) [] := ⟨RowN.nil _ _, fun x hx => by simp at hx⟩
theorem OwnN.below {w w' : World} {B : Nat} {v : Value} {xs : List NodP} (h : OwnN w B v xs) (hb : Below w.heap.size w w') : OwnN w' B v xs := ⟨h.1.below hb, fun x hx => (h.2 x hx).below hb⟩
theorem OwnN.at {w : World} {B : Nat} {v : Value} {xs : List NodP} (h : OwnN w B v xs) : ∃ A c, v = .slice A xs.length c ∧ SlOk A xs.length c ∧ NodesAt w A (xs.map (·.1)) := h.1.at fun x hx => (h.2 x hx).dat
theorem RowN.mono {w : World} {B B' : Nat} {v : Value} {xs : List NodP} (h : RowN w B v xs) (hB : B' ≤ B) : RowN w B' v xs := own_mono h hB
theorem OwnN.mono {w : World} {B B' : Nat} {v : Value} {xs : List NodP} (h : OwnN w B v xs) (hB : B' ≤ B) : OwnN w B' v xs := ⟨h.1.mono hB, fun x hx => (h.2 x hx).mono hB⟩
/-- rows of bytes are no rows of nodes -/
theorem own_apart {w : World} {B B' : Nat} {v u : Value} {l : List UInt8} {xs : List NodP} (h : OwnB w B v l) (h' : RowN w B' u xs) : ∀ g, v.ownBlock = some g → u.ownBlock ≠ some g := by
  intro g hg hu
  obtain ⟨-, c1, e1⟩ := own_block h g hg
  obtain ⟨-, c2, e2⟩ := own_block h' g hu
  rw [e1] at e2
  simp only [Option.some.injEq, Obj.cells.injEq] at e2
  exact absurd e2.2.1 (by decide)
/-- a row of bytes is kept where another row grows -/
theorem OwnB.grown {w w' : World} {B : Nat} {v : Value} {l : List UInt8} {row : Option Nat} (h : OwnB w B v l) (hg : w.grownBy w' row) (hr : ∀ g, v.ownBlock = some g → row ≠ some g) : OwnB w' B v l :=
  own_heap h fun g e => hg.block g (World.ownsRow.lt h g e).2 (fun e2 => hr g e e2.symm)
theorem ninfo : (Tryz.prog.info? 51).map (fun i => (i.zero.map (fun v => v.cells.size), i.size, i.bytes)) = some (some 12, 12, 144) := by kernel_rfl
end Go.Proofs.YtoikpnjnljdpaaaGreatDoor
