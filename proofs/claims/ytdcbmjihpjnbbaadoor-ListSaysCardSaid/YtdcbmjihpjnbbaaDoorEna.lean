/- Texts of one kind, in one file: EntA, EntB, EntD, EntC, EntE, EntF, EntT. -/
import Derived.Test.YtdcbmjihpjnbbaaDoorNoa
import Derived.Test.YtdcbmjihpjnbbaaDoorMth
import Derived.Test.YtdcbmjihpjnbbaaDoorNod
import Derived.Deep.DeepCutAuto
import Derived.Test.YtdcbmjihpjnbbaaDoorTrgE
/- Members in memory; arguments that are members, and lists of them. -/
set_option linter.unusedVariables false
set_option maxRecDepth 100000
namespace Go.Proofs.YtdcbmjihpjnbbaaDoor
open Go.RowKit
open Go.OpenShut
open Go.ChangeShapes Go.WideShapes Go.Deep
theorem list11 {α : Type} {l : List α} (h : l.length = 11) : ∃ c0 c1 c2 c3 c4 c5 c6 c7 c8 c9 c10, l = [c0, c1, c2, c3, c4, c5, c6, c7, c8, c9, c10] := by
  match l, h with
  | [c0, c1, c2, c3, c4, c5, c6, c7, c8, c9, c10], _ => exact ⟨_, _, _, _, _, _, _, _, _, _, _, rfl⟩
theorem list5 {α : Type} {l : List α} (h : l.length = 5) : ∃ c0 c1 c2 c3 c4, l = [c0, c1, c2, c3, c4] := by
  match l, h with
  | [c0, c1, c2, c3, c4], _ => exact ⟨_, _, _, _, _, rfl⟩
/-- a member's cells, its data lying at D with room for c -/
def entC (x : EntV) (D : Option Addr) (c : Nat) : List Value :=
  [.string (bs x.path), .int .i64 x.kind, .string (bs x.target), .int .i64 x.md.mode, .int .i64 x.md.uid, .int .i64 x.md.gid, .string (bs x.md.user), .string (bs x.md.group), .int .i64 x.md.second, .int .i64 x.md.nano, .slice D x.data.length c]
/-- members in memory -/
def EntsAt (w : World) (A : Option Addr) (l : List EntV) : Prop :=
  ∀ j (hj : j < l.length), ∃ (b o : Nat) (D : Option Addr) (c : Nat), A = some ⟨b, o, none⟩ ∧ (∀ i, i < 11 → w.cell? ⟨b, o + j * 11 + i, none⟩ = (entC l[j] D c)[i]?) ∧ SlOk D l[j].data.length c ∧ BytsAt w D l[j].data
theorem EntsAt.nil (w : World) (A : Option Addr) : EntsAt w A [] := fun j hj => by simp at hj
theorem EntsAt.below {w w' : World} {A : Option Addr} {l : List EntV} (h : EntsAt w A l) (hb : Below w.heap.size w w') : EntsAt w' A l := fun j hj => by
  obtain ⟨b, o, D, c, e, h11, hs, hd⟩ := h j hj
  have hlt : b < w.heap.size := World.block_lt_of_cell? w _ (h11 0 (by omega))
  exact ⟨b, o, D, c, e, fun i hi => (hb.cell (p := ⟨b, o + j * 11 + i, none⟩) hlt).trans (h11 i hi), hs, hd.below hb⟩
def EntV.wf (x : EntV) : Prop := (x.path.length ≤ 140737488351232 ∧ x.target.length ≤ 140737488351232 ∧ x.data.length ≤ 140737488351232) ∧ x.md.wf ∧ (Lit.int .i64 x.kind).wf = true
section
variable {H : Type} {enc : TypeId × Value → H} {w : World} {base : Nat} {spare : Nat → Bool} {held : Bool}
theorem ent_flds : ∃ f0 f1 f2 f3 f4 : Field, Tryd.prog.underlying 30 = some (.struct #[f0, f1, f2, f3, f4]) ∧
    (f0.type = 9 ∧ f1.type = 3 ∧ f2.type = 9 ∧ f3.type = 27 ∧ f4.type = 28) ∧ (f0.offset = 0 ∧ f1.offset = 1 ∧ f2.offset = 2 ∧ f3.offset = 3 ∧ f4.offset = 10) :=
  ⟨_, _, _, _, _, Tryd.underlying30, ⟨rfl, rfl, rfl, rfl, rfl⟩, ⟨rfl, rfl, rfl, rfl, rfl⟩⟩
theorem ent_of {fuel : Nat} {cs : List Value} {x : DataW H × List MemPlace} (h : DataW.trod enc Tryd.prog w base spare held fuel 30 cs = some x) (hwt : ∀ y ∈ x.1.weights Tryd.prog 30, y ≤ reachBytes) :
    ∃ (n : EntV) (D : Option Addr) (c : Nat), cs = entC n D c ∧ n.wf ∧ SlOk D n.data.length c ∧ BytsAt w D n.data := by
  obtain ⟨f0, f1, f2, f3, f4, he, ⟨t0, t1, t2, t3, t4⟩, o0, o1, o2, o3, o4⟩ := ent_flds
  obtain ⟨ys, n', hn', hy, hlen, hyl, hf⟩ := DataW.trod_struct he h
  rw [show Tryd.prog.cellsOf 30 = 11 by kernel_rfl] at hlen
  have ks : Tryd.prog.cellsOf 9 = 1 := by kernel_rfl
  have ki : Tryd.prog.cellsOf 3 = 1 := by kernel_rfl
  have km : Tryd.prog.cellsOf 27 = 7 := by kernel_rfl
  have kb : Tryd.prog.cellsOf 28 = 1 := by kernel_rfl
  have hd : x.1 = .agg (ys.map (·.1)) := by rw [hy]
  have hr4 : reachBytes = 140737488351232 := rfl
  obtain ⟨c0, c1, c2, c3, c4, c5, c6, c7, c8, c9, c10, c11, rfl⟩ := list11 hlen
  obtain ⟨y0, y1, y2, y3, y4, rfl⟩ := list5 hyl
  have h0 := hf 0 f0 rfl
  have h1 := hf 1 f1 rfl
  have h2 := hf 2 f2 rfl
  have h3 := hf 3 f3 rfl
  have h4 := hf 4 f4 rfl
  rw [t0, o0, ks] at h0
  rw [t1, o1, ki] at h1
  rw [t2, o2, ks] at h2
  rw [t3, o3, km] at h3
  rw [t4, o4, kb] at h4
  have W0 : ∀ (j : Nat) (f : Field) (y : DataW H × List MemPlace), (#[f0, f1, f2, f3, f4] : Array Field)[j]? = some f → [y0, y1, y2, y3, y4][j]? = some y → ∀ z ∈ y.1.weights Tryd.prog f.type, z ≤ reachBytes := by
    intro j f y hj hy' z hz
    refine hwt _ ?_
    rw [hd]
    exact weights_fld he (j := j) (f := f) (d := y.1) hj (by rw [List.getElem?_map, hy']; rfl) _ hz
  have W : ∀ (j : Nat) (f : Field) (y : DataW H × List MemPlace) (s : ByteArray), (#[f0, f1, f2, f3, f4] : Array Field)[j]? = some f → [y0, y1, y2, y3, y4][j]? = some y → y.1 = .lit (.string s.data.toList) → s.data.toList.length ≤ 140737488351232 := by
    intro j f y s hj hy' hx
    have := W0 j f y hj hy' s.data.toList.length (by rw [hx]; exact reach_str)
    rw [hr4] at this; exact this
  obtain ⟨s0, q0, x0, -⟩ := DataW.trod_string Tryd.underlying9 (show DataW.trod enc Tryd.prog w base spare held n' 9 [c0] = some y0 from h0)
  obtain ⟨n1, q1, x1, w1⟩ := DataW.trod_int Tryd.underlying3 (show DataW.trod enc Tryd.prog w base spare held n' 3 [c1] = some y1 from h1)
  obtain ⟨s2, q2, x2, -⟩ := DataW.trod_string Tryd.underlying9 (show DataW.trod enc Tryd.prog w base spare held n' 9 [c2] = some y2 from h2)
  have W3 := W0 3 f3 y3 rfl rfl
  have W4 := W0 4 f4 y4 rfl rfl
  rw [t3] at W3
  rw [t4] at W4
  obtain ⟨md, q3, w3⟩ := meta_of (show DataW.trod enc Tryd.prog w base spare held n' 27 [c3, c4, c5, c6, c7, c8, c9] = some y3 from h3) W3
  obtain ⟨D, m, c, l, q4, hl, hm, hs, hb⟩ := byts_of (show DataW.trod enc Tryd.prog w base spare held n' 28 [c10] = some y4 from h4) W4
  simp only [List.cons.injEq, and_true] at q0 q1 q2 q4
  unfold metA at q3
  simp only [List.cons.injEq, and_true] at q3
  obtain ⟨k4, k5, k6, k7, k8, k9, k10⟩ := q3
  subst q0 q1 q2 q4 k4 k5 k6 k7 k8 k9 k10 hl
  refine ⟨⟨s0.data.toList, n1, s2.data.toList, md, l⟩, D, c, ?_, ⟨⟨W 0 f0 y0 s0 rfl rfl (by rw [x0]), W 2 f2 y2 s2 rfl rfl (by rw [x2]), hm⟩, w3, w1⟩, hs, hb⟩
  unfold entC
  simp only [bs_of]
theorem open_ent {r : Reach} {b0 : Nat} {v : Value} {d : DataW H} {p : List MemPlace} (hv : Value.okWide Tryd.prog w r b0 30 v) (h : DataW.Trod enc Tryd.prog w base spare held 30 v d p) (hwt : ∀ x ∈ d.weights Tryd.prog 30, x ≤ reachBytes) :
    ∃ (a : EntV) (D : Option Addr) (c : Nat), v = .agg (entC a D c).toArray ∧ a.wf ∧ SlOk D a.data.length c ∧ BytsAt w D a.data := by
  obtain ⟨f0, f1, f2, f3, f4, he, -⟩ := ent_flds
  obtain ⟨cs, rfl, hsz⟩ := okWide_struct he hv
  obtain ⟨fuel, hf⟩ := h
  obtain ⟨n, D, c, e, h1, h2, h3⟩ := ent_of (show DataW.trod enc Tryd.prog w base spare held fuel 30 cs.toList = some (d, p) from hf) hwt
  exact ⟨n, D, c, by rw [← e], h1, h2, h3⟩
theorem open_ents {v : Value} {d : DataW H} {p : List MemPlace} (hv : ∃ a len cap, v = .slice a len cap) (h : DataW.Trod enc Tryd.prog w base spare held 31 v d p) (hwt : ∀ x ∈ d.weights Tryd.prog 31, x ≤ reachBytes) :
    ∃ (A : Option Addr) (n c : Nat) (l : List EntV), v = .slice A n c ∧ l.length = n ∧ n * 136 ≤ 140737488351232 ∧ (∀ r ∈ l, r.wf) ∧ SlOk A n c ∧ EntsAt w A l := by
  obtain ⟨a0, len0, cap0, rfl⟩ := hv
  obtain ⟨fuel, hf⟩ := h
  rcases open_slice Tryd.underlying31 hf with ⟨hcs, hx⟩ | ⟨a, len, cap, m, n', D, Pl, hcs, hb, hl, hm, hmm, hx, hi⟩
  · simp only [Value.cells, List.cons.injEq, Value.slice.injEq, and_true] at hcs
    obtain ⟨rfl, rfl, rfl⟩ := hcs
    exact ⟨none, 0, 0, [], rfl, rfl, by omega, (fun r hr => by simp at hr), ⟨Nat.le_refl _, by decide, fun _ => rfl⟩, EntsAt.nil _ _⟩
  · simp only [Value.cells, List.cons.injEq, Value.slice.injEq, and_true] at hcs
    obtain ⟨rfl, rfl, rfl⟩ := hcs
    have hlm : len0 ≤ m := by rw [hmm]; split <;> omega
    simp only [Prod.mk.injEq] at hx
    obtain ⟨hxd, -⟩ := hx
    subst hxd
    have hr4 : reachBytes = 140737488351232 := rfl
    have hn : len0 * 136 ≤ 140737488351232 := by
      have h1 := hwt _ (weights_len Tryd.underlying31)
      rw [hr4] at h1
      have h2 : Tryd.prog.bytesOf 30 = 136 := by kernel_rfl
      rw [h2] at h1
      simp only [List.length_map, List.length_range] at h1
      omega
    have key : ∀ i, i < len0 → ∃ y : EntV × Option Addr × Nat, y.1.wf ∧ SlOk y.2.1 y.1.data.length y.2.2 ∧ BytsAt w y.2.1 y.1.data ∧ ∀ j, j < 11 → w.cell? (a.add (i * 11 + j)) = (entC y.1 y.2.1 y.2.2)[j]? := fun i hil => by
      obtain ⟨cs', hc, ht'⟩ := hi i (by omega)
      rw [show Tryd.prog.cellsOf 30 = 11 by kernel_rfl] at hc
      obtain ⟨_, hcl, hat⟩ := World.cells?_some hc
      obtain ⟨n, Dd, c, e, h1, h2, h3⟩ := ent_of ht' (fun y hy => hwt _ (weights_slice Tryd.underlying31 (d := D i) (List.mem_map.2 ⟨i, List.mem_range.2 hil, rfl⟩) _ hy))
      refine ⟨⟨n, Dd, c⟩, h1, h2, h3, fun j hj => ?_⟩
      rw [← Go.Deep.add_add, hat j hj, e]
    obtain ⟨f, hfx⟩ := choose_lt key
    refine ⟨some a, len0, cap0, (List.range len0).map fun i => (f i).1, rfl, by simp, hn, fun r hr => ?_, ⟨hl, hm, fun e => by cases e⟩, fun j hj => ?_⟩
    · obtain ⟨i, hi1, rfl⟩ := List.mem_map.1 hr
      exact (hfx i (List.mem_range.1 hi1)).1
    · have hj' : j < len0 := by simpa using hj
      obtain ⟨b, o, sp⟩ := a
      have hsp : sp = none := by
        have h0 := (hfx 0 (by omega)).2.2.2 0 (by omega)
        have h1 : w.cell? (Addr.mk b o sp) = some (.string (bs (f 0).1.path)) := by simpa [Addr.add, entC] using h0
        simpa using World.cell?_spot h1
      subst hsp
      obtain ⟨k1, k2, k3, k4⟩ := hfx j hj'
      rw [List.getElem_map, List.getElem_range]
      refine ⟨b, o, (f j).2.1, (f j).2.2, rfl, fun i hi11 => ?_, k2, k3⟩
      rw [← k4 i hi11]
      unfold Addr.add
      split
      · rename_i h; congr 1; first | (simp; done) | (simp; omega)
      · congr 1; first | (simp; done) | (simp; omega)
end
end Go.Proofs.YtdcbmjihpjnbbaaDoor
/- Lists of members of the call's own. -/
set_option linter.unusedVariables false
set_option maxRecDepth 100000
namespace Go.Proofs.YtdcbmjihpjnbbaaDoor
open Go.RowKit
open Go.OpenShut
/-- a member's cells, the slice of its data being v -/
def entV (x : EntV) (v : Value) : List Value :=
  [.string (bs x.path), .int .i64 x.kind, .string (bs x.target), .int .i64 x.md.mode, .int .i64 x.md.uid, .int .i64 x.md.gid, .string (bs x.md.user), .string (bs x.md.group), .int .i64 x.md.second, .int .i64 x.md.nano, v]
theorem entC_eq (x : EntV) (D : Option Addr) (c : Nat) : entC x D c = entV x (.slice D x.data.length c) := rfl
theorem entV_length (x : EntV) (v : Value) : (entV x v).length = 11 := rfl
abbrev EntP := EntV × Value
def rowE (xs : List EntP) : List Value := xs.flatMap fun x => entV x.1 x.2
theorem rowE_length (xs : List EntP) : (rowE xs).length = xs.length * 11 := by
  induction xs with
  | nil => rfl
  | cons x xs ih =>
    have e : rowE (x :: xs) = entV x.1 x.2 ++ rowE xs := rfl
    rw [e, List.length_append, entV_length, ih, List.length_cons]; omega
theorem rowE_get (xs : List EntP) (j i : Nat) (hj : j < xs.length) (hi : i < 11) : (rowE xs)[j * 11 + i]? = (entV xs[j].1 xs[j].2)[i]? := by
  induction xs generalizing j with
  | nil => simp at hj
  | cons x xs ih =>
    have e : rowE (x :: xs) = entV x.1 x.2 ++ rowE xs := rfl
    rw [e]
    cases j with
    | zero => rw [List.getElem?_append_left (by rw [entV_length]; omega)]; simp
    | succ j =>
      rw [List.getElem?_append_right (by rw [entV_length]; omega), entV_length, show (j + 1) * 11 + i - 11 = j * 11 + i by omega, ih j (by simpa using hj)]; rfl
/-- a row of nodes of the call's own -/
def RowE (w : World) (B : Nat) (v : Value) (xs : List EntP) : Prop := w.ownsRow B 30 11 v xs.length (rowE xs)
theorem RowE.nil (w : World) (B : Nat) : RowE w B (.slice none 0 0) [] := World.ownsRow_nil _ _ _ _
theorem RowE.below {w w' : World} {B : Nat} {v : Value} {xs : List EntP} (h : RowE w B v xs) (hb : Below w.heap.size w w') : RowE w' B v xs :=
  own_heap h fun g hg => hb.block g (World.ownsRow.lt h g hg).2
theorem RowE.drewN {w : World} {B n : Nat} {v : Value} {xs : List EntP} (h : RowE w B v xs) : RowE (w.drewN n) B v xs := h
theorem RowE.alloc {w : World} {B : Nat} {v : Value} {xs : List EntP} (h : RowE w B v xs) (o : Obj) : RowE (w.alloc o) B v xs := World.ownsRow.alloc h o
theorem RowE.form {w : World} {B : Nat} {v : Value} {xs : List EntP} (h : RowE w B v xs) : ∃ A c, v = .slice A xs.length c ∧ SlOk A xs.length c := by
  unfold RowE World.ownsRow at h
  rcases h.2 with ⟨rfl, h0⟩ | ⟨g, cap, cur, rfl, hB, hg, hcap, hm, hs, ht⟩
  · rw [h0]; exact ⟨none, 0, rfl, ⟨Nat.le_refl _, by decide, fun _ => rfl⟩⟩
  · exact ⟨some ⟨g, 0, none⟩, cap, rfl, ⟨hcap, hm, fun e => by cases e⟩⟩
theorem RowE.at {w : World} {B : Nat} {v : Value} {xs : List EntP} (h : RowE w B v xs) (hd : ∀ x ∈ xs, DatOk w x.2 x.1.data) : ∃ A c, v = .slice A xs.length c ∧ SlOk A xs.length c ∧ EntsAt w A (xs.map (·.1)) := by
  have h' := h
  unfold RowE World.ownsRow at h
  rcases h.2 with ⟨rfl, h0⟩ | ⟨g, cap, cur, rfl, hB, hg, hcap, hm, hs, ht⟩
  · have e := List.eq_nil_of_length_eq_zero h0
    subst e
    exact ⟨none, 0, rfl, ⟨Nat.le_refl _, by decide, fun _ => rfl⟩, EntsAt.nil _ _⟩
  · refine ⟨some ⟨g, 0, none⟩, cap, rfl, ⟨hcap, hm, fun e => by cases e⟩, fun j hj => ?_⟩
    have hj' : j < xs.length := by simpa using hj
    obtain ⟨D, c, e, h1, h2⟩ := hd _ (List.getElem_mem hj')
    rw [List.getElem_map]
    refine ⟨g, 0, D, c, rfl, fun i hi => ?_, h1, h2⟩
    rw [Nat.zero_add, World.ownsRow.cellAt h' (j * 11 + i) (by omega), rowE_get xs j i hj' hi, e]; rfl
/-- a list of nodes of the call's own, their data too -/
def OwnE (w : World) (B : Nat) (v : Value) (xs : List EntP) : Prop := RowE w B v xs ∧ ∀ x ∈ xs, OwnB w B x.2 x.1.data
theorem OwnE.nil (w : World) (B : Nat) : OwnE w B (.slice none 0 0) [] := ⟨RowE.nil _ _, fun x hx => by simp at hx⟩
theorem OwnE.below {w w' : World} {B : Nat} {v : Value} {xs : List EntP} (h : OwnE w B v xs) (hb : Below w.heap.size w w') : OwnE w' B v xs := ⟨h.1.below hb, fun x hx => (h.2 x hx).below hb⟩
theorem OwnE.at {w : World} {B : Nat} {v : Value} {xs : List EntP} (h : OwnE w B v xs) : ∃ A c, v = .slice A xs.length c ∧ SlOk A xs.length c ∧ EntsAt w A (xs.map (·.1)) := h.1.at fun x hx => (h.2 x hx).dat
theorem RowE.mono {w : World} {B B' : Nat} {v : Value} {xs : List EntP} (h : RowE w B v xs) (hB : B' ≤ B) : RowE w B' v xs := own_mono h hB
theorem OwnE.mono {w : World} {B B' : Nat} {v : Value} {xs : List EntP} (h : OwnE w B v xs) (hB : B' ≤ B) : OwnE w B' v xs := ⟨h.1.mono hB, fun x hx => (h.2 x hx).mono hB⟩
/-- rows of bytes are no rows of nodes -/
theorem own_apartE {w : World} {B B' : Nat} {v u : Value} {l : List UInt8} {xs : List EntP} (h : OwnB w B v l) (h' : RowE w B' u xs) : ∀ g, v.ownBlock = some g → u.ownBlock ≠ some g := by
  intro g hg hu
  obtain ⟨-, c1, e1⟩ := own_block h g hg
  obtain ⟨-, c2, e2⟩ := own_block h' g hu
  rw [e1] at e2
  simp only [Option.some.injEq, Obj.cells.injEq] at e2
  exact absurd e2.2.1 (by decide)
end Go.Proofs.YtdcbmjihpjnbbaaDoor
/- The reference's finding. -/
set_option linter.unusedVariables false
set_option maxRecDepth 100000
namespace Go.Proofs.YtdcbmjihpjnbbaaDoor
open Go.RowKit
open Go.OpenShut
theorem blk11 {w : World} {g t : Nat} {a0 a1 a2 a3 a4 a5 a6 a7 a8 a9 a10 : Value} (h : Blk w g t #[a0, a1, a2, a3, a4, a5, a6, a7, a8, a9, a10]) :
    (w.cell? ⟨g, 0, none⟩ = some a0 ∧ w.cell? ⟨g, 1, none⟩ = some a1 ∧ w.cell? ⟨g, 2, none⟩ = some a2 ∧ w.cell? ⟨g, 3, none⟩ = some a3 ∧ w.cell? ⟨g, 4, none⟩ = some a4 ∧ w.cell? ⟨g, 5, none⟩ = some a5 ∧ w.cell? ⟨g, 6, none⟩ = some a6 ∧ w.cell? ⟨g, 7, none⟩ = some a7 ∧ w.cell? ⟨g, 8, none⟩ = some a8 ∧ w.cell? ⟨g, 9, none⟩ = some a9 ∧ w.cell? ⟨g, 10, none⟩ = some a10) ∧
    (w.frozen? ⟨g, 0, none⟩ = false ∧ w.frozen? ⟨g, 1, none⟩ = false ∧ w.frozen? ⟨g, 2, none⟩ = false ∧ w.frozen? ⟨g, 3, none⟩ = false ∧ w.frozen? ⟨g, 4, none⟩ = false ∧ w.frozen? ⟨g, 5, none⟩ = false ∧ w.frozen? ⟨g, 6, none⟩ = false ∧ w.frozen? ⟨g, 7, none⟩ = false ∧ w.frozen? ⟨g, 8, none⟩ = false ∧ w.frozen? ⟨g, 9, none⟩ = false ∧ w.frozen? ⟨g, 10, none⟩ = false) :=
  ⟨⟨h.cell 0, h.cell 1, h.cell 2, h.cell 3, h.cell 4, h.cell 5, h.cell 6, h.cell 7, h.cell 8, h.cell 9, h.cell 10⟩, h.frozen 0, h.frozen 1, h.frozen 2, h.frozen 3, h.frozen 4, h.frozen 5, h.frozen 6, h.frozen 7, h.frozen 8, h.frozen 9, h.frozen 10⟩
/-- the cells of the j-th member -/
theorem EntsAt.cells {w : World} {A : Option Addr} {l : List EntV} (h : EntsAt w A l) (j : Nat) (hj : j < l.length) : ∃ (b o : Nat) (D : Option Addr) (c : Nat), A = some ⟨b, o, none⟩ ∧
    w.cell? ⟨b, o + j * 11, none⟩ = some (.string (bs l[j].path)) ∧ w.cell? ⟨b, o + j * 11 + 1, none⟩ = some (.int .i64 l[j].kind) ∧ w.cell? ⟨b, o + j * 11 + 2, none⟩ = some (.string (bs l[j].target)) ∧
    (w.cell? ⟨b, o + j * 11 + 3, none⟩ = some (.int .i64 l[j].md.mode) ∧ w.cell? ⟨b, o + j * 11 + 4, none⟩ = some (.int .i64 l[j].md.uid) ∧ w.cell? ⟨b, o + j * 11 + 5, none⟩ = some (.int .i64 l[j].md.gid) ∧ w.cell? ⟨b, o + j * 11 + 6, none⟩ = some (.string (bs l[j].md.user)) ∧ w.cell? ⟨b, o + j * 11 + 7, none⟩ = some (.string (bs l[j].md.group)) ∧ w.cell? ⟨b, o + j * 11 + 8, none⟩ = some (.int .i64 l[j].md.second) ∧ w.cell? ⟨b, o + j * 11 + 9, none⟩ = some (.int .i64 l[j].md.nano)) ∧
    w.cell? ⟨b, o + j * 11 + 10, none⟩ = some (.slice D l[j].data.length c) ∧ SlOk D l[j].data.length c ∧ BytsAt w D l[j].data := by
  obtain ⟨b, o, D, c, e, h12, hs, hd⟩ := h j hj
  exact ⟨b, o, D, c, e, h12 0 (by omega), h12 1 (by omega), h12 2 (by omega), ⟨h12 3 (by omega), h12 4 (by omega), h12 5 (by omega), h12 6 (by omega), h12 7 (by omega), h12 8 (by omega), h12 9 (by omega)⟩, h12 10 (by omega), hs, hd⟩
theorem EntsAt.take {w : World} {A : Option Addr} {l : List EntV} (h : EntsAt w A l) (k : Nat) : EntsAt w A (l.take k) := fun j hj => by
  have hj' : j < l.length := by rw [List.length_take] at hj; omega
  have := h j hj'
  rwa [List.getElem_take]
set_option maxHeartbeats 1000000 in
theorem rEntAt_any (A : Option Addr) (n c : Nat) (l : List EntV) (s : List UInt8) (hn : l.length = n) (hn2 : n ≤ 140737488355328) (w : World) (hA : EntsAt w A l) :
    Calls Tryd.prog 62 #[.slice A n c, .string (bs s)] w fun e w' => e = .returned (.int .i64 (findE l s : Nat)) ∧ w = w' := by
  have HN := Lib.hid hn
  have HA := Lib.hid hA
  obtain ⟨S, HS⟩ := hid_name (bs s)
  rw [HS.out]
  clear hn hA
  go_enter Tryd.func62, Tryd.ntmps62
  go_wp2_with fail
  go_loop [5] (fun i => ∃ k : Nat, k ≤ n ∧ i = .int .i64 k ∧ Hid (k ≤ findE l s)) (fun i => n - (intOf i).toNat)
  case atStart => exact ⟨0, Nat.zero_le _, rfl, Nat.zero_le _⟩
  case round =>
    obtain ⟨k, hk, rfl, hf⟩ := hrel
    by_cases hlt : k < n
    · have hkl : k < l.length := by rw [HN.out]; exact hlt
      obtain ⟨b, o, D, cc, rfl, c0, -⟩ := HA.out.cells k hkl
      have hq := bs_eq (a := l[k].path) (b := s)
      rw [HS.out] at hq
      obtain ⟨P, HP⟩ := hid_name (bs l[k].path)
      rw [HP.out] at hq c0
      by_cases e : l[k].path = s
      · have HV := Lib.hid (findE_stop l s k hkl hf.out e)
        rw [decide_eq_true e] at hq
        clear e
        go_wp2_with fail
        go_ret
        exact ⟨ret_int (by rw [HV.out]), rfl⟩
      · have HV := Lib.hid (findE_step l s k hkl hf.out e)
        rw [decide_eq_false e] at hq
        clear e
        go_wp2_with fail
        go_round
        case rel => exact ⟨k + 1, by omega, by go_num, HV⟩
        case measure => simp [intOf]; omega
    · obtain rfl : k = n := by omega
      have HV : Hid (findE l s = k) := by
        have := findE_le l s
        unfold Hid
        have h2 := hf.out
        have h3 := HN.out
        omega
      go_wp2_with fail
      go_ret
      exact ⟨ret_int (by rw [HV.out]), rfl⟩
end Go.Proofs.YtdcbmjihpjnbbaaDoor
/- The reference's faults of members. -/
set_option linter.unusedVariables false
set_option maxRecDepth 100000
namespace Go.Proofs.YtdcbmjihpjnbbaaDoor
open Go.RowKit
open Go.OpenShut
/-- texts and data are no longer than memory -/
def EntV.sz (x : EntV) : Prop := (x.path.length ≤ 140737488351232 ∧ x.target.length ≤ 140737488351232 ∧ x.data.length ≤ 140737488351232) ∧ x.md.sz
theorem EntV.wf.sz {x : EntV} (h : x.wf) : x.sz := ⟨h.1, h.2.1.1⟩
theorem entE_path {n : EntV} (h : pathE n.path ≠ 0) : entE n = pathE n.path := if_pos h
theorem entE_meta {n : EntV} (h : pathE n.path = 0) (h2 : metE n.md ≠ 0) : entE n = metE n.md := by unfold entE; rw [if_neg (by simp [h]), if_pos h2]
theorem entE_kind {n : EntV} (h : pathE n.path = 0) (h2 : metE n.md = 0) : entE n = entK n := by unfold entE; rw [if_neg (by simp [h]), if_neg (by simp [h2])]
set_option maxHeartbeats 4000000 in
theorem rEnt_any (x : EntV) (D : Option Addr) (c : Nat) (hx : x.sz) (w : World) : Calls Tryd.prog 32 #[.agg (entC x D c).toArray] w fun e w' => e = .returned (.int .i64 (entE x)) ∧ Below w.heap.size w w' := by
  obtain ⟨path, kind, target, md, data⟩ := x
  obtain ⟨⟨z1, z2, z3⟩, z4⟩ := hx
  simp only at z1 z2 z3 z4
  have HP := Lib.hid fun W => rFault_any (bs path) W (by rw [bs_size]; unfold maxLen; omega)
  have HM := Lib.hid fun W => rMetaFault_any md z4 W
  have HPT := Lib.hid fun W => rFault_any (bs target) W (by rw [bs_size]; unfold maxLen; omega)
  rw [bs_list] at HP HPT
  have HX1 := Lib.hid fun h => entE_path (n := ⟨path, kind, target, md, data⟩) h
  have HX2 := Lib.hid fun h h2 => entE_meta (n := ⟨path, kind, target, md, data⟩) h h2
  have HX3 := Lib.hid fun h h2 => entE_kind (n := ⟨path, kind, target, md, data⟩) h h2
  simp only at HX1 HX2 HX3
  obtain ⟨e1, he1⟩ : ∃ e, e = pathE path := ⟨_, rfl⟩
  obtain ⟨e2, he2⟩ : ∃ e, e = metE md := ⟨_, rfl⟩
  rw [← he1] at HP HX1 HX2 HX3
  rw [← he2] at HM HX2 HX3
  clear he1 he2 z4
  obtain ⟨m0, m1, m2, m3, m4, m5, m6⟩ := md
  unfold metA at HM
  unfold entC
  simp only at HM ⊢
  have s2 := bs_size target
  obtain ⟨P, hP⟩ := hid_name (bs path)
  have hps : P.size ≤ 140737488351232 := by rw [← hP.out, bs_size]; exact z1
  rw [hP.out] at HP ⊢
  have hb0 := Blk.new w 30 #[.string P, .int .i64 kind, .string (bs target), .int .i64 m0, .int .i64 m1, .int .i64 m2, .string (bs m3), .string (bs m4), .int .i64 m5, .int .i64 m6, .slice D data.length c]
  have hw0 : Below w.heap.size w (w.alloc (.cells #[.string P, .int .i64 kind, .string (bs target), .int .i64 m0, .int .i64 m1, .int .i64 m2, .string (bs m3), .string (bs m4), .int .i64 m5, .int .i64 m6, .slice D data.length c] 30)) := (Below.refl _ _).alloc (Nat.le_refl _) _
  by_cases h1 : e1 = 0
  · subst h1
    have HX2 := Lib.hid (HX2.out rfl)
    have HX3 := Lib.hid (HX3.out rfl)
    clear HX1
    by_cases h2 : e2 = 0
    · subst h2
      rw [HX3.out rfl]
      clear HX2 HX3
      have hR : entK ⟨path, kind, target, ⟨m0, m1, m2, m3, m4, m5, m6⟩, data⟩ = if kind < 1 ∨ 4 < kind then 2
        else if (2 < kind ∧ target = []) ∨ (¬ 2 < kind ∧ target ≠ []) ∨ (1 < kind ∧ data ≠ []) then 3
        else if 2000 < data.length ∨ 400 < target.length then 1
        else if kind = 4 then pathE target
        else if hasB 0 target = true then 3 else 0 := rfl
      have HH := Lib.hid fun W => has_any (bs target) 0 0 W (by rw [s2]; unfold maxLen; omega) rfl
      rw [bs_list] at HH
      have ht0 : target ≠ [] → ¬ (bs target).toList = [] ∧ ((bs target).toList == []) = false := fun h => by
        have : ((bs target).toList == []) = false := by rw [bs_nil_eq]; simpa using h
        exact ⟨fun e => (by rw [e] at this; exact absurd this (by decide)), this⟩
      have hd0 : data = [] ↔ data.length = 0 := List.length_eq_zero_iff.symm
      generalize entK ⟨path, kind, target, ⟨m0, m1, m2, m3, m4, m5, m6⟩, data⟩ = R at hR ⊢
      obtain ⟨L, hL⟩ : ∃ L, L = data.length := ⟨_, rfl⟩
      rw [← hL] at hb0 hw0 hd0 hR z3 ⊢
      by_cases k1 : kind < 1
      · rw [if_pos (.inl k1)] at hR
        subst hR
        clear ht0 hd0 hL HH HPT
        go_enter Tryd.func32, Tryd.ntmps32
        go_wp2_with fail
        refine (HP.out _).mono ?_; rintro e w1 ⟨rfl, hb⟩
        have hb1 := hb0.below hb hb0.lt
        have HW1 := Lib.hid (hw0.trans (hb.mono hw0.size))
        clear hb0 hw0 hb
        obtain ⟨⟨c0, c1, c3, c4, c5, c6, c7, c8, c9, cA, cB⟩, -⟩ := blk11 hb1
        go_wp2_with fail
        refine (HM.out _).mono ?_; rintro e w2 ⟨rfl, hb⟩
        have hb2 := hb1.below hb hb1.lt
        have HW2 := Lib.hid (HW1.out.trans (hb.mono HW1.out.size))
        clear hb1 hb c0 c1 c3 c4 c5 c6 c7 c8 c9 cA cB
        obtain ⟨⟨c0, c1, c3, c4, c5, c6, c7, c8, c9, cA, cB⟩, -⟩ := blk11 hb2
        clear hb2
        go_wp2_with fail
        go_ret
        exact ⟨rfl, HW2.out⟩
      · by_cases k2 : 4 < kind
        · rw [if_pos (.inr k2)] at hR
          subst hR
          clear ht0 hd0 hL HH HPT
          go_enter Tryd.func32, Tryd.ntmps32
          go_wp2_with fail
          refine (HP.out _).mono ?_; rintro e w1 ⟨rfl, hb⟩
          have hb1 := hb0.below hb hb0.lt
          have HW1 := Lib.hid (hw0.trans (hb.mono hw0.size))
          clear hb0 hw0 hb
          obtain ⟨⟨c0, c1, c3, c4, c5, c6, c7, c8, c9, cA, cB⟩, -⟩ := blk11 hb1
          go_wp2_with fail
          refine (HM.out _).mono ?_; rintro e w2 ⟨rfl, hb⟩
          have hb2 := hb1.below hb hb1.lt
          have HW2 := Lib.hid (HW1.out.trans (hb.mono HW1.out.size))
          clear hb1 hb c0 c1 c3 c4 c5 c6 c7 c8 c9 cA cB
          obtain ⟨⟨c0, c1, c3, c4, c5, c6, c7, c8, c9, cA, cB⟩, -⟩ := blk11 hb2
          clear hb2
          go_wp2_with fail
          go_ret
          exact ⟨rfl, HW2.out⟩
        · rw [if_neg (by rintro (e | e); exact k1 e; exact k2 e)] at hR
          by_cases k3 : 2 < kind
          · have k4 : 1 < kind := by omega
            by_cases t1 : target = []
            · rw [if_pos (.inl ⟨k3, t1⟩)] at hR
              subst hR t1
              simp only [show bs [] = (⟨#[]⟩ : ByteArray) from rfl] at *
              clear ht0 hd0 hL HH HPT
              go_enter Tryd.func32, Tryd.ntmps32
              go_wp2_with fail
              refine (HP.out _).mono ?_; rintro e w1 ⟨rfl, hb⟩
              have hb1 := hb0.below hb hb0.lt
              have HW1 := Lib.hid (hw0.trans (hb.mono hw0.size))
              clear hb0 hw0 hb
              obtain ⟨⟨c0, c1, c3, c4, c5, c6, c7, c8, c9, cA, cB⟩, -⟩ := blk11 hb1
              go_wp2_with fail
              refine (HM.out _).mono ?_; rintro e w2 ⟨rfl, hb⟩
              have hb2 := hb1.below hb hb1.lt
              have HW2 := Lib.hid (HW1.out.trans (hb.mono HW1.out.size))
              clear hb1 hb c0 c1 c3 c4 c5 c6 c7 c8 c9 cA cB
              obtain ⟨⟨c0, c1, c3, c4, c5, c6, c7, c8, c9, cA, cB⟩, -⟩ := blk11 hb2
              clear hb2
              go_wp2_with fail
              go_ret
              exact ⟨rfl, HW2.out⟩
            · obtain ⟨ht1, ht2⟩ := ht0 t1
              by_cases d1 : L = 0
              · have d2 : data = [] := hd0.2 d1
                rw [if_neg (by rintro (⟨-, e⟩ | ⟨e, -⟩ | ⟨-, e⟩); exact t1 e; exact e k3; exact e d2)] at hR
                subst d1
                by_cases q4 : 400 < (bs target).size
                · rw [if_pos (.inr (by rw [← s2]; exact q4))] at hR
                  subst hR
                  clear ht0 hd0 hL
                  obtain ⟨T, hT⟩ := hid_name (bs target)
                  rw [hT.out] at ht1 ht2 s2 hb0 hw0 q4 ⊢
                  clear t1 s2 HH HPT
                  go_enter Tryd.func32, Tryd.ntmps32
                  go_wp2_with fail
                  refine (HP.out _).mono ?_; rintro e w1 ⟨rfl, hb⟩
                  have hb1 := hb0.below hb hb0.lt
                  have HW1 := Lib.hid (hw0.trans (hb.mono hw0.size))
                  clear hb0 hw0 hb
                  obtain ⟨⟨c0, c1, c3, c4, c5, c6, c7, c8, c9, cA, cB⟩, -⟩ := blk11 hb1
                  go_wp2_with fail
                  refine (HM.out _).mono ?_; rintro e w2 ⟨rfl, hb⟩
                  have hb2 := hb1.below hb hb1.lt
                  have HW2 := Lib.hid (HW1.out.trans (hb.mono HW1.out.size))
                  clear hb1 hb c0 c1 c3 c4 c5 c6 c7 c8 c9 cA cB
                  obtain ⟨⟨c0, c1, c3, c4, c5, c6, c7, c8, c9, cA, cB⟩, -⟩ := blk11 hb2
                  clear hb2
                  go_wp2_with fail
                  go_ret
                  exact ⟨rfl, HW2.out⟩
                · rw [if_neg (by rintro (e | e); omega; exact q4 (by rw [s2]; exact e))] at hR
                  by_cases k5 : kind = 4
                  · rw [if_pos k5] at hR
                    subst k5
                    obtain ⟨E, hE⟩ := hid_name (pathE target)
                    rw [hE.out] at hR HPT
                    subst hR
                    clear ht0 hd0 hL
                    obtain ⟨T, hT⟩ := hid_name (bs target)
                    rw [hT.out] at ht1 ht2 s2 hb0 hw0 q4 HPT ⊢
                    clear t1 s2 HH
                    go_enter Tryd.func32, Tryd.ntmps32
                    go_wp2_with fail
                    refine (HP.out _).mono ?_; rintro e w1 ⟨rfl, hb⟩
                    have hb1 := hb0.below hb hb0.lt
                    have HW1 := Lib.hid (hw0.trans (hb.mono hw0.size))
                    clear hb0 hw0 hb
                    obtain ⟨⟨c0, c1, c3, c4, c5, c6, c7, c8, c9, cA, cB⟩, -⟩ := blk11 hb1
                    go_wp2_with fail
                    refine (HM.out _).mono ?_; rintro e w2 ⟨rfl, hb⟩
                    have hb2 := hb1.below hb hb1.lt
                    have HW2 := Lib.hid (HW1.out.trans (hb.mono HW1.out.size))
                    clear hb1 hb c0 c1 c3 c4 c5 c6 c7 c8 c9 cA cB
                    obtain ⟨⟨c0, c1, c3, c4, c5, c6, c7, c8, c9, cA, cB⟩, -⟩ := blk11 hb2
                    clear hb2
                    go_wp2_with fail
                    refine (HPT.out _).mono ?_; rintro e w3 ⟨rfl, hb⟩
                    have HW3 := Lib.hid (HW2.out.trans (hb.mono HW2.out.size))
                    clear hb c0 c1 c3 c4 c5 c6 c7 c8 c9 cA cB
                    go_wp2_with fail
                    go_ret
                    exact ⟨rfl, HW3.out⟩
                  · rw [if_neg k5] at hR
                    have k5b : (kind == 4) = false := by simpa using k5
                    cases z0 : hasB 0 target
                    · rw [z0, if_neg (by decide)] at hR
                      subst hR
                      rw [z0] at HH
                      clear ht0 hd0 hL z0 k5
                      obtain ⟨T, hT⟩ := hid_name (bs target)
                      rw [hT.out] at ht1 ht2 s2 hb0 hw0 q4 HH ⊢
                      clear t1 s2 HPT
                      go_enter Tryd.func32, Tryd.ntmps32
                      go_wp2_with fail
                      refine (HP.out _).mono ?_; rintro e w1 ⟨rfl, hb⟩
                      have hb1 := hb0.below hb hb0.lt
                      have HW1 := Lib.hid (hw0.trans (hb.mono hw0.size))
                      clear hb0 hw0 hb
                      obtain ⟨⟨c0, c1, c3, c4, c5, c6, c7, c8, c9, cA, cB⟩, -⟩ := blk11 hb1
                      go_wp2_with fail
                      refine (HM.out _).mono ?_; rintro e w2 ⟨rfl, hb⟩
                      have hb2 := hb1.below hb hb1.lt
                      have HW2 := Lib.hid (HW1.out.trans (hb.mono HW1.out.size))
                      clear hb1 hb c0 c1 c3 c4 c5 c6 c7 c8 c9 cA cB
                      obtain ⟨⟨c0, c1, c3, c4, c5, c6, c7, c8, c9, cA, cB⟩, -⟩ := blk11 hb2
                      clear hb2
                      go_wp2_with fail
                      refine (HH.out _).mono ?_; rintro e w3 ⟨rfl, rfl⟩
                      go_wp2_with fail
                      go_ret
                      exact ⟨rfl, HW2.out⟩
                    · rw [z0, if_pos rfl] at hR
                      subst hR
                      rw [z0] at HH
                      clear ht0 hd0 hL z0 k5
                      obtain ⟨T, hT⟩ := hid_name (bs target)
                      rw [hT.out] at ht1 ht2 s2 hb0 hw0 q4 HH ⊢
                      clear t1 s2 HPT
                      go_enter Tryd.func32, Tryd.ntmps32
                      go_wp2_with fail
                      refine (HP.out _).mono ?_; rintro e w1 ⟨rfl, hb⟩
                      have hb1 := hb0.below hb hb0.lt
                      have HW1 := Lib.hid (hw0.trans (hb.mono hw0.size))
                      clear hb0 hw0 hb
                      obtain ⟨⟨c0, c1, c3, c4, c5, c6, c7, c8, c9, cA, cB⟩, -⟩ := blk11 hb1
                      go_wp2_with fail
                      refine (HM.out _).mono ?_; rintro e w2 ⟨rfl, hb⟩
                      have hb2 := hb1.below hb hb1.lt
                      have HW2 := Lib.hid (HW1.out.trans (hb.mono HW1.out.size))
                      clear hb1 hb c0 c1 c3 c4 c5 c6 c7 c8 c9 cA cB
                      obtain ⟨⟨c0, c1, c3, c4, c5, c6, c7, c8, c9, cA, cB⟩, -⟩ := blk11 hb2
                      clear hb2
                      go_wp2_with fail
                      refine (HH.out _).mono ?_; rintro e w3 ⟨rfl, rfl⟩
                      go_wp2_with fail
                      go_ret
                      exact ⟨rfl, HW2.out⟩
              · rw [if_pos (.inr (.inr ⟨k4, fun e => d1 (hd0.1 e)⟩))] at hR
                subst hR
                have d1b : ((L : Int) != 0) = true := by simp; omega
                clear ht0 hd0 hL d1
                obtain ⟨T, hT⟩ := hid_name (bs target)
                rw [hT.out] at ht1 ht2 s2 hb0 hw0 ⊢
                clear t1 s2 HH HPT
                go_enter Tryd.func32, Tryd.ntmps32
                go_wp2_with fail
                refine (HP.out _).mono ?_; rintro e w1 ⟨rfl, hb⟩
                have hb1 := hb0.below hb hb0.lt
                have HW1 := Lib.hid (hw0.trans (hb.mono hw0.size))
                clear hb0 hw0 hb
                obtain ⟨⟨c0, c1, c3, c4, c5, c6, c7, c8, c9, cA, cB⟩, -⟩ := blk11 hb1
                go_wp2_with fail
                refine (HM.out _).mono ?_; rintro e w2 ⟨rfl, hb⟩
                have hb2 := hb1.below hb hb1.lt
                have HW2 := Lib.hid (HW1.out.trans (hb.mono HW1.out.size))
                clear hb1 hb c0 c1 c3 c4 c5 c6 c7 c8 c9 cA cB
                obtain ⟨⟨c0, c1, c3, c4, c5, c6, c7, c8, c9, cA, cB⟩, -⟩ := blk11 hb2
                clear hb2
                go_wp2_with fail
                go_ret
                exact ⟨rfl, HW2.out⟩
          · by_cases t1 : target = []
            · subst t1
              have HH2 : Hid (∀ W, Calls Tryd.prog 58 #[.string ⟨#[]⟩, .int .u8 0] W fun e w' => e = .returned (.bool false) ∧ W = w') := HH
              simp only [show bs [] = (⟨#[]⟩ : ByteArray) from rfl] at *
              have k5b : (kind == 4) = false := by simp; omega
              by_cases k4 : 1 < kind
              · by_cases d1 : L = 0
                · have d2 : data = [] := hd0.2 d1
                  subst d1
                  rw [if_neg (by rintro (⟨e, -⟩ | ⟨-, e⟩ | ⟨-, e⟩); exact k3 e; exact e rfl; exact e d2), if_neg (by simp), if_neg (by omega), if_neg (by decide)] at hR
                  subst hR
                  clear ht0 hd0 hL d2 HH HPT
                  go_enter Tryd.func32, Tryd.ntmps32
                  go_wp2_with fail
                  refine (HP.out _).mono ?_; rintro e w1 ⟨rfl, hb⟩
                  have hb1 := hb0.below hb hb0.lt
                  have HW1 := Lib.hid (hw0.trans (hb.mono hw0.size))
                  clear hb0 hw0 hb
                  obtain ⟨⟨c0, c1, c3, c4, c5, c6, c7, c8, c9, cA, cB⟩, -⟩ := blk11 hb1
                  go_wp2_with fail
                  refine (HM.out _).mono ?_; rintro e w2 ⟨rfl, hb⟩
                  have hb2 := hb1.below hb hb1.lt
                  have HW2 := Lib.hid (HW1.out.trans (hb.mono HW1.out.size))
                  clear hb1 hb c0 c1 c3 c4 c5 c6 c7 c8 c9 cA cB
                  obtain ⟨⟨c0, c1, c3, c4, c5, c6, c7, c8, c9, cA, cB⟩, -⟩ := blk11 hb2
                  clear hb2
                  go_wp2_with fail
                  refine (HH2.out _).mono ?_; rintro e w3 ⟨rfl, rfl⟩
                  go_wp2_with fail
                  go_ret
                  exact ⟨rfl, HW2.out⟩
                · rw [if_pos (.inr (.inr ⟨k4, fun e => d1 (hd0.1 e)⟩))] at hR
                  subst hR
                  have d1b : ((L : Int) != 0) = true := by simp; omega
                  clear ht0 hd0 hL d1 HH HPT HH2
                  go_enter Tryd.func32, Tryd.ntmps32
                  go_wp2_with fail
                  refine (HP.out _).mono ?_; rintro e w1 ⟨rfl, hb⟩
                  have hb1 := hb0.below hb hb0.lt
                  have HW1 := Lib.hid (hw0.trans (hb.mono hw0.size))
                  clear hb0 hw0 hb
                  obtain ⟨⟨c0, c1, c3, c4, c5, c6, c7, c8, c9, cA, cB⟩, -⟩ := blk11 hb1
                  go_wp2_with fail
                  refine (HM.out _).mono ?_; rintro e w2 ⟨rfl, hb⟩
                  have hb2 := hb1.below hb hb1.lt
                  have HW2 := Lib.hid (HW1.out.trans (hb.mono HW1.out.size))
                  clear hb1 hb c0 c1 c3 c4 c5 c6 c7 c8 c9 cA cB
                  obtain ⟨⟨c0, c1, c3, c4, c5, c6, c7, c8, c9, cA, cB⟩, -⟩ := blk11 hb2
                  clear hb2
                  go_wp2_with fail
                  go_ret
                  exact ⟨rfl, HW2.out⟩
              · rw [if_neg (by rintro (⟨e, -⟩ | ⟨-, e⟩ | ⟨e, -⟩); exact k3 e; exact e rfl; exact k4 e)] at hR
                by_cases q2 : 2000 < L
                · rw [if_pos (.inl q2)] at hR
                  subst hR
                  clear ht0 hd0 hL HH HPT HH2
                  go_enter Tryd.func32, Tryd.ntmps32
                  go_wp2_with fail
                  refine (HP.out _).mono ?_; rintro e w1 ⟨rfl, hb⟩
                  have hb1 := hb0.below hb hb0.lt
                  have HW1 := Lib.hid (hw0.trans (hb.mono hw0.size))
                  clear hb0 hw0 hb
                  obtain ⟨⟨c0, c1, c3, c4, c5, c6, c7, c8, c9, cA, cB⟩, -⟩ := blk11 hb1
                  go_wp2_with fail
                  refine (HM.out _).mono ?_; rintro e w2 ⟨rfl, hb⟩
                  have hb2 := hb1.below hb hb1.lt
                  have HW2 := Lib.hid (HW1.out.trans (hb.mono HW1.out.size))
                  clear hb1 hb c0 c1 c3 c4 c5 c6 c7 c8 c9 cA cB
                  obtain ⟨⟨c0, c1, c3, c4, c5, c6, c7, c8, c9, cA, cB⟩, -⟩ := blk11 hb2
                  clear hb2
                  go_wp2_with fail
                  go_ret
                  exact ⟨rfl, HW2.out⟩
                · rw [if_neg (by rintro (e | e); exact q2 e; simp at e), if_neg (by omega), if_neg (by decide)] at hR
                  subst hR
                  clear ht0 hd0 hL HH HPT
                  go_enter Tryd.func32, Tryd.ntmps32
                  go_wp2_with fail
                  refine (HP.out _).mono ?_; rintro e w1 ⟨rfl, hb⟩
                  have hb1 := hb0.below hb hb0.lt
                  have HW1 := Lib.hid (hw0.trans (hb.mono hw0.size))
                  clear hb0 hw0 hb
                  obtain ⟨⟨c0, c1, c3, c4, c5, c6, c7, c8, c9, cA, cB⟩, -⟩ := blk11 hb1
                  go_wp2_with fail
                  refine (HM.out _).mono ?_; rintro e w2 ⟨rfl, hb⟩
                  have hb2 := hb1.below hb hb1.lt
                  have HW2 := Lib.hid (HW1.out.trans (hb.mono HW1.out.size))
                  clear hb1 hb c0 c1 c3 c4 c5 c6 c7 c8 c9 cA cB
                  obtain ⟨⟨c0, c1, c3, c4, c5, c6, c7, c8, c9, cA, cB⟩, -⟩ := blk11 hb2
                  clear hb2
                  go_wp2_with fail
                  refine (HH2.out _).mono ?_; rintro e w3 ⟨rfl, rfl⟩
                  go_wp2_with fail
                  go_ret
                  exact ⟨rfl, HW2.out⟩
            · obtain ⟨ht1, ht2⟩ := ht0 t1
              rw [if_pos (.inr (.inl ⟨k3, t1⟩))] at hR
              subst hR
              clear ht0 hd0 hL
              obtain ⟨T, hT⟩ := hid_name (bs target)
              rw [hT.out] at ht1 ht2 s2 hb0 hw0 ⊢
              clear t1 s2 HH HPT
              go_enter Tryd.func32, Tryd.ntmps32
              go_wp2_with fail
              refine (HP.out _).mono ?_; rintro e w1 ⟨rfl, hb⟩
              have hb1 := hb0.below hb hb0.lt
              have HW1 := Lib.hid (hw0.trans (hb.mono hw0.size))
              clear hb0 hw0 hb
              obtain ⟨⟨c0, c1, c3, c4, c5, c6, c7, c8, c9, cA, cB⟩, -⟩ := blk11 hb1
              go_wp2_with fail
              refine (HM.out _).mono ?_; rintro e w2 ⟨rfl, hb⟩
              have hb2 := hb1.below hb hb1.lt
              have HW2 := Lib.hid (HW1.out.trans (hb.mono HW1.out.size))
              clear hb1 hb c0 c1 c3 c4 c5 c6 c7 c8 c9 cA cB
              obtain ⟨⟨c0, c1, c3, c4, c5, c6, c7, c8, c9, cA, cB⟩, -⟩ := blk11 hb2
              clear hb2
              go_wp2_with fail
              go_ret
              exact ⟨rfl, HW2.out⟩
    · rw [HX2.out h2]
      have h2b : (e2 == 0) = false := by simpa using h2
      clear HX2 HX3 h2
      go_enter Tryd.func32, Tryd.ntmps32
      go_wp2_with fail
      refine (HP.out _).mono ?_; rintro e w1 ⟨rfl, hb⟩
      have hb1 := hb0.below hb hb0.lt
      have HW1 := Lib.hid (hw0.trans (hb.mono hw0.size))
      clear hb0 hw0 hb
      obtain ⟨⟨c0, c1, c3, c4, c5, c6, c7, c8, c9, cA, cB⟩, -⟩ := blk11 hb1
      go_wp2_with fail
      refine (HM.out _).mono ?_; rintro e w2 ⟨rfl, hb⟩
      have HW2 := Lib.hid (HW1.out.trans (hb.mono HW1.out.size))
      clear hb1 hb c0 c1 c3 c4 c5 c6 c7 c8 c9 cA cB
      go_wp2_with fail
      go_ret
      exact ⟨rfl, HW2.out⟩
  · rw [HX1.out h1]
    have h1b : (e1 == 0) = false := by simpa using h1
    clear HX1 HX2 HX3 h1
    go_enter Tryd.func32, Tryd.ntmps32
    go_wp2_with fail
    refine (HP.out _).mono ?_; rintro e w1 ⟨rfl, hb⟩
    have HW1 := Lib.hid (hw0.trans (hb.mono hw0.size))
    clear hb0 hw0 hb
    go_wp2_with fail
    go_ret
    exact ⟨rfl, HW1.out⟩
end Go.Proofs.YtdcbmjihpjnbbaaDoor
/- Nodes that are the same. -/
set_option linter.unusedVariables false
set_option maxRecDepth 100000
namespace Go.Proofs.YtdcbmjihpjnbbaaDoor
open Go.RowKit
open Go.OpenShut
end Go.Proofs.YtdcbmjihpjnbbaaDoor
/- Trees that are the same. -/
set_option linter.unusedVariables false
set_option maxRecDepth 100000
namespace Go.Proofs.YtdcbmjihpjnbbaaDoor
open Go.RowKit
open Go.OpenShut
end Go.Proofs.YtdcbmjihpjnbbaaDoor
/- Rows of members: appending, cells in later worlds. -/
set_option linter.unusedVariables false
set_option maxRecDepth 100000
namespace Go.Proofs.YtdcbmjihpjnbbaaDoor
open Go.RowKit
open Go.OpenShut
open Go.Deep
def zeroE : Array Value := #[.string ⟨#[]⟩, .int .i64 0, .string ⟨#[]⟩, .int .i64 0, .int .i64 0, .int .i64 0, .string ⟨#[]⟩, .string ⟨#[]⟩, .int .i64 0, .int .i64 0, .slice none 0 0]
/-- all the cells of nodes, as they lie -/
def CellsE (w : World) (A : Option Addr) (ys : List EntP) : Prop := ∀ ad, A = some ad → ∀ j u, (rowE ys)[j]? = some u → w.cell? (ad.add j) = some u
theorem EntsAt.row {w : World} {A : Option Addr} {l : List EntV} (h : EntsAt w A l) : ∃ ys : List EntP, ys.map (·.1) = l ∧ CellsE w A ys ∧ ∀ y ∈ ys, DatOk w y.2 y.1.data := by
  have key : ∀ j, j < l.length → ∃ v : Value, DatOk w v (l[j]!).data ∧ ∀ ad, A = some ad → ∀ i, i < 11 → w.cell? (ad.add (j * 11 + i)) = (entV (l[j]!) v)[i]? := fun j hj => by
    obtain ⟨b, o, D, c, e, h12, hs, hd⟩ := h j hj
    rw [getElem!_pos l j hj]
    refine ⟨.slice D l[j].data.length c, ⟨D, c, rfl, hs, hd⟩, fun ad ha i hi => ?_⟩
    rw [e] at ha
    injection ha with ha
    subst ha
    rw [Addr.add_lit, ← entC_eq, ← h12 i hi, Nat.add_assoc]
  obtain ⟨f, hf⟩ := choose_lt key
  refine ⟨(List.range l.length).map fun j => (l[j]!, f j), ?_, fun ad ha j u hu => ?_, fun y hy => ?_⟩
  · rw [List.map_map]
    apply List.ext_getElem
    · simp
    · intro i h1 h2
      simp at h1
      simp [h1]
  · have hj : j < l.length * 11 := by
      have := (List.getElem?_eq_some_iff.1 hu).1
      rwa [rowE_length, List.length_map, List.length_range] at this
    have hq : j / 11 < l.length := by omega
    have h1 := rowE_get ((List.range l.length).map fun j => ((l[j]!, f j) : EntP)) (j / 11) (j % 11) (by simpa using hq) (by omega)
    rw [show j / 11 * 11 + j % 11 = j by omega, hu] at h1
    have h2 := (hf (j / 11) hq).2 ad ha (j % 11) (by omega)
    rw [show j / 11 * 11 + j % 11 = j by omega] at h2
    rw [h2, h1]
    simp
  · obtain ⟨j, hj, rfl⟩ := List.mem_map.1 hy
    exact (hf j (List.mem_range.1 hj)).1
theorem OwnE.push {w w' : World} {B : Nat} {v v' : Value} {xs : List EntP} {y : EntP} (h : OwnE w B v xs) (hy : OwnB w B y.2 y.1.data) (hr : RowE w' B v' (xs ++ [y])) (hg : w.grownBy w' v.ownBlock) : OwnE w' B v' (xs ++ [y]) := by
  refine ⟨hr, fun x hx => ?_⟩
  rcases List.mem_append.1 hx with a | a
  · exact (h.2 x a).grown hg fun g e e2 => own_apartE (h.2 x a) h.1 g e e2
  · obtain rfl : x = y := by simpa using a
    exact hy.grown hg fun g e e2 => own_apartE hy h.1 g e e2
theorem OwnE.alloc {w : World} {B : Nat} {v : Value} {xs : List EntP} (h : OwnE w B v xs) (o : Obj) : OwnE (w.alloc o) B v xs := ⟨h.1.alloc o, fun x hx => (h.2 x hx).alloc o⟩
theorem RowE.above {w : World} {B : Nat} {v : Value} {xs : List EntP} (h : RowE w B v xs) : ∀ g, v.ownBlock = some g → B ≤ g := fun g e => (World.ownsRow.lt h g e).1
end Go.Proofs.YtdcbmjihpjnbbaaDoor
