/- Texts of one kind, in one file: EntA, EntB. -/
import Derived.Test.YtldffnmoafhidaaGreatDoorNoa
import Derived.Test.YtldffnmoafhidaaGreatDoorMth
/- Members in memory; arguments that are members, and lists of them. -/
set_option linter.unusedVariables false
set_option maxRecDepth 100000
namespace Go.Proofs.YtldffnmoafhidaaGreatDoor
open Go.RowKit
open Go.OpenShut
open Go.ChangeShapes Go.WideShapes Go.Deep
theorem list11 {α : Type} {l : List α} (h : l.length = 11) : ∃ c0 c1 c2 c3 c4 c5 c6 c7 c8 c9 c10, l = [c0, c1, c2, c3, c4, c5, c6, c7, c8, c9, c10] := by
  match l, h with
  | [c0, c1, c2, c3, c4, c5, c6, c7, c8, c9, c10], _ => exact ⟨_, _, _, _, _, _, _, _, _, _, _, rfl⟩
theorem list5 {α : Type} {l : List α} (h : l.length = 5) : ∃ c0 c1 c2 c3 c4, l = [c0, c1, c2, c3, c4] := by
  match l, h with
  | [c0, c1, c2, c3, c4], _ => exact ⟨_, _, _, _, _, rfl⟩
/-- a member's cells, its data lying at D with room for c -/
def entC (x : EntV) (D : Option Addr) (c : Nat) : List Value :=
  [.string (bs x.path), .int .i64 x.kind, .string (bs x.target), .int .i64 x.md.mode, .int .i64 x.md.uid, .int .i64 x.md.gid, .string (bs x.md.user), .string (bs x.md.group), .int .i64 x.md.second, .int .i64 x.md.nano, .slice D x.data.length c]
/-- members in memory -/
def EntsAt (w : World) (A : Option Addr) (l : List EntV) : Prop :=
  ∀ j (hj : j < l.length), ∃ (b o : Nat) (D : Option Addr) (c : Nat), A = some ⟨b, o, none⟩ ∧ (∀ i, i < 11 → w.cell? ⟨b, o + j * 11 + i, none⟩ = (entC l[j] D c)[i]?) ∧ SlOk D l[j].data.length c ∧ BytsAt w D l[j].data
theorem EntsAt.nil (w : World) (A : Option Addr) : EntsAt w A [] := fun j hj => by simp at hj
theorem EntsAt.below {w w' : World} {A : Option Addr} {l : List EntV} (h : EntsAt w A l) (hb : Below w.heap.size w w') : EntsAt w' A l := fun j hj => by
  obtain ⟨b, o, D, c, e, h11, hs, hd⟩ := h j hj
  have hlt : b < w.heap.size := World.block_lt_of_cell? w _ (h11 0 (by omega))
  exact ⟨b, o, D, c, e, fun i hi => (hb.cell (p := ⟨b, o + j * 11 + i, none⟩) hlt).trans (h11 i hi), hs, hd.below hb⟩
def EntV.wf (x : EntV) : Prop := (x.path.length ≤ 140737488351232 ∧ x.target.length ≤ 140737488351232 ∧ x.data.length ≤ 140737488351232) ∧ x.md.wf ∧ (Lit.int .i64 x.kind).wf = true
section
variable {H : Type} {enc : TypeId × Value → H} {w : World} {base : Nat} {spare : Nat → Bool} {held : Bool}
theorem ent_flds : ∃ f0 f1 f2 f3 f4 : Field, Tryz.prog.underlying 26 = some (.struct #[f0, f1, f2, f3, f4]) ∧
    (f0.type = 9 ∧ f1.type = 3 ∧ f2.type = 9 ∧ f3.type = 24 ∧ f4.type = 22) ∧ (f0.offset = 0 ∧ f1.offset = 1 ∧ f2.offset = 2 ∧ f3.offset = 3 ∧ f4.offset = 10) :=
  ⟨_, _, _, _, _, Tryz.underlying26, ⟨rfl, rfl, rfl, rfl, rfl⟩, ⟨rfl, rfl, rfl, rfl, rfl⟩⟩
theorem ent_of {fuel : Nat} {cs : List Value} {x : DataW H × List MemPlace} (h : DataW.trod enc Tryz.prog w base spare held fuel 26 cs = some x) (hwt : ∀ y ∈ x.1.weights Tryz.prog 26, y ≤ reachBytes) :
    ∃ (n : EntV) (D : Option Addr) (c : Nat), cs = entC n D c ∧ n.wf ∧ SlOk D n.data.length c ∧ BytsAt w D n.data := by
  obtain ⟨f0, f1, f2, f3, f4, he, ⟨t0, t1, t2, t3, t4⟩, o0, o1, o2, o3, o4⟩ := ent_flds
  obtain ⟨ys, n', hn', hy, hlen, hyl, hf⟩ := DataW.trod_struct he h
  rw [show Tryz.prog.cellsOf 26 = 11 by kernel_rfl] at hlen
  have ks : Tryz.prog.cellsOf 9 = 1 := by kernel_rfl
  have ki : Tryz.prog.cellsOf 3 = 1 := by kernel_rfl
  have km : Tryz.prog.cellsOf 24 = 7 := by kernel_rfl
  have kb : Tryz.prog.cellsOf 22 = 1 := by kernel_rfl
  have hd : x.1 = .agg (ys.map (·.1)) := by rw [hy]
  have hr4 : reachBytes = 140737488351232 := rfl
  obtain ⟨c0, c1, c2, c3, c4, c5, c6, c7, c8, c9, c10, c11, rfl⟩ := list11 hlen
  obtain ⟨y0, y1, y2, y3, y4, rfl⟩ := list5 hyl
  have h0 := hf 0 f0 rfl
  have h1 := hf 1 f1 rfl
  have h2 := hf 2 f2 rfl
  have h3 := hf 3 f3 rfl
  have h4 := hf 4 f4 rfl
  rw [t0, o0, ks] at h0
  rw [t1, o1, ki] at h1
  rw [t2, o2, ks] at h2
  rw [t3, o3, km] at h3
  rw [t4, o4, kb] at h4
  have W0 : ∀ (j : Nat) (f : Field) (y : DataW H × List MemPlace), (#[f0, f1, f2, f3, f4] : Array Field)[j]? = some f → [y0, y1, y2, y3, y4][j]? = some y → ∀ z ∈ y.1.weights Tryz.prog f.type, z ≤ reachBytes := by
    intro j f y hj hy' z hz
    refine hwt _ ?_
    rw [hd]
    exact weights_fld he (j := j) (f := f) (d := y.1) hj (by rw [List.getElem?_map, hy']; rfl) _ hz
  have W : ∀ (j : Nat) (f : Field) (y : DataW H × List MemPlace) (s : ByteArray), (#[f0, f1, f2, f3, f4] : Array Field)[j]? = some f → [y0, y1, y2, y3, y4][j]? = some y → y.1 = .lit (.string s.data.toList) → s.data.toList.length ≤ 140737488351232 := by
    intro j f y s hj hy' hx
    have := W0 j f y hj hy' s.data.toList.length (by rw [hx]; exact reach_str)
    rw [hr4] at this; exact this
  obtain ⟨s0, q0, x0, -⟩ := DataW.trod_string Tryz.underlying9 (show DataW.trod enc Tryz.prog w base spare held n' 9 [c0] = some y0 from h0)
  obtain ⟨n1, q1, x1, w1⟩ := DataW.trod_int Tryz.underlying3 (show DataW.trod enc Tryz.prog w base spare held n' 3 [c1] = some y1 from h1)
  obtain ⟨s2, q2, x2, -⟩ := DataW.trod_string Tryz.underlying9 (show DataW.trod enc Tryz.prog w base spare held n' 9 [c2] = some y2 from h2)
  have W3 := W0 3 f3 y3 rfl rfl
  have W4 := W0 4 f4 y4 rfl rfl
  rw [t3] at W3
  rw [t4] at W4
  obtain ⟨md, q3, w3⟩ := meta_of (show DataW.trod enc Tryz.prog w base spare held n' 24 [c3, c4, c5, c6, c7, c8, c9] = some y3 from h3) W3
  obtain ⟨D, m, c, l, q4, hl, hm, hs, hb⟩ := byts_of (show DataW.trod enc Tryz.prog w base spare held n' 22 [c10] = some y4 from h4) W4
  simp only [List.cons.injEq, and_true] at q0 q1 q2 q4
  unfold metA at q3
  simp only [List.cons.injEq, and_true] at q3
  obtain ⟨k4, k5, k6, k7, k8, k9, k10⟩ := q3
  subst q0 q1 q2 q4 k4 k5 k6 k7 k8 k9 k10 hl
  refine ⟨⟨s0.data.toList, n1, s2.data.toList, md, l⟩, D, c, ?_, ⟨⟨W 0 f0 y0 s0 rfl rfl (by rw [x0]), W 2 f2 y2 s2 rfl rfl (by rw [x2]), hm⟩, w3, w1⟩, hs, hb⟩
  unfold entC
  simp only [bs_of]
theorem open_ents {v : Value} {d : DataW H} {p : List MemPlace} (hv : ∃ a len cap, v = .slice a len cap) (h : DataW.Trod enc Tryz.prog w base spare held 47 v d p) (hwt : ∀ x ∈ d.weights Tryz.prog 47, x ≤ reachBytes) :
    ∃ (A : Option Addr) (n c : Nat) (l : List EntV), v = .slice A n c ∧ l.length = n ∧ n * 136 ≤ 140737488351232 ∧ (∀ r ∈ l, r.wf) ∧ SlOk A n c ∧ EntsAt w A l := by
  obtain ⟨a0, len0, cap0, rfl⟩ := hv
  obtain ⟨fuel, hf⟩ := h
  rcases open_slice Tryz.underlying47 hf with ⟨hcs, hx⟩ | ⟨a, len, cap, m, n', D, Pl, hcs, hb, hl, hm, hmm, hx, hi⟩
  · simp only [Value.cells, List.cons.injEq, Value.slice.injEq, and_true] at hcs
    obtain ⟨rfl, rfl, rfl⟩ := hcs
    exact ⟨none, 0, 0, [], rfl, rfl, by omega, (fun r hr => by simp at hr), ⟨Nat.le_refl _, by decide, fun _ => rfl⟩, EntsAt.nil _ _⟩
  · simp only [Value.cells, List.cons.injEq, Value.slice.injEq, and_true] at hcs
    obtain ⟨rfl, rfl, rfl⟩ := hcs
    have hlm : len0 ≤ m := by rw [hmm]; split <;> omega
    simp only [Prod.mk.injEq] at hx
    obtain ⟨hxd, -⟩ := hx
    subst hxd
    have hr4 : reachBytes = 140737488351232 := rfl
    have hn : len0 * 136 ≤ 140737488351232 := by
      have h1 := hwt _ (weights_len Tryz.underlying47)
      rw [hr4] at h1
      have h2 : Tryz.prog.bytesOf 26 = 136 := by kernel_rfl
      rw [h2] at h1
      simp only [List.length_map, List.length_range] at h1
      omega
    have key : ∀ i, i < len0 → ∃ y : EntV × Option Addr × Nat, y.1.wf ∧ SlOk y.2.1 y.1.data.length y.2.2 ∧ BytsAt w y.2.1 y.1.data ∧ ∀ j, j < 11 → w.cell? (a.add (i * 11 + j)) = (entC y.1 y.2.1 y.2.2)[j]? := fun i hil => by
      obtain ⟨cs', hc, ht'⟩ := hi i (by omega)
      rw [show Tryz.prog.cellsOf 26 = 11 by kernel_rfl] at hc
      obtain ⟨_, hcl, hat⟩ := World.cells?_some hc
      obtain ⟨n, Dd, c, e, h1, h2, h3⟩ := ent_of ht' (fun y hy => hwt _ (weights_slice Tryz.underlying47 (d := D i) (List.mem_map.2 ⟨i, List.mem_range.2 hil, rfl⟩) _ hy))
      refine ⟨⟨n, Dd, c⟩, h1, h2, h3, fun j hj => ?_⟩
      rw [← Go.Deep.add_add, hat j hj, e]
    obtain ⟨f, hfx⟩ := choose_lt key
    refine ⟨some a, len0, cap0, (List.range len0).map fun i => (f i).1, rfl, by simp, hn, fun r hr => ?_, ⟨hl, hm, fun e => by cases e⟩, fun j hj => ?_⟩
    · obtain ⟨i, hi1, rfl⟩ := List.mem_map.1 hr
      exact (hfx i (List.mem_range.1 hi1)).1
    · have hj' : j < len0 := by simpa using hj
      obtain ⟨b, o, sp⟩ := a
      have hsp : sp = none := by
        have h0 := (hfx 0 (by omega)).2.2.2 0 (by omega)
        have h1 : w.cell? (Addr.mk b o sp) = some (.string (bs (f 0).1.path)) := by simpa [Addr.add, entC] using h0
        simpa using World.cell?_spot h1
      subst hsp
      obtain ⟨k1, k2, k3, k4⟩ := hfx j hj'
      rw [List.getElem_map, List.getElem_range]
      refine ⟨b, o, (f j).2.1, (f j).2.2, rfl, fun i hi11 => ?_, k2, k3⟩
      rw [← k4 i hi11]
      unfold Addr.add
      split
      · rename_i h; congr 1; first | (simp; done) | (simp; omega)
      · congr 1; first | (simp; done) | (simp; omega)
end
end Go.Proofs.YtldffnmoafhidaaGreatDoor
/- Lists of members of the call's own. -/
set_option linter.unusedVariables false
set_option maxRecDepth 100000
namespace Go.Proofs.YtldffnmoafhidaaGreatDoor
open Go.RowKit
open Go.OpenShut
/-- a member's cells, the slice of its data being v -/
def entV (x : EntV) (v : Value) : List Value :=
  [.string (bs x.path), .int .i64 x.kind, .string (bs x.target), .int .i64 x.md.mode, .int .i64 x.md.uid, .int .i64 x.md.gid, .string (bs x.md.user), .string (bs x.md.group), .int .i64 x.md.second, .int .i64 x.md.nano, v]
theorem entC_eq (x : EntV) (D : Option Addr) (c : Nat) : entC x D c = entV x (.slice D x.data.length c) := rfl
theorem entV_length (x : EntV) (v : Value) : (entV x v).length = 11 := rfl
abbrev EntP := EntV × Value
def rowE (xs : List EntP) : List Value := xs.flatMap fun x => entV x.1 x.2
theorem rowE_length (xs : List EntP) : (rowE xs).length = xs.length * 11 := by
  induction xs with
  | nil => rfl
  | cons x xs ih =>
    have e : rowE (x :: xs) = entV x.1 x.2 ++ rowE xs := rfl
    rw [e, List.length_append, entV_length, ih, List.length_cons]; omega
theorem rowE_get (xs : List EntP) (j i : Nat) (hj : j < xs.length) (hi : i < 11) : (rowE xs)[j * 11 + i]? = (entV xs[j].1 xs[j].2)[i]? := by
  induction xs generalizing j with
  | nil => simp at hj
  | cons x xs ih =>
    have e : rowE (x :: xs) = entV x.1 x.2 ++ rowE xs := rfl
    rw [e]
    cases j with
    | zero => rw [List.getElem?_append_left (by rw [entV_length]; omega)]; simp
    | succ j =>
      rw [List.getElem?_append_right (by rw [entV_length]; omega), entV_length, show (j + 1) * 11 + i - 11 = j * 11 + i by omega, ih j (by simpa using hj)]; rfl
/-- a row of nodes of the call's own -/
def RowE (w : World) (B : Nat) (v : Value) (xs : List EntP) : Prop := w.ownsRow B 26 11 v xs.length (rowE xs)
theorem RowE.nil (w : World) (B : Nat) : RowE w B (.slice none 0 0) [] := World.ownsRow_nil _ _ _ _
theorem RowE.below {w w' : World} {B : Nat} {v : Value} {xs : List EntP} (h : RowE w B v xs) (hb : Below w.heap.size w w') : RowE w' B v xs :=
  own_heap h fun g hg => hb.block g (World.ownsRow.lt h g hg).2
theorem RowE.drewN {w : World} {B n : Nat} {v : Value} {xs : List EntP} (h : RowE w B v xs) : RowE (w.drewN n) B v xs := h
theorem RowE.alloc {w : World} {B : Nat} {v : Value} {xs : List EntP} (h : RowE w B v xs) (o : Obj) : RowE (w.alloc o) B v xs := World.ownsRow.alloc h o
theorem RowE.form {w : World} {B : Nat} {v : Value} {xs : List EntP} (h : RowE w B v xs) : ∃ A c, v = .slice A xs.length c ∧ SlOk A xs.length c := by
  unfold RowE World.ownsRow at h
  rcases h.2 with ⟨rfl, h0⟩ | ⟨g, cap, cur, rfl, hB, hg, hcap, hm, hs, ht⟩
  · rw [h0]; exact ⟨none, 0, rfl, ⟨Nat.le_refl _, by decide, fun _ => rfl⟩⟩
  · exact ⟨some ⟨g, 0, none⟩, cap, rfl, ⟨hcap, hm, fun e => by cases e⟩⟩
theorem RowE.at {w : World} {B : Nat} {v : Value} {xs : List EntP} (h : RowE w B v xs) (hd : ∀ x ∈ xs, DatOk w x.2 x.1.data) : ∃ A c, v = .slice A xs.length c ∧ SlOk A xs.length c ∧ EntsAt w A (xs.map (·.1)) := by
  have h' := h
  unfold RowE World.ownsRow at h
  rcases h.2 with ⟨rfl, h0⟩ | ⟨g, cap, cur, rfl, hB, hg, hcap, hm, hs, ht⟩
  · have e := List.eq_nil_of_length_eq_zero h0
    subst e
    exact ⟨none, 0, rfl, ⟨Nat.le_refl _, by decide, fun _ => rfl⟩, EntsAt.nil _ _⟩
  · refine ⟨some ⟨g, 0, none⟩, cap, rfl, ⟨hcap, hm, fun e => by cases e⟩, fun j hj => ?_⟩
    have hj' : j < xs.length := by simpa using hj
    obtain ⟨D, c, e, h1, h2⟩ := hd _ (List.getElem_mem hj')
    rw [List.getElem_map]
    refine ⟨g, 0, D, c, rfl, fun i hi => ?_, h1, h2⟩
    rw [Nat.zero_add, World.ownsRow.cellAt h' (j * 11 + i) (by omega), rowE_get xs j i hj' hi, e]; rfl
/-- a list of nodes of the call's own, their data too -/
def OwnE (w : World) (B : Nat) (v : Value) (xs : List EntP) : Prop := RowE w B v xs ∧ ∀ x ∈ xs, OwnB w B x.2 x.1.data
theorem OwnE.nil (w : World) (B : Nat) : OwnE w B (.slice none 0 0) [] := ⟨RowE.nil _ _, fun x hx => by simp at hx⟩
theorem OwnE.below {w w' : World} {B : Nat} {v : Value} {xs : List EntP} (h : OwnE w B v xs) (hb : Below w.heap.size w w') : OwnE w' B v xs := ⟨h.1.below hb, fun x hx => (h.2 x hx).below hb⟩
theorem OwnE.at {w : World} {B : Nat} {v : Value} {xs : List EntP} (h : OwnE w B v xs) : ∃ A c, v = .slice A xs.length c ∧ SlOk A xs.length c ∧ EntsAt w A (xs.map (·.1)) := h.1.at fun x hx => (h.2 x hx).dat
theorem RowE.mono {w : World} {B B' : Nat} {v : Value} {xs : List EntP} (h : RowE w B v xs) (hB : B' ≤ B) : RowE w B' v xs := own_mono h hB
theorem OwnE.mono {w : World} {B B' : Nat} {v : Value} {xs : List EntP} (h : OwnE w B v xs) (hB : B' ≤ B) : OwnE w B' v xs := ⟨h.1.mono hB, fun x hx => (h.2 x hx).mono hB⟩
/-- rows of bytes are no rows of nodes -/
theorem own_apartE {w : World} {B B' : Nat} {v u : Value} {l : List UInt8} {xs : List EntP} (h : OwnB w B v l) (h' : RowE w B' u xs) : ∀ g, v.ownBlock = some g → u.ownBlock ≠ some g := by
  intro g hg hu
  obtain ⟨-, c1, e1⟩ := own_block h g hg
  obtain ⟨-, c2, e2⟩ := own_block h' g hu
  rw [e1] at e2
  simp only [Option.some.injEq, Obj.cells.injEq] at e2
  exact absurd e2.2.1 (by decide)
end Go.Proofs.YtldffnmoafhidaaGreatDoor
