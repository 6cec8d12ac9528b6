/- Texts of one kind, in one file: EntA, EntB, EntD, EntE, EntF, EntT. -/
import Derived.Test.YtoikpnjnljdpaaaGreatDoorNoa
import Derived.Test.YtoikpnjnljdpaaaGreatDoorMth
import Derived.Test.YtoikpnjnljdpaaaGreatDoorNod
import Derived.Deep.DeepCutAuto
import Derived.Test.YtoikpnjnljdpaaaGreatDoorTra
/- Members in memory; arguments that are members, and lists of them. -/
set_option linter.unusedVariables false
set_option maxRecDepth 100000
namespace Go.Proofs.YtoikpnjnljdpaaaGreatDoor
open Go.RowKit
open Go.OpenShut
open Go.ChangeShapes Go.WideShapes Go.Deep
theorem list11 {α : Type} {l : List α} (h : l.length = 11) : ∃ c0 c1 c2 c3 c4 c5 c6 c7 c8 c9 c10, l = [c0, c1, c2, c3, c4, c5, c6, c7, c8, c9, c10] := by
  match l, h with
  | [c0, c1, c2, c3, c4, c5, c6, c7, c8, c9, c10], _ => exact ⟨_, _, _, _, _, _, _, _, _, _, _, rfl⟩
theorem list5 {α : Type} {l : List α} (h : l.length = 5) : ∃ c0 c1 c2 c3 c4, l = [c0, c1, c2, c3, c4] := by
  match l, h with
  | [c0, c1, c2, c3, c4], _ => exact ⟨_, _, _, _, _, rfl⟩
/-- a member's cells, its data lying at D with room for c -/
def entC (x : EntV) (D : Option Addr) (c : Nat) : List Value :=
  [.string (bs x.path), .int .i64 x.kind, .string (bs x.target), .int .i64 x.md.mode, .int .i64 x.md.uid, .int .i64 x.md.gid, .string (bs x.md.user), .string (bs x.md.group), .int .i64 x.md.second, .int .i64 x.md.nano, .slice D x.data.length c]
theorem entC_length (x : EntV) (D : Option Addr) (c : Nat) : (entC x D c).length = 11 := rfl
/-- members in memory -/
def EntsAt (w : World) (A : Option Addr) (l : List EntV) : Prop :=
  ∀ j (hj : j < l.length), ∃ (b o : Nat) (D : Option Addr) (c : Nat), A = some ⟨b, o, none⟩ ∧ (∀ i, i < 11 → w.cell? ⟨b, o + j * 11 + i, none⟩ = (entC l[j] D c)[i]?) ∧ SlOk D l[j].data.length c ∧ BytsAt w D l[j].data
theorem EntsAt.nil (w : World) (A : Option Addr) : EntsAt w A [] := fun j hj => by simp at hj
theorem EntsAt.below {w w' : World} {A : Option Addr} {l : List EntV} (h : EntsAt w A l) (hb : Below w.heap.size w w') : EntsAt w' A l := fun j hj => by
  obtain ⟨b, o, D, c, e, h11, hs, hd⟩ := h j hj
  have hlt : b < w.heap.size := World.block_lt_of_cell? w _ (h11 0 (by omega))
  exact ⟨b, o, D, c, e, fun i hi => (hb.cell (p := ⟨b, o + j * 11 + i, none⟩) hlt).trans (h11 i hi), hs, hd.below hb⟩
def EntV.wf (x : EntV) : Prop := (x.path.length ≤ 140737488351232 ∧ x.target.length ≤ 140737488351232 ∧ x.data.length ≤ 140737488351232) ∧ x.md.wf ∧ (Lit.int .i64 x.kind).wf = true
section
variable {H : Type} {enc : TypeId × Value → H} {w : World} {base : Nat} {spare : Nat → Bool} {held : Bool}
theorem ent_flds : ∃ f0 f1 f2 f3 f4 : Field, Tryz.prog.underlying 45 = some (.struct #[f0, f1, f2, f3, f4]) ∧
    (f0.type = 9 ∧ f1.type = 3 ∧ f2.type = 9 ∧ f3.type = 42 ∧ f4.type = 43) ∧ (f0.offset = 0 ∧ f1.offset = 1 ∧ f2.offset = 2 ∧ f3.offset = 3 ∧ f4.offset = 10) :=
  ⟨_, _, _, _, _, Tryz.underlying45, ⟨rfl, rfl, rfl, rfl, rfl⟩, ⟨rfl, rfl, rfl, rfl, rfl⟩⟩
theorem ent_of {fuel : Nat} {cs : List Value} {x : DataW H × List MemPlace} (h : DataW.trod enc Tryz.prog w base spare held fuel 45 cs = some x) (hwt : ∀ y ∈ x.1.weights Tryz.prog 45, y ≤ reachBytes) :
    ∃ (n : EntV) (D : Option Addr) (c : Nat), cs = entC n D c ∧ n.wf ∧ SlOk D n.data.length c ∧ BytsAt w D n.data := by
  obtain ⟨f0, f1, f2, f3, f4, he, ⟨t0, t1, t2, t3, t4⟩, o0, o1, o2, o3, o4⟩ := ent_flds
  obtain ⟨ys, n', hn', hy, hlen, hyl, hf⟩ := DataW.trod_struct he h
  rw [show Tryz.prog.cellsOf 45 = 11 by kernel_rfl] at hlen
  have ks : Tryz.prog.cellsOf 9 = 1 := by kernel_rfl
  have ki : Tryz.prog.cellsOf 3 = 1 := by kernel_rfl
  have km : Tryz.prog.cellsOf 42 = 7 := by kernel_rfl
  have kb : Tryz.prog.cellsOf 43 = 1 := by kernel_rfl
  have hd : x.1 = .agg (ys.map (·.1)) := by rw [hy]
  have hr4 : reachBytes = 140737488351232 := rfl
  obtain ⟨c0, c1, c2, c3, c4, c5, c6, c7, c8, c9, c10, c11, rfl⟩ := list11 hlen
  obtain ⟨y0, y1, y2, y3, y4, rfl⟩ := list5 hyl
  have h0 := hf 0 f0 rfl
  have h1 := hf 1 f1 rfl
  have h2 := hf 2 f2 rfl
  have h3 := hf 3 f3 rfl
  have h4 := hf 4 f4 rfl
  rw [t0, o0, ks] at h0
  rw [t1, o1, ki] at h1
  rw [t2, o2, ks] at h2
  rw [t3, o3, km] at h3
  rw [t4, o4, kb] at h4
  have W0 : ∀ (j : Nat) (f : Field) (y : DataW H × List MemPlace), (#[f0, f1, f2, f3, f4] : Array Field)[j]? = some f → [y0, y1, y2, y3, y4][j]? = some y → ∀ z ∈ y.1.weights Tryz.prog f.type, z ≤ reachBytes := by
    intro j f y hj hy' z hz
    refine hwt _ ?_
    rw [hd]
    exact weights_fld he (j := j) (f := f) (d := y.1) hj (by rw [List.getElem?_map, hy']; rfl) _ hz
  have W : ∀ (j : Nat) (f : Field) (y : DataW H × List MemPlace) (s : ByteArray), (#[f0, f1, f2, f3, f4] : Array Field)[j]? = some f → [y0, y1, y2, y3, y4][j]? = some y → y.1 = .lit (.string s.data.toList) → s.data.toList.length ≤ 140737488351232 := by
    intro j f y s hj hy' hx
    have := W0 j f y hj hy' s.data.toList.length (by rw [hx]; exact reach_str)
    rw [hr4] at this; exact this
  obtain ⟨s0, q0, x0, -⟩ := DataW.trod_string Tryz.underlying9 (show DataW.trod enc Tryz.prog w base spare held n' 9 [c0] = some y0 from h0)
  obtain ⟨n1, q1, x1, w1⟩ := DataW.trod_int Tryz.underlying3 (show DataW.trod enc Tryz.prog w base spare held n' 3 [c1] = some y1 from h1)
  obtain ⟨s2, q2, x2, -⟩ := DataW.trod_string Tryz.underlying9 (show DataW.trod enc Tryz.prog w base spare held n' 9 [c2] = some y2 from h2)
  have W3 := W0 3 f3 y3 rfl rfl
  have W4 := W0 4 f4 y4 rfl rfl
  rw [t3] at W3
  rw [t4] at W4
  obtain ⟨md, q3, w3⟩ := meta_of (show DataW.trod enc Tryz.prog w base spare held n' 42 [c3, c4, c5, c6, c7, c8, c9] = some y3 from h3) W3
  obtain ⟨D, m, c, l, q4, hl, hm, hs, hb⟩ := byts_of (show DataW.trod enc Tryz.prog w base spare held n' 43 [c10] = some y4 from h4) W4
  simp only [List.cons.injEq, and_true] at q0 q1 q2 q4
  unfold metA at q3
  simp only [List.cons.injEq, and_true] at q3
  obtain ⟨k4, k5, k6, k7, k8, k9, k10⟩ := q3
  subst q0 q1 q2 q4 k4 k5 k6 k7 k8 k9 k10 hl
  refine ⟨⟨s0.data.toList, n1, s2.data.toList, md, l⟩, D, c, ?_, ⟨⟨W 0 f0 y0 s0 rfl rfl (by rw [x0]), W 2 f2 y2 s2 rfl rfl (by rw [x2]), hm⟩, w3, w1⟩, hs, hb⟩
  unfold entC
  simp only [bs_of]
theorem open_ent {r : Reach} {b0 : Nat} {v : Value} {d : DataW H} {p : List MemPlace} (hv : Value.okWide Tryz.prog w r b0 45 v) (h : DataW.Trod enc Tryz.prog w base spare held 45 v d p) (hwt : ∀ x ∈ d.weights Tryz.prog 45, x ≤ reachBytes) :
    ∃ (a : EntV) (D : Option Addr) (c : Nat), v = .agg (entC a D c).toArray ∧ a.wf ∧ SlOk D a.data.length c ∧ BytsAt w D a.data := by
  obtain ⟨f0, f1, f2, f3, f4, he, -⟩ := ent_flds
  obtain ⟨cs, rfl, hsz⟩ := okWide_struct he hv
  obtain ⟨fuel, hf⟩ := h
  obtain ⟨n, D, c, e, h1, h2, h3⟩ := ent_of (show DataW.trod enc Tryz.prog w base spare held fuel 45 cs.toList = some (d, p) from hf) hwt
  exact ⟨n, D, c, by rw [← e], h1, h2, h3⟩
theorem open_ents {v : Value} {d : DataW H} {p : List MemPlace} (hv : ∃ a len cap, v = .slice a len cap) (h : DataW.Trod enc Tryz.prog w base spare held 24 v d p) (hwt : ∀ x ∈ d.weights Tryz.prog 24, x ≤ reachBytes) :
    ∃ (A : Option Addr) (n c : Nat) (l : List EntV), v = .slice A n c ∧ l.length = n ∧ n * 136 ≤ 140737488351232 ∧ (∀ r ∈ l, r.wf) ∧ SlOk A n c ∧ EntsAt w A l := by
  obtain ⟨a0, len0, cap0, rfl⟩ := hv
  obtain ⟨fuel, hf⟩ := h
  rcases open_slice Tryz.underlying24 hf with ⟨hcs, hx⟩ | ⟨a, len, cap, m, n', D, Pl, hcs, hb, hl, hm, hmm, hx, hi⟩
  · simp only [Value.cells, List.cons.injEq, Value.slice.injEq, and_true] at hcs
    obtain ⟨rfl, rfl, rfl⟩ := hcs
    exact ⟨none, 0, 0, [], rfl, rfl, by omega, (fun r hr => by simp at hr), ⟨Nat.le_refl _, by decide, fun _ => rfl⟩, EntsAt.nil _ _⟩
  · simp only [Value.cells, List.cons.injEq, Value.slice.injEq, and_true] at hcs
    obtain ⟨rfl, rfl, rfl⟩ := hcs
    have hlm : len0 ≤ m := by rw [hmm]; split <;> omega
    simp only [Prod.mk.injEq] at hx
    obtain ⟨hxd, -⟩ := hx
    subst hxd
    have hr4 : reachBytes = 140737488351232 := rfl
    have hn : len0 * 136 ≤ 140737488351232 := by
      have h1 := hwt _ (weights_len Tryz.underlying24)
      rw [hr4] at h1
      have h2 : Tryz.prog.bytesOf 45 = 136 := by kernel_rfl
      rw [h2] at h1
      simp only [List.length_map, List.length_range] at h1
      omega
    have key : ∀ i, i < len0 → ∃ y : EntV × Option Addr × Nat, y.1.wf ∧ SlOk y.2.1 y.1.data.length y.2.2 ∧ BytsAt w y.2.1 y.1.data ∧ ∀ j, j < 11 → w.cell? (a.add (i * 11 + j)) = (entC y.1 y.2.1 y.2.2)[j]? := fun i hil => by
      obtain ⟨cs', hc, ht'⟩ := hi i (by omega)
      rw [show Tryz.prog.cellsOf 45 = 11 by kernel_rfl] at hc
      obtain ⟨_, hcl, hat⟩ := World.cells?_some hc
      obtain ⟨n, Dd, c, e, h1, h2, h3⟩ := ent_of ht' (fun y hy => hwt _ (weights_slice Tryz.underlying24 (d := D i) (List.mem_map.2 ⟨i, List.mem_range.2 hil, rfl⟩) _ hy))
      refine ⟨⟨n, Dd, c⟩, h1, h2, h3, fun j hj => ?_⟩
      rw [← Go.Deep.add_add, hat j hj, e]
    obtain ⟨f, hfx⟩ := choose_lt key
    refine ⟨some a, len0, cap0, (List.range len0).map fun i => (f i).1, rfl, by simp, hn, fun r hr => ?_, ⟨hl, hm, fun e => by cases e⟩, fun j hj => ?_⟩
    · obtain ⟨i, hi1, rfl⟩ := List.mem_map.1 hr
      exact (hfx i (List.mem_range.1 hi1)).1
    · have hj' : j < len0 := by simpa using hj
      obtain ⟨b, o, sp⟩ := a
      have hsp : sp = none := by
        have h0 := (hfx 0 (by omega)).2.2.2 0 (by omega)
        have h1 : w.cell? (Addr.mk b o sp) = some (.string (bs (f 0).1.path)) := by simpa [Addr.add, entC] using h0
        simpa using World.cell?_spot h1
      subst hsp
      obtain ⟨k1, k2, k3, k4⟩ := hfx j hj'
      rw [List.getElem_map, List.getElem_range]
      refine ⟨b, o, (f j).2.1, (f j).2.2, rfl, fun i hi11 => ?_, k2, k3⟩
      rw [← k4 i hi11]
      unfold Addr.add
      split
      · rename_i h; congr 1; first | (simp; done) | (simp; omega)
      · congr 1; first | (simp; done) | (simp; omega)
end
end Go.Proofs.YtoikpnjnljdpaaaGreatDoor
/- Lists of members of the call's own. -/
set_option linter.unusedVariables false
set_option maxRecDepth 100000
namespace Go.Proofs.YtoikpnjnljdpaaaGreatDoor
open Go.RowKit
open Go.OpenShut
/-- a member's cells, the slice of its data being v -/
def entV (x : EntV) (v : Value) : List Value :=
  [.string (bs x.path), .int .i64 x.kind, .string (bs x.target), .int .i64 x.md.mode, .int .i64 x.md.uid, .int .i64 x.md.gid, .string (bs x.md.user), .string (bs x.md.group), .int .i64 x.md.second, .int .i64 x.md.nano, v]
theorem entC_eq (x : EntV) (D : Option Addr) (c : Nat) : entC x D c = entV x (.slice D x.data.length c) := rfl
theorem entV_length (x : EntV) (v : Value) : (entV x v).length = 11 := rfl
theorem entV_one (x : EntV) (D : Option Addr) (n c : Nat) : ∀ u ∈ entV x (.slice D n c), u.oneCell' = true := by
  intro u hu
  simp only [entV, List.mem_cons, List.not_mem_nil, or_false] at hu
  rcases hu with rfl | rfl | rfl | rfl | rfl | rfl | rfl | rfl | rfl | rfl | rfl <;> rfl
abbrev EntP := EntV × Value
def rowE (xs : List EntP) : List Value := xs.flatMap fun x => entV x.1 x.2
theorem rowE_nil : rowE [] = [] := rfl
theorem rowE_app (xs ys : List EntP) : rowE (xs ++ ys) = rowE xs ++ rowE ys := by simp [rowE]
theorem rowE_one (x : EntP) : rowE [x] = entV x.1 x.2 := by simp [rowE]
theorem rowE_length (xs : List EntP) : (rowE xs).length = xs.length * 11 := by
  induction xs with
  | nil => rfl
  | cons x xs ih =>
    have e : rowE (x :: xs) = entV x.1 x.2 ++ rowE xs := rfl
    rw [e, List.length_append, entV_length, ih, List.length_cons]; omega
theorem rowE_get (xs : List EntP) (j i : Nat) (hj : j < xs.length) (hi : i < 11) : (rowE xs)[j * 11 + i]? = (entV xs[j].1 xs[j].2)[i]? := by
  induction xs generalizing j with
  | nil => simp at hj
  | cons x xs ih =>
    have e : rowE (x :: xs) = entV x.1 x.2 ++ rowE xs := rfl
    rw [e]
    cases j with
    | zero => rw [List.getElem?_append_left (by rw [entV_length]; omega)]; simp
    | succ j =>
      rw [List.getElem?_append_right (by rw [entV_length]; omega), entV_length, show (j + 1) * 11 + i - 11 = j * 11 + i by omega, ih j (by simpa using hj)]; rfl
theorem rowE_set (xs : List EntP) (j : Nat) (v : Value) (hj : j < xs.length) : (rowE xs).set (j * 11 + 10) v = rowE (xs.set j (xs[j].1, v)) := by
  induction xs generalizing j with
  | nil => simp at hj
  | cons x xs ih =>
    have e : ∀ (y : EntP) (ys : List EntP), rowE (y :: ys) = entV y.1 y.2 ++ rowE ys := fun _ _ => rfl
    rw [e]
    cases j with
    | zero =>
      rw [Nat.zero_mul, Nat.zero_add, List.set_append_left _ _ (by rw [entV_length]; omega)]
      simp only [List.getElem_cons_zero, List.set_cons_zero]
      rw [e]; rfl
    | succ j =>
      rw [List.set_append_right _ _ (by rw [entV_length]; omega), entV_length, show (j + 1) * 11 + 10 - 11 = j * 11 + 10 by omega]
      simp only [List.getElem_cons_succ, List.set_cons_succ]
      rw [ih j (by simpa using hj), e]
/-- a row of nodes of the call's own -/
def RowE (w : World) (B : Nat) (v : Value) (xs : List EntP) : Prop := w.ownsRow B 45 11 v xs.length (rowE xs)
theorem RowE.nil (w : World) (B : Nat) : RowE w B (.slice none 0 0) [] := World.ownsRow_nil _ _ _ _
theorem RowE.below {w w' : World} {B : Nat} {v : Value} {xs : List EntP} (h : RowE w B v xs) (hb : Below w.heap.size w w') : RowE w' B v xs :=
  own_heap h fun g hg => hb.block g (World.ownsRow.lt h g hg).2
theorem RowE.drewN {w : World} {B n : Nat} {v : Value} {xs : List EntP} (h : RowE w B v xs) : RowE (w.drewN n) B v xs := h
theorem RowE.alloc {w : World} {B : Nat} {v : Value} {xs : List EntP} (h : RowE w B v xs) (o : Obj) : RowE (w.alloc o) B v xs := World.ownsRow.alloc h o
theorem RowE.form {w : World} {B : Nat} {v : Value} {xs : List EntP} (h : RowE w B v xs) : ∃ A c, v = .slice A xs.length c ∧ SlOk A xs.length c := by
  unfold RowE World.ownsRow at h
  rcases h.2 with ⟨rfl, h0⟩ | ⟨g, cap, cur, rfl, hB, hg, hcap, hm, hs, ht⟩
  · rw [h0]; exact ⟨none, 0, rfl, ⟨Nat.le_refl _, by decide, fun _ => rfl⟩⟩
  · exact ⟨some ⟨g, 0, none⟩, cap, rfl, ⟨hcap, hm, fun e => by cases e⟩⟩
theorem RowE.at {w : World} {B : Nat} {v : Value} {xs : List EntP} (h : RowE w B v xs) (hd : ∀ x ∈ xs, DatOk w x.2 x.1.data) : ∃ A c, v = .slice A xs.length c ∧ SlOk A xs.length c ∧ EntsAt w A (xs.map (·.1)) := by
  have h' := h
  unfold RowE World.ownsRow at h
  rcases h.2 with ⟨rfl, h0⟩ | ⟨g, cap, cur, rfl, hB, hg, hcap, hm, hs, ht⟩
  · have e := List.eq_nil_of_length_eq_zero h0
    subst e
    exact ⟨none, 0, rfl, ⟨Nat.le_refl _, by decide, fun _ => rfl⟩, EntsAt.nil _ _⟩
  · refine ⟨some ⟨g, 0, none⟩, cap, rfl, ⟨hcap, hm, fun e => by cases e⟩, fun j hj => ?_⟩
    have hj' : j < xs.length := by simpa using hj
    obtain ⟨D, c, e, h1, h2⟩ := hd _ (List.getElem_mem hj')
    rw [List.getElem_map]
    refine ⟨g, 0, D, c, rfl, fun i hi => ?_, h1, h2⟩
    rw [Nat.zero_add, World.ownsRow.cellAt h' (j * 11 + i) (by omega), rowE_get xs j i hj' hi, e]; rfl
/-- a list of nodes of the call's own, their data too -/
def OwnE (w : World) (B : Nat) (v : Value) (xs : List EntP) : Prop := RowE w B v xs ∧ ∀ x ∈ xs, OwnB w B x.2 x.1.data
theorem OwnE.nil (w : World) (B : Nat) : OwnE w B (.slice none 0 0) [] := ⟨RowE.nil _ _, fun x hx => by simp at hx⟩
theorem OwnE.below {w w' : World} {B : Nat} {v : Value} {xs : List EntP} (h : OwnE w B v xs) (hb : Below w.heap.size w w') : OwnE w' B v xs := ⟨h.1.below hb, fun x hx => (h.2 x hx).below hb⟩
theorem OwnE.at {w : World} {B : Nat} {v : Value} {xs : List EntP} (h : OwnE w B v xs) : ∃ A c, v = .slice A xs.length c ∧ SlOk A xs.length c ∧ EntsAt w A (xs.map (·.1)) := h.1.at fun x hx => (h.2 x hx).dat
theorem RowE.mono {w : World} {B B' : Nat} {v : Value} {xs : List EntP} (h : RowE w B v xs) (hB : B' ≤ B) : RowE w B' v xs := own_mono h hB
theorem OwnE.mono {w : World} {B B' : Nat} {v : Value} {xs : List EntP} (h : OwnE w B v xs) (hB : B' ≤ B) : OwnE w B' v xs := ⟨h.1.mono hB, fun x hx => (h.2 x hx).mono hB⟩
/-- rows of bytes are no rows of nodes -/
theorem own_apartE {w : World} {B B' : Nat} {v u : Value} {l : List UInt8} {xs : List EntP} (h : OwnB w B v l) (h' : RowE w B' u xs) : ∀ g, v.ownBlock = some g → u.ownBlock ≠ some g := by
  intro g hg hu
  obtain ⟨-, c1, e1⟩ := own_block h g hg
  obtain ⟨-, c2, e2⟩ := own_block h' g hu
  rw [e1] at e2
  simp only [Option.some.injEq, Obj.cells.injEq] at e2
  exact absurd e2.2.1 (by decide)
theorem einfo : (Tryz.prog.info? 45).map (fun i => (i.zero.map (fun v => v.cells.size), i.size, i.bytes)) = some (some 11, 11, 136) := by kernel_rfl
end Go.Proofs.YtoikpnjnljdpaaaGreatDoor
/- The reference's finding. -/
set_option linter.unusedVariables false
set_option maxRecDepth 100000
namespace Go.Proofs.YtoikpnjnljdpaaaGreatDoor
open Go.RowKit
open Go.OpenShut
theorem blk11 {w : World} {g t : Nat} {a0 a1 a2 a3 a4 a5 a6 a7 a8 a9 a10 : Value} (h : Blk w g t #[a0, a1, a2, a3, a4, a5, a6, a7, a8, a9, a10]) :
    (w.cell? ⟨g, 0, none⟩ = some a0 ∧ w.cell? ⟨g, 1, none⟩ = some a1 ∧ w.cell? ⟨g, 2, none⟩ = some a2 ∧ w.cell? ⟨g, 3, none⟩ = some a3 ∧ w.cell? ⟨g, 4, none⟩ = some a4 ∧ w.cell? ⟨g, 5, none⟩ = some a5 ∧ w.cell? ⟨g, 6, none⟩ = some a6 ∧ w.cell? ⟨g, 7, none⟩ = some a7 ∧ w.cell? ⟨g, 8, none⟩ = some a8 ∧ w.cell? ⟨g, 9, none⟩ = some a9 ∧ w.cell? ⟨g, 10, none⟩ = some a10) ∧
    (w.frozen? ⟨g, 0, none⟩ = false ∧ w.frozen? ⟨g, 1, none⟩ = false ∧ w.frozen? ⟨g, 2, none⟩ = false ∧ w.frozen? ⟨g, 3, none⟩ = false ∧ w.frozen? ⟨g, 4, none⟩ = false ∧ w.frozen? ⟨g, 5, none⟩ = false ∧ w.frozen? ⟨g, 6, none⟩ = false ∧ w.frozen? ⟨g, 7, none⟩ = false ∧ w.frozen? ⟨g, 8, none⟩ = false ∧ w.frozen? ⟨g, 9, none⟩ = false ∧ w.frozen? ⟨g, 10, none⟩ = false) :=
  ⟨⟨h.cell 0, h.cell 1, h.cell 2, h.cell 3, h.cell 4, h.cell 5, h.cell 6, h.cell 7, h.cell 8, h.cell 9, h.cell 10⟩, h.frozen 0, h.frozen 1, h.frozen 2, h.frozen 3, h.frozen 4, h.frozen 5, h.frozen 6, h.frozen 7, h.frozen 8, h.frozen 9, h.frozen 10⟩
/-- the cells of the j-th member -/
theorem EntsAt.cells {w : World} {A : Option Addr} {l : List EntV} (h : EntsAt w A l) (j : Nat) (hj : j < l.length) : ∃ (b o : Nat) (D : Option Addr) (c : Nat), A = some ⟨b, o, none⟩ ∧
    w.cell? ⟨b, o + j * 11, none⟩ = some (.string (bs l[j].path)) ∧ w.cell? ⟨b, o + j * 11 + 1, none⟩ = some (.int .i64 l[j].kind) ∧ w.cell? ⟨b, o + j * 11 + 2, none⟩ = some (.string (bs l[j].target)) ∧
    (w.cell? ⟨b, o + j * 11 + 3, none⟩ = some (.int .i64 l[j].md.mode) ∧ w.cell? ⟨b, o + j * 11 + 4, none⟩ = some (.int .i64 l[j].md.uid) ∧ w.cell? ⟨b, o + j * 11 + 5, none⟩ = some (.int .i64 l[j].md.gid) ∧ w.cell? ⟨b, o + j * 11 + 6, none⟩ = some (.string (bs l[j].md.user)) ∧ w.cell? ⟨b, o + j * 11 + 7, none⟩ = some (.string (bs l[j].md.group)) ∧ w.cell? ⟨b, o + j * 11 + 8, none⟩ = some (.int .i64 l[j].md.second) ∧ w.cell? ⟨b, o + j * 11 + 9, none⟩ = some (.int .i64 l[j].md.nano)) ∧
    w.cell? ⟨b, o + j * 11 + 10, none⟩ = some (.slice D l[j].data.length c) ∧ SlOk D l[j].data.length c ∧ BytsAt w D l[j].data := by
  obtain ⟨b, o, D, c, e, h12, hs, hd⟩ := h j hj
  exact ⟨b, o, D, c, e, h12 0 (by omega), h12 1 (by omega), h12 2 (by omega), ⟨h12 3 (by omega), h12 4 (by omega), h12 5 (by omega), h12 6 (by omega), h12 7 (by omega), h12 8 (by omega), h12 9 (by omega)⟩, h12 10 (by omega), hs, hd⟩
theorem EntsAt.take {w : World} {A : Option Addr} {l : List EntV} (h : EntsAt w A l) (k : Nat) : EntsAt w A (l.take k) := fun j hj => by
  have hj' : j < l.length := by rw [List.length_take] at hj; omega
  have := h j hj'
  rwa [List.getElem_take]
end Go.Proofs.YtoikpnjnljdpaaaGreatDoor
/- Nodes that are the same. -/
set_option linter.unusedVariables false
set_option maxRecDepth 100000
namespace Go.Proofs.YtoikpnjnljdpaaaGreatDoor
open Go.RowKit
open Go.OpenShut
set_option maxHeartbeats 4000000 in
theorem sameEntry_any (x y : EntV) (D E : Option Addr) (c d : Nat) (w : World) (hD : BytsAt w D x.data) (hE : BytsAt w E y.data) : Calls Tryz.prog 20 #[.agg (entC x D c).toArray, .agg (entC y E d).toArray] w fun e w' => e = .returned (.bool (decide (x = y))) ∧ Below w.heap.size w w' := by
  have hq := meta_eql x.md y.md
  have HS := Lib.hid fun W h h' => same_any D E x.data.length c y.data.length d x.data y.data rfl rfl W h h'
  have hx : decide (x = y) = (decide (x.path = y.path) && (decide (x.kind = y.kind) && (decide (x.target = y.target) && (metB x.md y.md && (x.data == y.data))))) := by
    rw [Bool.eq_iff_iff, decide_eq_true_eq, ← EntV.ext_iff']
    unfold metB
    simp only [Bool.and_eq_true, beq_iff_eq, decide_eq_true_eq]
  have q1 := bs_eq (a := x.path) (b := y.path)
  have q4 := bs_eq (a := x.target) (b := y.target)
  obtain ⟨xp, xk, xt, ⟨x0, x1, x2, x3, x4, x5, x6⟩, xd⟩ := x
  obtain ⟨yp, yk, yt, ⟨y0, y1, y2, y3, y4, y5, y6⟩, yd⟩ := y
  simp only at hq HS hx q1 q4 hD hE
  generalize metB _ _ = mb at hq hx
  generalize (xd == yd) = db at HS hx
  rw [hx]
  have HX := Lib.hid hx
  clear hx
  unfold entC
  unfold metA at hq
  simp only at hq ⊢
  obtain ⟨P, hP⟩ := hid_name (bs xp)
  obtain ⟨Q, hQ⟩ := hid_name (bs yp)
  obtain ⟨T, hT⟩ := hid_name (bs xt)
  obtain ⟨U, hU⟩ := hid_name (bs yt)
  rw [hP.out, hQ.out] at q1
  rw [hT.out, hU.out] at q4
  rw [hP.out, hQ.out, hT.out, hU.out]
  have hw2 : ∀ o o', Below w.heap.size w ((w.alloc o).alloc o') := fun o o' => belowA (belowA (Below.refl _ _) o) o'
  have HW2 := Lib.hid hw2
  have HD := Lib.hid fun o o' => hD.below (hw2 o o')
  have HE := Lib.hid fun o o' => hE.below (hw2 o o')
  have HS2 := Lib.hid fun o o' => HS.out _ (HD.out o o') (HE.out o o')
  clear hw2 hD hE HD HE HS hP hQ hT hU
  by_cases e1 : xp = yp
  · rw [decide_eq_true e1] at q1 ⊢
    clear e1
    by_cases e2 : xk = yk
    · subst e2
      by_cases e4 : xt = yt
      · rw [decide_eq_true e4] at q4 ⊢
        clear e4
        cases mb
        · simp only [decide_true, Bool.true_and, Bool.false_and]
          go_enter Tryz.func20, Tryz.ntmps20
          go_wp2_with fail
          go_ret
          exact ⟨rfl, HW2.out _ _⟩
        · simp only [decide_true, Bool.true_and]
          go_enter Tryz.func20, Tryz.ntmps20
          go_wp2_with fail
          refine (HS2.out _ _).mono ?_; rintro e w3 ⟨rfl, rfl⟩
          go_wp2_with fail
          go_ret
          exact ⟨rfl, HW2.out _ _⟩
      · rw [decide_eq_false e4] at q4 ⊢
        simp only [decide_true, Bool.true_and, Bool.false_and]
        clear e4
        go_enter Tryz.func20, Tryz.ntmps20
        go_wp2_with fail
        go_ret
        exact ⟨rfl, HW2.out _ _⟩
    · rw [decide_eq_false e2]
      simp only [Bool.true_and, Bool.false_and]
      have e2b : (xk == yk) = false := by simpa using e2
      clear e2
      go_enter Tryz.func20, Tryz.ntmps20
      go_wp2_with fail
      go_ret
      exact ⟨rfl, HW2.out _ _⟩
  · rw [decide_eq_false e1] at q1 ⊢
    simp only [Bool.false_and]
    clear e1
    go_enter Tryz.func20, Tryz.ntmps20
    go_wp2_with fail
    go_ret
    exact ⟨rfl, HW2.out _ _⟩
end Go.Proofs.YtoikpnjnljdpaaaGreatDoor
/- Trees that are the same. -/
set_option linter.unusedVariables false
set_option maxRecDepth 100000
namespace Go.Proofs.YtoikpnjnljdpaaaGreatDoor
open Go.RowKit
open Go.OpenShut
set_option maxHeartbeats 4000000 in
theorem EqualFuncE_any (f : Nat) (hf : ∀ (x y : EntV) (D E : Option Addr) (c d : Nat) (w : World), BytsAt w D x.data → BytsAt w E y.data → Calls Tryz.prog f #[.agg (entC x D c).toArray, .agg (entC y E d).toArray] w fun e w' => e = .returned (.bool (decide (x = y))) ∧ Below w.heap.size w w')
    (ef : ∀ args w, (callFunc f args).run Tryz.prog w = .ok (.enter f args) w)
    (A A2 : Option Addr) (n c n2 c2 : Nat) (l l2 : List EntV) (hn : l.length = n) (hn2 : l2.length = n2) (hm : n ≤ 140737488355328) (hm2 : n2 ≤ 140737488355328) (w : World) (hA : EntsAt w A l) (hA2 : EntsAt w A2 l2) :
    Calls Tryz.prog 19 #[.slice A n c, .slice A2 n2 c2, .func (.func f) #[] #[]] w fun e w' => e = .returned (.bool (decide (l = l2))) ∧ Below w.heap.size w w' := by
  have HN := Lib.hid hn
  have HN2 := Lib.hid hn2
  have HA := Lib.hid hA
  have HA2 := Lib.hid hA2
  have HF := Lib.hid hf
  clear hn hn2 hA hA2 hf
  by_cases hne : n = n2
  · subst hne
    go_enter Tryz.func19, Tryz.ntmps19
    go_wp2_with fail
    go_loopw [17] (fun i wr => ∃ k : Nat, k ≤ n ∧ i = .int .i64 k ∧ Hid (l.take k = l2.take k) ∧ Hid (Below w.heap.size w wr)) (fun i _ => n - (intOf i).toNat)
    case atStart => exact ⟨0, Nat.zero_le _, rfl, by unfold Hid; simp, Below.refl _ _⟩
    case round =>
      obtain ⟨k, hk, rfl, HE, HB⟩ := hrel
      by_cases hlt : k < n
      · have hk1 : k < l.length := by rw [HN.out]; exact hlt
        have hk2 : k < l2.length := by rw [HN2.out]; exact hlt
        obtain ⟨b, o, D, cc, rfl, c0, c1, c3, ⟨c4, c5, c6, c7, c8, c9, cA⟩, cB, -, hD⟩ := (HA.out.below HB.out).cells k hk1
        obtain ⟨b2, o2, D2, cc2, rfl, d0, d1, d3, ⟨d4, d5, d6, d7, d8, d9, dA⟩, dB, -, hD2⟩ := (HA2.out.below HB.out).cells k hk2
        have hb1 : b < wr.heap.size := World.block_lt_of_cell? wr _ c0
        have hb2 : b2 < wr.heap.size := World.block_lt_of_cell? wr _ d0
        have hne1 : b2 ≠ wr.heap.size := by omega
        generalize hx : l[k] = x at *
        generalize hy : l2[k] = y at *
        have HC := Lib.hid fun W h h' => HF.out x y D D2 cc cc2 W h h'
        unfold entC at HC
        have HD := Lib.hid hD
        have HD2 := Lib.hid hD2
        clear hD hD2
        by_cases e : x = y
        · have HE2 : Hid (l.take (k + 1) = l2.take (k + 1)) := by
            unfold Hid
            rw [List.take_succ_eq_append_getElem hk1, List.take_succ_eq_append_getElem hk2, HE.out, hx, hy, e]
          rw [decide_eq_true e] at HC
          clear e hx hy
          go_upto_region 7 with fail
          generalize hwa : (wr.alloc _).alloc _ = wa
          have HBa : Hid (Below wr.heap.size wr wa) := by rw [← hwa]; exact belowA (belowA (Below.refl _ _) _) _
          have HBl1 := Blk.alloc (Blk.new wr 45 #[.string (bs x.path), .int .i64 x.kind, .string (bs x.target), .int .i64 x.md.mode, .int .i64 x.md.uid, .int .i64 x.md.gid, .string (bs x.md.user), .string (bs x.md.group), .int .i64 x.md.second, .int .i64 x.md.nano, .slice D x.data.length cc]) (.cells #[.string (bs y.path), .int .i64 y.kind, .string (bs y.target), .int .i64 y.md.mode, .int .i64 y.md.uid, .int .i64 y.md.gid, .string (bs y.md.user), .string (bs y.md.group), .int .i64 y.md.second, .int .i64 y.md.nano, .slice D2 y.data.length cc2] 45)
          have HBl2 := Blk.new (wr.alloc (.cells #[.string (bs x.path), .int .i64 x.kind, .string (bs x.target), .int .i64 x.md.mode, .int .i64 x.md.uid, .int .i64 x.md.gid, .string (bs x.md.user), .string (bs x.md.group), .int .i64 x.md.second, .int .i64 x.md.nano, .slice D x.data.length cc] 45)) 45 #[.string (bs y.path), .int .i64 y.kind, .string (bs y.target), .int .i64 y.md.mode, .int .i64 y.md.uid, .int .i64 y.md.gid, .string (bs y.md.user), .string (bs y.md.group), .int .i64 y.md.second, .int .i64 y.md.nano, .slice D2 y.data.length cc2]
          rw [hwa] at HBl1 HBl2
          rw [hszA] at HBl2
          obtain ⟨⟨e0, e1, e3, e4, e5, e6, e7, e8, e9, eA, eB⟩, -⟩ := blk11 HBl1
          obtain ⟨⟨g0, g1, g3, g4, g5, g6, g7, g8, g9, gA, gB⟩, -⟩ := blk11 HBl2
          clear hwa c0 c1 c3 c4 c5 c6 c7 c8 c9 cA cB d0 d1 d3 d4 d5 d6 d7 d8 d9 dA dB HBl1 HBl2
          go_wp2_with fail
          refine (HC.out _ (HD.out.below HBa.out) (HD2.out.below HBa.out)).mono ?_; rintro e' w4 ⟨rfl, hb4⟩
          have HB4 := Lib.hid (HB.out.trans ((HBa.out.trans (hb4.mono HBa.out.size)).mono HB.out.size))
          clear hb4 e0 e1 e3 e4 e5 e6 e7 e8 e9 eA eB g0 g1 g3 g4 g5 g6 g7 g8 g9 gA gB
          go_wp2_with fail
          go_roundw
          case rel => exact ⟨k + 1, by omega, by go_num, HE2, HB4⟩
          case measure => simp [intOf]; omega
        · have HV : Hid (decide (l = l2) = false) := decide_eq_false (fun e2 => e (by rw [← hx, ← hy]; subst e2; rfl))
          rw [decide_eq_false e] at HC
          clear e hx hy
          go_upto_region 7 with fail
          generalize hwa : (wr.alloc _).alloc _ = wa
          have HBa : Hid (Below wr.heap.size wr wa) := by rw [← hwa]; exact belowA (belowA (Below.refl _ _) _) _
          have HBl1 := Blk.alloc (Blk.new wr 45 #[.string (bs x.path), .int .i64 x.kind, .string (bs x.target), .int .i64 x.md.mode, .int .i64 x.md.uid, .int .i64 x.md.gid, .string (bs x.md.user), .string (bs x.md.group), .int .i64 x.md.second, .int .i64 x.md.nano, .slice D x.data.length cc]) (.cells #[.string (bs y.path), .int .i64 y.kind, .string (bs y.target), .int .i64 y.md.mode, .int .i64 y.md.uid, .int .i64 y.md.gid, .string (bs y.md.user), .string (bs y.md.group), .int .i64 y.md.second, .int .i64 y.md.nano, .slice D2 y.data.length cc2] 45)
          have HBl2 := Blk.new (wr.alloc (.cells #[.string (bs x.path), .int .i64 x.kind, .string (bs x.target), .int .i64 x.md.mode, .int .i64 x.md.uid, .int .i64 x.md.gid, .string (bs x.md.user), .string (bs x.md.group), .int .i64 x.md.second, .int .i64 x.md.nano, .slice D x.data.length cc] 45)) 45 #[.string (bs y.path), .int .i64 y.kind, .string (bs y.target), .int .i64 y.md.mode, .int .i64 y.md.uid, .int .i64 y.md.gid, .string (bs y.md.user), .string (bs y.md.group), .int .i64 y.md.second, .int .i64 y.md.nano, .slice D2 y.data.length cc2]
          rw [hwa] at HBl1 HBl2
          rw [hszA] at HBl2
          obtain ⟨⟨e0, e1, e3, e4, e5, e6, e7, e8, e9, eA, eB⟩, -⟩ := blk11 HBl1
          obtain ⟨⟨g0, g1, g3, g4, g5, g6, g7, g8, g9, gA, gB⟩, -⟩ := blk11 HBl2
          clear hwa c0 c1 c3 c4 c5 c6 c7 c8 c9 cA cB d0 d1 d3 d4 d5 d6 d7 d8 d9 dA dB HBl1 HBl2
          go_wp2_with fail
          refine (HC.out _ (HD.out.below HBa.out) (HD2.out.below HBa.out)).mono ?_; rintro e' w4 ⟨rfl, hb4⟩
          have HB4 := Lib.hid (HB.out.trans ((HBa.out.trans (hb4.mono HBa.out.size)).mono HB.out.size))
          clear hb4 e0 e1 e3 e4 e5 e6 e7 e8 e9 eA eB g0 g1 g3 g4 g5 g6 g7 g8 g9 gA gB
          go_wp2_with fail
          go_ret
          exact ⟨ret_bool HV.out.symm, HB4.out⟩
      · obtain rfl : k = n := by omega
        have HV : Hid (decide (l = l2) = true) := by
          have := HE.out
          rw [List.take_of_length_le (by rw [HN.out]; omega), List.take_of_length_le (by rw [HN2.out]; omega)] at this
          exact decide_eq_true this
        go_wp2_with fail
        go_ret
        exact ⟨ret_bool HV.out.symm, HB.out⟩
  · have HV : Hid (decide (l = l2) = false) := decide_eq_false (fun e => hne (by rw [← HN.out, ← HN2.out, e]))
    have hne2 : ((n : Int) != (n2 : Int)) = true := by simp; omega
    clear hne
    go_enter Tryz.func19, Tryz.ntmps19
    go_wp2_with fail
    go_ret
    exact ⟨ret_bool HV.out.symm, Below.refl _ _⟩
theorem sameEntries_any (A A2 : Option Addr) (n c n2 c2 : Nat) (l l2 : List EntV) (hn : l.length = n) (hn2 : l2.length = n2) (hm : n ≤ 140737488355328) (hm2 : n2 ≤ 140737488355328) (w : World) (hA : EntsAt w A l) (hA2 : EntsAt w A2 l2) :
    Calls Tryz.prog 9 #[.slice A n c, .slice A2 n2 c2] w fun e w' => e = .returned (.bool (decide (l = l2))) ∧ Below w.heap.size w w' := by
  go_enter Tryz.func9, Tryz.ntmps9
  go_wp2_with fail
  refine (EqualFuncE_any 20 (fun x y D E c d w => sameEntry_any x y D E c d w) (enters_of Tryz.func20 (by kernel_rfl) rfl) A A2 n c n2 c2 l l2 hn hn2 hm hm2 _ hA hA2).mono ?_; rintro e w1 ⟨rfl, hb⟩
  go_wp2_with fail
  go_ret
  exact ⟨rfl, hb⟩
end Go.Proofs.YtoikpnjnljdpaaaGreatDoor
/- Rows of members: appending, cells in later worlds. -/
set_option linter.unusedVariables false
set_option maxRecDepth 100000
namespace Go.Proofs.YtoikpnjnljdpaaaGreatDoor
open Go.RowKit
open Go.OpenShut
open Go.Deep
def zeroE : Array Value := #[.string ⟨#[]⟩, .int .i64 0, .string ⟨#[]⟩, .int .i64 0, .int .i64 0, .int .i64 0, .string ⟨#[]⟩, .string ⟨#[]⟩, .int .i64 0, .int .i64 0, .slice none 0 0]
theorem zinfoE : (Tryz.prog.info? 45).map (fun i => (i.zero, i.size, i.bytes)) = some (some (.agg zeroE), 11, 136) := by kernel_rfl
theorem entV_one' (x : EntV) (v : Value) (hv : v.oneCell' = true) : ∀ u ∈ entV x v, u.oneCell' = true := by
  intro u hu
  unfold entV at hu
  simp only [List.mem_cons, List.not_mem_nil, or_false] at hu
  rcases hu with rfl | rfl | rfl | rfl | rfl | rfl | rfl | rfl | rfl | rfl | rfl
  all_goals first | rfl | exact hv
theorem rowE_one' (ys : List EntP) (h : ∀ y ∈ ys, y.2.oneCell' = true) : ∀ u ∈ rowE ys, u.oneCell' = true := by
  intro u hu
  unfold rowE at hu
  obtain ⟨y, hy, hu⟩ := List.mem_flatMap.1 hu
  exact entV_one' y.1 y.2 (h y hy) u hu
/-- all the cells of nodes, as they lie -/
def CellsE (w : World) (A : Option Addr) (ys : List EntP) : Prop := ∀ ad, A = some ad → ∀ j u, (rowE ys)[j]? = some u → w.cell? (ad.add j) = some u
theorem EntsAt.row {w : World} {A : Option Addr} {l : List EntV} (h : EntsAt w A l) : ∃ ys : List EntP, ys.map (·.1) = l ∧ CellsE w A ys ∧ ∀ y ∈ ys, DatOk w y.2 y.1.data := by
  have key : ∀ j, j < l.length → ∃ v : Value, DatOk w v (l[j]!).data ∧ ∀ ad, A = some ad → ∀ i, i < 11 → w.cell? (ad.add (j * 11 + i)) = (entV (l[j]!) v)[i]? := fun j hj => by
    obtain ⟨b, o, D, c, e, h12, hs, hd⟩ := h j hj
    rw [getElem!_pos l j hj]
    refine ⟨.slice D l[j].data.length c, ⟨D, c, rfl, hs, hd⟩, fun ad ha i hi => ?_⟩
    rw [e] at ha
    injection ha with ha
    subst ha
    rw [Addr.add_lit, ← entC_eq, ← h12 i hi, Nat.add_assoc]
  obtain ⟨f, hf⟩ := choose_lt key
  refine ⟨(List.range l.length).map fun j => (l[j]!, f j), ?_, fun ad ha j u hu => ?_, fun y hy => ?_⟩
  · rw [List.map_map]
    apply List.ext_getElem
    · simp
    · intro i h1 h2
      simp at h1
      simp [h1]
  · have hj : j < l.length * 11 := by
      have := (List.getElem?_eq_some_iff.1 hu).1
      rwa [rowE_length, List.length_map, List.length_range] at this
    have hq : j / 11 < l.length := by omega
    have h1 := rowE_get ((List.range l.length).map fun j => ((l[j]!, f j) : EntP)) (j / 11) (j % 11) (by simpa using hq) (by omega)
    rw [show j / 11 * 11 + j % 11 = j by omega, hu] at h1
    have h2 := (hf (j / 11) hq).2 ad ha (j % 11) (by omega)
    rw [show j / 11 * 11 + j % 11 = j by omega] at h2
    rw [h2, h1]
    simp
  · obtain ⟨j, hj, rfl⟩ := List.mem_map.1 hy
    exact (hf j (List.mem_range.1 hj)).1
/-- the cells of the j-th member, in whatever world that comes behind -/
theorem EntsAt.cells2 {w : World} {A : Option Addr} {l : List EntV} (h : EntsAt w A l) (j : Nat) (hj : j < l.length) : ∃ (b o : Nat) (D : Option Addr) (c : Nat), A = some ⟨b, o, none⟩ ∧ b < w.heap.size ∧ SlOk D l[j].data.length c ∧ BytsAt w D l[j].data ∧ ∀ W : World, Below w.heap.size w W →
    W.cell? ⟨b, o + j * 11, none⟩ = some (.string (bs l[j].path)) ∧ W.cell? ⟨b, o + j * 11 + 1, none⟩ = some (.int .i64 l[j].kind) ∧ W.cell? ⟨b, o + j * 11 + 2, none⟩ = some (.string (bs l[j].target)) ∧
    (W.cell? ⟨b, o + j * 11 + 3, none⟩ = some (.int .i64 l[j].md.mode) ∧ W.cell? ⟨b, o + j * 11 + 4, none⟩ = some (.int .i64 l[j].md.uid) ∧ W.cell? ⟨b, o + j * 11 + 5, none⟩ = some (.int .i64 l[j].md.gid) ∧ W.cell? ⟨b, o + j * 11 + 6, none⟩ = some (.string (bs l[j].md.user)) ∧ W.cell? ⟨b, o + j * 11 + 7, none⟩ = some (.string (bs l[j].md.group)) ∧ W.cell? ⟨b, o + j * 11 + 8, none⟩ = some (.int .i64 l[j].md.second) ∧ W.cell? ⟨b, o + j * 11 + 9, none⟩ = some (.int .i64 l[j].md.nano)) ∧
    W.cell? ⟨b, o + j * 11 + 10, none⟩ = some (.slice D l[j].data.length c) := by
  obtain ⟨b, o, D, c, e, c0, c1, c3, ⟨c4, c5, c6, c7, c8, c9, cA⟩, cB, hs, hd⟩ := h.cells j hj
  have hlt : b < w.heap.size := World.block_lt_of_cell? w _ c0
  refine ⟨b, o, D, c, e, hlt, hs, hd, fun W hb => ?_⟩
  have hc : ∀ i, W.cell? ⟨b, i, none⟩ = w.cell? ⟨b, i, none⟩ := fun i => hb.cell (p := ⟨b, i, none⟩) hlt
  simp only [hc]
  exact ⟨c0, c1, c3, ⟨c4, c5, c6, c7, c8, c9, cA⟩, cB⟩
/-- append of nodes to a row of the call's own -/
theorem append_ents {w : World} {ops : Array Oper} {rest : List Oper} {o : Oper} {a : Act} {Q : Exit → Act → World → Prop} (hgd : o.guard = none) (s x : Operand)
    (ho : o.op = .call { callee := .builtin .append, args := #[s, x], argTypes := #[24, 24] }) (B : Nat) (v : Value) (xs : List EntP) (hs : a.eval s = v) (hown : RowE w B v xs)
    (A : Option Addr) (m c : Nat) (ys : List EntP) (hx : a.eval x = .slice A m c) (hl : ys.length = m) (hA : CellsE w A ys) (hy1 : ∀ y ∈ ys, y.2.oneCell' = true) (hc : A = none → c = 0 ∧ m = 0) (hbig : (xs.length + m) * 136 ≤ 140737488355328) (hB : B ≤ w.heap.size)
    (h : ∀ v' w', RowE w' B v' (xs ++ ys) → w.grownBy w' v.ownBlock → wpList Tryz.prog ops Q rest (a.put o.dst v') w') : wpList Tryz.prog ops Q (o :: rest) a w := by
  obtain ⟨i0, hi, hz0, hz1, hz2⟩ := info_parts zinfoE
  cases A with
  | none =>
    obtain ⟨rfl, rfl⟩ := hc rfl
    obtain rfl := List.eq_nil_of_length_eq_zero hl
    refine wpList_append_own_none hgd s x 24 ho B 45 i0 11 Tryz.underlying24 hi v _ _ hs hown hx ?_
    exact h v w (by rw [List.append_nil]; exact hown) ⟨rfl, rfl, rfl, Nat.le_refl _, fun _ _ _ => rfl⟩
  | some ad =>
    refine wpList_append_own _ hgd s x 24 ho B 45 i0 _ 11 136 Tryz.underlying24 hi hz0 hz1 hz2 rfl (by decide) v _ _ hs hown ad m c (rowE ys) hx (by rw [rowE_length, hl]) (hA ad rfl) (rowE_one' ys hy1) (by unfold maxLen; omega) hbig hB ?_
    intro v6 w6 hown6 hgrow _
    exact h v6 w6 (by unfold RowE; rw [List.length_append, rowE_app, hl]; exact hown6) hgrow
/-- one node, just built -/
theorem cells_newE (w : World) (y : EntP) : CellsE (w.alloc (.cells (entV y.1 y.2).toArray 45)) (some ⟨w.heap.size, 0, none⟩) [y] := fun ad ha j u hu => by
  injection ha with ha
  subst ha
  rw [rowE_one] at hu
  rw [Addr.add_lit, Nat.zero_add]
  have := (Blk.new w 45 (entV y.1 y.2).toArray).cell j
  rw [this, List.getElem?_toArray]; exact hu
theorem OwnE.push {w w' : World} {B : Nat} {v v' : Value} {xs : List EntP} {y : EntP} (h : OwnE w B v xs) (hy : OwnB w B y.2 y.1.data) (hr : RowE w' B v' (xs ++ [y])) (hg : w.grownBy w' v.ownBlock) : OwnE w' B v' (xs ++ [y]) := by
  refine ⟨hr, fun x hx => ?_⟩
  rcases List.mem_append.1 hx with a | a
  · exact (h.2 x a).grown hg fun g e e2 => own_apartE (h.2 x a) h.1 g e e2
  · obtain rfl : x = y := by simpa using a
    exact hy.grown hg fun g e e2 => own_apartE hy h.1 g e e2
theorem OwnE.alloc {w : World} {B : Nat} {v : Value} {xs : List EntP} (h : OwnE w B v xs) (o : Obj) : OwnE (w.alloc o) B v xs := ⟨h.1.alloc o, fun x hx => (h.2 x hx).alloc o⟩
theorem RowE.above {w : World} {B : Nat} {v : Value} {xs : List EntP} (h : RowE w B v xs) : ∀ g, v.ownBlock = some g → B ≤ g := fun g e => (World.ownsRow.lt h g e).1
/-- an empty row of nodes with room for n -/
theorem madeE_room (w : World) (n : Nat) (hn : n * 136 ≤ 140737488355328) (i0 : TypeInfo) (hi : Tryz.prog.info? 45 = some i0) (hz0 : i0.zero = some (.agg zeroE)) (hz1 : i0.size = 11) (hz2 : i0.bytes = 136) :
    ∃ M : Array Value, (∀ W : World, (Instr.makeSlice 24 (.int .i64 0) (.int .i64 (n : Int))).run Tryz.prog W = .ok (.slice (some ⟨W.heap.size, 0, none⟩) 0 n) (W.alloc (.cells M 45))) ∧
      ∀ (W : World) (B : Nat), B ≤ W.heap.size → OwnE (W.alloc (.cells M 45)) B (.slice (some ⟨W.heap.size, 0, none⟩) 0 n) [] := by
  obtain ⟨M, hM⟩ : ∃ M, M = madeCells (Value.agg zeroE).cells (((n : Nat) : Int).toNat * i0.size) := ⟨_, rfl⟩
  have hMs : M.size = n * 11 := by rw [hM, hz1, Int.toNat_natCast]; simp [madeCells]
  refine ⟨M, fun W => ?_, fun W B hB => ⟨?_, fun x hx => by simp at hx⟩⟩
  · have h := run_make (P := Tryz.prog) W 24 45 i0 (.agg zeroE) Tryz.underlying24 hi hz0 .i64 .i64 0 (n : Int) (by omega) (by omega) (by rw [hz2]; omega) (by omega)
    rw [← hM] at h
    simpa using h
  · exact ⟨rfl, .inr ⟨W.heap.size, n, M, rfl, hB, heap_alloc_new W _, Nat.zero_le _, by unfold maxLen; omega, hMs, rfl⟩⟩
end Go.Proofs.YtoikpnjnljdpaaaGreatDoor
