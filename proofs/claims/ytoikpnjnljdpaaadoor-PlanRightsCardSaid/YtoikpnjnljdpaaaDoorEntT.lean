/- Rows of members: appending, cells in later worlds. -/
import Derived.Test.YtoikpnjnljdpaaaDoorEntF
import Derived.Test.YtoikpnjnljdpaaaDoorTrgE
set_option linter.unusedVariables false
set_option maxRecDepth 100000
namespace Go.Proofs.YtoikpnjnljdpaaaDoor
open Go.RowKit
open Go.OpenShut
open Go.Deep
def zeroE : Array Value := #[.string ⟨#[]⟩, .int .i64 0, .string ⟨#[]⟩, .int .i64 0, .int .i64 0, .int .i64 0, .string ⟨#[]⟩, .string ⟨#[]⟩, .int .i64 0, .int .i64 0, .slice none 0 0]
theorem zinfoE : (Tryd.prog.info? 26).map (fun i => (i.zero, i.size, i.bytes)) = some (some (.agg zeroE), 11, 136) := by kernel_rfl
theorem entV_one' (x : EntV) (v : Value) (hv : v.oneCell' = true) : ∀ u ∈ entV x v, u.oneCell' = true := by
  intro u hu
  unfold entV at hu
  simp only [List.mem_cons, List.not_mem_nil, or_false] at hu
  rcases hu with rfl | rfl | rfl | rfl | rfl | rfl | rfl | rfl | rfl | rfl | rfl
  all_goals first | rfl | exact hv
theorem rowE_one' (ys : List EntP) (h : ∀ y ∈ ys, y.2.oneCell' = true) : ∀ u ∈ rowE ys, u.oneCell' = true := by
  intro u hu
  unfold rowE at hu
  obtain ⟨y, hy, hu⟩ := List.mem_flatMap.1 hu
  exact entV_one' y.1 y.2 (h y hy) u hu
/-- all the cells of nodes, as they lie -/
def CellsE (w : World) (A : Option Addr) (ys : List EntP) : Prop := ∀ ad, A = some ad → ∀ j u, (rowE ys)[j]? = some u → w.cell? (ad.add j) = some u
theorem EntsAt.row {w : World} {A : Option Addr} {l : List EntV} (h : EntsAt w A l) : ∃ ys : List EntP, ys.map (·.1) = l ∧ CellsE w A ys ∧ ∀ y ∈ ys, DatOk w y.2 y.1.data := by
  have key : ∀ j, j < l.length → ∃ v : Value, DatOk w v (l[j]!).data ∧ ∀ ad, A = some ad → ∀ i, i < 11 → w.cell? (ad.add (j * 11 + i)) = (entV (l[j]!) v)[i]? := fun j hj => by
    obtain ⟨b, o, D, c, e, h12, hs, hd⟩ := h j hj
    rw [getElem!_pos l j hj]
    refine ⟨.slice D l[j].data.length c, ⟨D, c, rfl, hs, hd⟩, fun ad ha i hi => ?_⟩
    rw [e] at ha
    injection ha with ha
    subst ha
    rw [Addr.add_lit, ← entC_eq, ← h12 i hi, Nat.add_assoc]
  obtain ⟨f, hf⟩ := choose_lt key
  refine ⟨(List.range l.length).map fun j => (l[j]!, f j), ?_, fun ad ha j u hu => ?_, fun y hy => ?_⟩
  · rw [List.map_map]
    apply List.ext_getElem
    · simp
    · intro i h1 h2
      simp at h1
      simp [h1]
  · have hj : j < l.length * 11 := by
      have := (List.getElem?_eq_some_iff.1 hu).1
      rwa [rowE_length, List.length_map, List.length_range] at this
    have hq : j / 11 < l.length := by omega
    have h1 := rowE_get ((List.range l.length).map fun j => ((l[j]!, f j) : EntP)) (j / 11) (j % 11) (by simpa using hq) (by omega)
    rw [show j / 11 * 11 + j % 11 = j by omega, hu] at h1
    have h2 := (hf (j / 11) hq).2 ad ha (j % 11) (by omega)
    rw [show j / 11 * 11 + j % 11 = j by omega] at h2
    rw [h2, h1]
    simp
  · obtain ⟨j, hj, rfl⟩ := List.mem_map.1 hy
    exact (hf j (List.mem_range.1 hj)).1
/-- the cells of the j-th member, in whatever world that comes behind -/
theorem EntsAt.cells2 {w : World} {A : Option Addr} {l : List EntV} (h : EntsAt w A l) (j : Nat) (hj : j < l.length) : ∃ (b o : Nat) (D : Option Addr) (c : Nat), A = some ⟨b, o, none⟩ ∧ b < w.heap.size ∧ SlOk D l[j].data.length c ∧ BytsAt w D l[j].data ∧ ∀ W : World, Below w.heap.size w W →
    W.cell? ⟨b, o + j * 11, none⟩ = some (.string (bs l[j].path)) ∧ W.cell? ⟨b, o + j * 11 + 1, none⟩ = some (.int .i64 l[j].kind) ∧ W.cell? ⟨b, o + j * 11 + 2, none⟩ = some (.string (bs l[j].target)) ∧
    (W.cell? ⟨b, o + j * 11 + 3, none⟩ = some (.int .i64 l[j].md.mode) ∧ W.cell? ⟨b, o + j * 11 + 4, none⟩ = some (.int .i64 l[j].md.uid) ∧ W.cell? ⟨b, o + j * 11 + 5, none⟩ = some (.int .i64 l[j].md.gid) ∧ W.cell? ⟨b, o + j * 11 + 6, none⟩ = some (.string (bs l[j].md.user)) ∧ W.cell? ⟨b, o + j * 11 + 7, none⟩ = some (.string (bs l[j].md.group)) ∧ W.cell? ⟨b, o + j * 11 + 8, none⟩ = some (.int .i64 l[j].md.second) ∧ W.cell? ⟨b, o + j * 11 + 9, none⟩ = some (.int .i64 l[j].md.nano)) ∧
    W.cell? ⟨b, o + j * 11 + 10, none⟩ = some (.slice D l[j].data.length c) := by
  obtain ⟨b, o, D, c, e, c0, c1, c3, ⟨c4, c5, c6, c7, c8, c9, cA⟩, cB, hs, hd⟩ := h.cells j hj
  have hlt : b < w.heap.size := World.block_lt_of_cell? w _ c0
  refine ⟨b, o, D, c, e, hlt, hs, hd, fun W hb => ?_⟩
  have hc : ∀ i, W.cell? ⟨b, i, none⟩ = w.cell? ⟨b, i, none⟩ := fun i => hb.cell (p := ⟨b, i, none⟩) hlt
  simp only [hc]
  exact ⟨c0, c1, c3, ⟨c4, c5, c6, c7, c8, c9, cA⟩, cB⟩
/-- append of nodes to a row of the call's own -/
theorem append_ents {w : World} {ops : Array Oper} {rest : List Oper} {o : Oper} {a : Act} {Q : Exit → Act → World → Prop} (hgd : o.guard = none) (s x : Operand)
    (ho : o.op = .call { callee := .builtin .append, args := #[s, x], argTypes := #[30, 30] }) (B : Nat) (v : Value) (xs : List EntP) (hs : a.eval s = v) (hown : RowE w B v xs)
    (A : Option Addr) (m c : Nat) (ys : List EntP) (hx : a.eval x = .slice A m c) (hl : ys.length = m) (hA : CellsE w A ys) (hy1 : ∀ y ∈ ys, y.2.oneCell' = true) (hc : A = none → c = 0 ∧ m = 0) (hbig : (xs.length + m) * 136 ≤ 140737488355328) (hB : B ≤ w.heap.size)
    (h : ∀ v' w', RowE w' B v' (xs ++ ys) → w.grownBy w' v.ownBlock → wpList Tryd.prog ops Q rest (a.put o.dst v') w') : wpList Tryd.prog ops Q (o :: rest) a w := by
  obtain ⟨i0, hi, hz0, hz1, hz2⟩ := info_parts zinfoE
  cases A with
  | none =>
    obtain ⟨rfl, rfl⟩ := hc rfl
    obtain rfl := List.eq_nil_of_length_eq_zero hl
    refine wpList_append_own_none hgd s x 30 ho B 26 i0 11 Tryd.underlying30 hi v _ _ hs hown hx ?_
    exact h v w (by rw [List.append_nil]; exact hown) ⟨rfl, rfl, rfl, Nat.le_refl _, fun _ _ _ => rfl⟩
  | some ad =>
    refine wpList_append_own _ hgd s x 30 ho B 26 i0 _ 11 136 Tryd.underlying30 hi hz0 hz1 hz2 rfl (by decide) v _ _ hs hown ad m c (rowE ys) hx (by rw [rowE_length, hl]) (hA ad rfl) (rowE_one' ys hy1) (by unfold maxLen; omega) hbig hB ?_
    intro v6 w6 hown6 hgrow _
    exact h v6 w6 (by unfold RowE; rw [List.length_append, rowE_app, hl]; exact hown6) hgrow
/-- one node, just built -/
theorem cells_newE (w : World) (y : EntP) : CellsE (w.alloc (.cells (entV y.1 y.2).toArray 26)) (some ⟨w.heap.size, 0, none⟩) [y] := fun ad ha j u hu => by
  injection ha with ha
  subst ha
  rw [rowE_one] at hu
  rw [Addr.add_lit, Nat.zero_add]
  have := (Blk.new w 26 (entV y.1 y.2).toArray).cell j
  rw [this, List.getElem?_toArray]; exact hu
theorem OwnE.push {w w' : World} {B : Nat} {v v' : Value} {xs : List EntP} {y : EntP} (h : OwnE w B v xs) (hy : OwnB w B y.2 y.1.data) (hr : RowE w' B v' (xs ++ [y])) (hg : w.grownBy w' v.ownBlock) : OwnE w' B v' (xs ++ [y]) := by
  refine ⟨hr, fun x hx => ?_⟩
  rcases List.mem_append.1 hx with a | a
  · exact (h.2 x a).grown hg fun g e e2 => own_apartE (h.2 x a) h.1 g e e2
  · obtain rfl : x = y := by simpa using a
    exact hy.grown hg fun g e e2 => own_apartE hy h.1 g e e2
theorem OwnE.alloc {w : World} {B : Nat} {v : Value} {xs : List EntP} (h : OwnE w B v xs) (o : Obj) : OwnE (w.alloc o) B v xs := ⟨h.1.alloc o, fun x hx => (h.2 x hx).alloc o⟩
theorem RowE.above {w : World} {B : Nat} {v : Value} {xs : List EntP} (h : RowE w B v xs) : ∀ g, v.ownBlock = some g → B ≤ g := fun g e => (World.ownsRow.lt h g e).1
/-- an empty row of nodes with room for n -/
theorem madeE_room (w : World) (n : Nat) (hn : n * 136 ≤ 140737488355328) (i0 : TypeInfo) (hi : Tryd.prog.info? 26 = some i0) (hz0 : i0.zero = some (.agg zeroE)) (hz1 : i0.size = 11) (hz2 : i0.bytes = 136) :
    ∃ M : Array Value, (∀ W : World, (Instr.makeSlice 30 (.int .i64 0) (.int .i64 (n : Int))).run Tryd.prog W = .ok (.slice (some ⟨W.heap.size, 0, none⟩) 0 n) (W.alloc (.cells M 26))) ∧
      ∀ (W : World) (B : Nat), B ≤ W.heap.size → OwnE (W.alloc (.cells M 26)) B (.slice (some ⟨W.heap.size, 0, none⟩) 0 n) [] := by
  obtain ⟨M, hM⟩ : ∃ M, M = madeCells (Value.agg zeroE).cells (((n : Nat) : Int).toNat * i0.size) := ⟨_, rfl⟩
  have hMs : M.size = n * 11 := by rw [hM, hz1, Int.toNat_natCast]; simp [madeCells]
  refine ⟨M, fun W => ?_, fun W B hB => ⟨?_, fun x hx => by simp at hx⟩⟩
  · have h := run_make (P := Tryd.prog) W 30 26 i0 (.agg zeroE) Tryd.underlying30 hi hz0 .i64 .i64 0 (n : Int) (by omega) (by omega) (by rw [hz2]; omega) (by omega)
    rw [← hM] at h
    simpa using h
  · exact ⟨rfl, .inr ⟨W.heap.size, n, M, rfl, hB, heap_alloc_new W _, Nat.zero_le _, by unfold maxLen; omega, hMs, rfl⟩⟩
end Go.Proofs.YtoikpnjnljdpaaaDoor
