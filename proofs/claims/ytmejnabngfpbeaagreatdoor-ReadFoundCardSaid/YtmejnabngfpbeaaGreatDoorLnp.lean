/- Texts of one kind, in one file: Nms, Mpi, LnkA, Rwn, LnkB, LnkR, LnkP. -/
import Derived.Test.YtmejnabngfpbeaaGreatDoorBas
import Derived.BigQuiet
import Derived.Deep.QuietTactic
import Derived.Deep.DeepCutAuto
import Derived.MapKept
import Derived.Carry
import Derived.Laws.MakeOwn
import Derived.Test.YtmejnabngfpbeaaGreatDoorMth
import Derived.Test.YtmejnabngfpbeaaGreatDoorNod
import Derived.Test.YtmejnabngfpbeaaGreatDoorTra
import Derived.Test.YtmejnabngfpbeaaGreatDoorTrb
set_option linter.unusedVariables false
set_option maxRecDepth 100000
namespace Go.Proofs.YtmejnabngfpbeaaGreatDoor
open Go.RowKit
open Go.OpenShut
def NumsAt (w : World) (A : Option Addr) (l : List Int) : Prop := ∀ j (hj : j < l.length), ∃ b o, A = some ⟨b, o, none⟩ ∧ w.cell? ⟨b, o + j, none⟩ = some (.int .i64 l[j])
theorem NumsAt.below {w w' : World} {A : Option Addr} {l : List Int} (h : NumsAt w A l) (hb : Below w.heap.size w w') : NumsAt w' A l := fun j hj => by
 obtain ⟨b, o, e, hc⟩ := h j hj
 exact ⟨b, o, e, (hb.cell (p := ⟨b, o + j, none⟩) (World.block_lt_of_cell? w _ hc)).trans hc⟩
theorem info_int : (Tryz.prog.info? 3).map (fun i => (i.zero, i.size, i.bytes)) = some (some (.int .i64 0), 1, 8) := by kernel_rfl
def OwnI (w : World) (B : Nat) (v : Value) (l : List Int) : Prop := w.ownsRow B 3 1 v l.length (l.map (Value.int .i64))
theorem OwnI.nil (w : World) (B : Nat) : OwnI w B (.slice none 0 0) [] := World.ownsRow_nil _ _ _ _
theorem OwnI.below {w w' : World} {B : Nat} {v : Value} {l : List Int} (h : OwnI w B v l) (hb : Below w.heap.size w w') : OwnI w' B v l :=
 own_heap h fun g hg => hb.block g (World.ownsRow.lt h g hg).2
theorem OwnI.alloc {w : World} {B : Nat} {v : Value} {l : List Int} (h : OwnI w B v l) (o : Obj) : OwnI (w.alloc o) B v l := World.ownsRow.alloc h o
theorem OwnI.at {w : World} {B : Nat} {v : Value} {l : List Int} (h : OwnI w B v l) : ∃ A c, v = .slice A l.length c ∧ NumsAt w A l := by
 have h' := h
 unfold OwnI World.ownsRow at h
 rcases h.2 with ⟨rfl, h0⟩ | ⟨g, cap, cur, rfl, hB, hg, hcap, hm, hs, ht⟩
 ·exact ⟨none, 0, by rw [h0], fun j hj => by omega⟩
 ·refine ⟨some ⟨g, 0, none⟩, cap, rfl, fun j hj => ⟨g, 0, rfl, ?_⟩⟩
  unfold OwnI at h'
  rw [Nat.zero_add, h'.cellAt j (by omega), List.getElem?_map, List.getElem?_eq_getElem hj]; rfl
theorem append_int {w : World} {ops : Array Oper} {rest : List Oper} {o : Oper} {a : Act} {Q : Exit → Act → World → Prop} (hgd : o.guard = none) (s x : Operand)
  (ho : o.op = .call { callee := .builtin .append, args := #[s, x], argTypes := #[97, 97] }) (B : Nat) (v : Value) (l : List Int) (hs : a.eval s = v) (hown : OwnI w B v l)
  (g c : Nat) (z : Int) (hx : a.eval x = .slice (some ⟨g, 0, none⟩) 1 c) (hc : w.cell? ⟨g, 0, none⟩ = some (.int .i64 z)) (hbig : l.length ≤ 1000000) (hB : B ≤ w.heap.size)
  (h : ∀ v' w', OwnI w' B v' (l ++ [z]) → w.grownBy w' v.ownBlock → wpList Tryz.prog ops Q rest (a.put o.dst v') w') : wpList Tryz.prog ops Q (o :: rest) a w := by
 obtain ⟨i0, hi, hz0, hz1, hz2⟩ := info_parts info_int
 refine wpList_append_own _ hgd s x 97 ho B 3 i0 _ 1 8 Tryz.underlying97 hi hz0 hz1 hz2 rfl (by decide) v _ _ hs hown ⟨g, 0, none⟩ 1 c [.int .i64 z] hx rfl (fun j q hq => ?_) (fun q hq => ?_) (by unfold maxLen; omega) (by omega) hB ?_
 ·cases j with
  | zero => simp at hq; subst hq; exact hc
  | succ j => simp at hq
 ·obtain rfl := List.mem_singleton.1 hq; rfl
 ·intro v6 w6 hown6 hgrow _
  exact h v6 w6 (by unfold OwnI; rw [List.length_append, List.map_append]; exact hown6) hgrow
end Go.Proofs.YtmejnabngfpbeaaGreatDoor
namespace Go.Proofs.YtmejnabngfpbeaaGreatDoor
open Go.RowKit
open Go.OpenShut
open Go.Deep
def MapI (w : World) (r : Nat) (f : Int → Option Int) : Prop :=
 ∃ es clock, w.heap[r]? = some (.map es clock) ∧ (∀ e ∈ es.toList, ∃ k v, e.key = .int .i64 k ∧ e.val = .int .i64 v ∧ f k = some v) ∧
  ∀ k v, f k = some v → ∃ e ∈ es.toList, e.key = .int .i64 k
theorem MapI.lt {w : World} {r : Nat} {f : Int → Option Int} (h : MapI w r f) : r < w.heap.size := by
 obtain ⟨es, clock, hb, -⟩ := h
 exact (Array.getElem?_eq_some_iff.1 hb).1
theorem MapI.below {w w' : World} {r : Nat} {f : Int → Option Int} (h : MapI w r f) (hb : Below w.heap.size w w') : MapI w' r f := by
 have hlt := h.lt
 obtain ⟨es, clock, hr, h1, h2⟩ := h
 exact ⟨es, clock, (hb.block r hlt).trans hr, h1, h2⟩
theorem MapI.drewN {w : World} {r : Nat} {f : Int → Option Int} (h : MapI w r f) (n : Nat) : MapI (w.drewN n) r f := h.below (below_drewN (Below.refl _ _) n)
theorem MapI.new (w : World) : MapI (w.alloc (.map #[] 0)) w.heap.size (fun _ => none) := ⟨#[], 0, heap_alloc_new w _, fun e he => by simp at he, fun k v h => by cases h⟩
theorem isKey_i (k : Int) : MapKept.IsKey (.int .i64) (.int .i64 k) := by simp [MapKept.IsKey]
theorem MapI.look {w : World} {r : Nat} {f : Int → Option Int} (h : MapI w r f) (k : Int) :
  (Instr.lookup 148 (.map (some r)) (.int .i64 k) true).run Tryz.prog w = .ok (.tuple #[.int .i64 ((f k).getD 0), .bool (f k).isSome]) w := by
 obtain ⟨es, clock, hr, h1, h2⟩ := h
 have hm := Tryz.underlying148
 have hk := Tryz.underlying3
 have hkeys : ∀ e ∈ es.toList, MapKept.IsKey (.int .i64) e.key := fun e he => by
  obtain ⟨y, v, a2, -⟩ := h1 e he
  rw [a2]; exact isKey_i _
 have hc : (Instr.checkKey es.isEmpty 10000 3 (.int .i64 k)).run Tryz.prog w = .ok () w := MapKept.run_checkKey (k := .int .i64 k) hk (isKey_i k) _ 9999
 rcases MapKept.findNow_spec (isKey_i k) es.toList 0 hkeys with ⟨f1, f2⟩ | ⟨j, e, f1, f2, f3⟩
 ·have hn : f k = none := by
   cases hf : f k with
   | none => rfl
   | some v =>
    obtain ⟨e0, he0, hk0⟩ := h2 k v hf
    exact absurd hk0 (f2 e0 he0)
  rw [hn]
  simp [Instr.lookup, run_underlying hm, MapKept.run_getObj_map hr, hc, MapKept.run_findKey hk f1, Result.andThen]
 ·have he : e ∈ es.toList := List.mem_of_getElem? f2
  obtain ⟨y, v, a2, a3, a4⟩ := h1 e he
  have hy : y = k := by
   rw [a2] at f3; simpa using f3
  rw [hy] at a4
  rw [a4]
  simp [Instr.lookup, run_underlying hm, MapKept.run_getObj_map hr, hc, MapKept.run_findKey hk f1, Result.andThen, a3]
theorem below_putMapI {w0 w : World} {B r : Nat} {es es' : Array MapEntry} {c c' : Nat} (h : Below B w0 w) (hB : B ≤ r) (hr : w.heap[r]? = some (.map es c)) : Below B w0 { w with heap := w.heap.setIfInBounds r (.map es' c') } := by
 obtain ⟨h1, h2, h3, h4, h5⟩ := h
 refine ⟨h1, h2, h3, ?_, fun i hi => ?_⟩
 ·show w0.heap.size ≤ (w.heap.setIfInBounds r _).size
  simp; exact h4
 ·exact ((MapKept.heap_set hr).2 i (by omega)).trans (h5 i hi)
theorem MapI.put {w : World} {r : Nat} {f : Int → Option Int} (h : MapI w r f) (k v : Int) (hv : ∀ v', f k = some v' → v' = v) :
  ∃ w', (Instr.mapUpdate 148 (.map (some r)) (.int .i64 k) (.int .i64 v)).run Tryz.prog w = .ok () w' ∧ (∀ w0 B, B ≤ r → Below B w0 w → Below B w0 w') ∧
   (∀ (g : Nat), g ≠ r → w'.heap[g]? = w.heap[g]?) ∧ w'.heap.size = w.heap.size ∧ MapI w' r (fun s => if s = k then some v else f s) := by
 obtain ⟨es, clock, hr, h1, h2⟩ := h
 have hm := Tryz.underlying148
 have hk := Tryz.underlying3
 have hkeys : ∀ e ∈ es.toList, MapKept.IsKey (.int .i64) e.key := fun e he => by
  obtain ⟨y, D, a2, -⟩ := h1 e he
  rw [a2]; exact isKey_i _
 have hc : (Instr.checkKey false 10000 3 (.int .i64 k)).run Tryz.prog w = .ok () w := MapKept.run_checkKey (k := .int .i64 k) hk (isKey_i _) _ 9999
 have hold : ∀ e ∈ es.toList, ∃ k' v', e.key = .int .i64 k' ∧ e.val = .int .i64 v' ∧ (if k' = k then some v else f k') = some v' := fun e he => by
  obtain ⟨y, u, a1, a2, a3⟩ := h1 e he
  refine ⟨y, u, a1, a2, ?_⟩
  by_cases hy : y = k
  ·rw [if_pos hy]
   rw [hy] at a3
   rw [hv u a3]
  ·rw [if_neg hy]; exact a3
 rcases MapKept.findNow_spec (isKey_i k) es.toList 0 hkeys with ⟨f1, f2⟩ | ⟨j, e, f1, f2, f3⟩
 ·refine ⟨{ w with heap := w.heap.setIfInBounds r (.map (es.push { key := .int .i64 k, val := .int .i64 v, born := clock }) (clock + 1)) }, ?_, fun w0 B hB hb => below_putMapI hb hB hr, fun g hg => (MapKept.heap_set hr).2 g hg, by simp, ?_⟩
  ·simp [Instr.mapUpdate, run_underlying hm, MapKept.run_getObj_map hr, hc, MapKept.run_findKey hk f1, MapKept.run_setObj_map _ hr, Result.andThen]
  ·refine ⟨_, _, (MapKept.heap_set hr).1, fun e he => ?_, fun y u hy => ?_⟩
   ·rw [Array.toList_push, List.mem_append] at he
    rcases he with he | he
    ·exact hold e he
    ·obtain rfl : e = { key := .int .i64 k, val := .int .i64 v, born := clock } := by simpa using he
     exact ⟨k, v, rfl, rfl, if_pos rfl⟩
   ·rw [Array.toList_push]
    by_cases hyk : y = k
    ·subst hyk
     exact ⟨_, List.mem_append_right _ (List.mem_singleton.2 rfl), rfl⟩
    ·have hy : (if y = k then some v else f y) = some u := hy
     rw [if_neg hyk] at hy
     obtain ⟨e, he, hk0⟩ := h2 y u hy
     exact ⟨e, List.mem_append_left _ he, hk0⟩
 ·have hj : es[j]? = some e := by simpa using f2
  refine ⟨{ w with heap := w.heap.setIfInBounds r (.map (es.modify j fun e => { e with key := .int .i64 k, val := .int .i64 v }) clock) }, ?_, fun w0 B hB hb => below_putMapI hb hB hr, fun g hg => (MapKept.heap_set hr).2 g hg, by simp, ?_⟩
  ·simp [Instr.mapUpdate, run_underlying hm, MapKept.run_getObj_map hr, hc, MapKept.run_findKey hk f1, hj, f3, MapKept.run_keyThatStays (isKey_i k), MapKept.run_setObj_map _ hr, Result.andThen]
  ·have hmem : ∀ e' ∈ (es.modify j fun e => { e with key := .int .i64 k, val := .int .i64 v }).toList, e' ∈ es.toList ∨ (e'.key = .int .i64 k ∧ e'.val = .int .i64 v) := fun e' he' => by
    obtain ⟨i, hi, rfl⟩ := List.getElem_of_mem he'
    simp only [Array.getElem_toList, Array.getElem_modify]
    split
    ·exact .inr ⟨rfl, rfl⟩
    ·exact .inl (by simp)
   have hkey : ∀ e0 ∈ es.toList, ∃ e' ∈ (es.modify j fun e => { e with key := .int .i64 k, val := .int .i64 v }).toList, e'.key = e0.key := fun e0 he0 => by
    obtain ⟨i, hi, rfl⟩ := List.getElem_of_mem he0
    refine ⟨(es.modify j fun e => { e with key := .int .i64 k, val := .int .i64 v }).toList[i]'(by simpa using hi), List.getElem_mem _, ?_⟩
    simp only [Array.getElem_toList, Array.getElem_modify]
    split
    ·rename_i hij
     subst hij
     have : es[j]? = some (es[j]'(by simpa using hi)) := Array.getElem?_eq_getElem _
     rw [this] at hj
     injection hj with hj
     rw [hj]; exact f3.symm
    ·rfl
   refine ⟨_, _, (MapKept.heap_set hr).1, fun e' he' => ?_, fun y u hy => ?_⟩
   ·rcases hmem e' he' with a | ⟨a, b⟩
    ·exact hold e' a
    ·exact ⟨k, v, a, b, if_pos rfl⟩
   ·by_cases hyk : y = k
    ·subst hyk
     obtain ⟨e', he', hk1⟩ := hkey e (List.mem_of_getElem? f2)
     exact ⟨e', he', by rw [hk1, f3]⟩
    ·have hy : (if y = k then some v else f y) = some u := hy
     rw [if_neg hyk] at hy
     obtain ⟨e0, he0, hk0⟩ := h2 y u hy
     obtain ⟨e', he', hk1⟩ := hkey e0 he0
     exact ⟨e', he', by rw [hk1, hk0]⟩
theorem OwnI.stays {w w' : World} {B : Nat} {v : Value} {l : List Int} (h : OwnI w B v l) (hb : ∀ g, v.ownBlock = some g → w'.heap[g]? = w.heap[g]?) : OwnI w' B v l := own_heap h hb
theorem madeI_room (w : World) (n : Nat) (hn : n * 8 ≤ 140737488355328) (i0 : TypeInfo) (hi : Tryz.prog.info? 3 = some i0) (hz0 : i0.zero = some (.int .i64 0)) (hz1 : i0.size = 1) (hz2 : i0.bytes = 8) :
  ∃ M : Array Value, (∀ W : World, (Instr.makeSlice 97 (.int .i64 0) (.int .i64 (n : Int))).run Tryz.prog W = .ok (.slice (some ⟨W.heap.size, 0, none⟩) 0 n) (W.alloc (.cells M 3))) ∧
   ∀ (W : World) (B : Nat), B ≤ W.heap.size → OwnI (W.alloc (.cells M 3)) B (.slice (some ⟨W.heap.size, 0, none⟩) 0 n) [] := by
 obtain ⟨M, hM⟩ : ∃ M, M = madeCells (Value.int .i64 0).cells (((n : Nat) : Int).toNat * i0.size) := ⟨_, rfl⟩
 have hMs : M.size = n := by rw [hM, hz1, Nat.mul_one, Int.toNat_natCast]; simp [madeCells]
 refine ⟨M, fun W => ?_, fun W B hB => ?_⟩
 ·have h := run_make (P := Tryz.prog) W 97 3 i0 (.int .i64 0) Tryz.underlying97 hi hz0 .i64 .i64 0 (n : Int) (by omega) (by omega) (by rw [hz2]; omega) (by omega)
  rw [← hM] at h
  simpa using h
 ·exact ⟨rfl, .inr ⟨W.heap.size, n, M, rfl, hB, heap_alloc_new W _, Nat.zero_le _, by unfold maxLen; omega, by rw [hMs, Nat.mul_one], rfl⟩⟩
theorem OwnI.set {w : World} {B g cap n : Nat} {l : List Int} (h : OwnI w B (.slice (some ⟨g, 0, none⟩) n cap) l) (hn : n = l.length) (j : Nat) (z : Int) :
  OwnI (w.setCell ⟨g, j, none⟩ (.int .i64 z)) B (.slice (some ⟨g, 0, none⟩) n cap) (l.set j z) := by
 subst hn
 have h1 := (World.ownsRow.stored h j (.int .i64 z)).1
 unfold OwnI
 rw [List.length_set, List.map_set]
 exact h1
theorem OwnI.cell {w : World} {B g cap n : Nat} {l : List Int} (h : OwnI w B (.slice (some ⟨g, 0, none⟩) n cap) l) (hn : n = l.length) (j : Nat) (hj : j < l.length) :
  w.cell? ⟨g, j, none⟩ = some (.int .i64 l[j]) ∧ w.frozen? ⟨g, j, none⟩ = false := by
 subst hn
 refine ⟨?_, World.ownsRow.frozenAt h _⟩
 rw [h.cellAt j (by simpa using hj), List.getElem?_map, List.getElem?_eq_getElem hj]; rfl
theorem OwnI.row {w : World} {B n : Nat} {A : Option Addr} {c : Nat} {l : List Int} (h : OwnI w B (.slice A n c) l) (hn : n = l.length) (h0 : 0 < n) : ∃ g, A = some ⟨g, 0, none⟩ ∧ B ≤ g ∧ g < w.heap.size := by
 have h' := h
 unfold OwnI World.ownsRow at h
 rcases h.2 with ⟨e, h0'⟩ | ⟨g, cap, cur, e, hB, hg, -⟩
 ·injection e with e1 e2 e3
  omega
 ·injection e with e1 e2 e3
  exact ⟨g, e1, hB, (Array.getElem?_eq_some_iff.1 hg).1⟩
end Go.Proofs.YtmejnabngfpbeaaGreatDoor
namespace Go.Proofs.YtmejnabngfpbeaaGreatDoor
open Go.RowKit
open Go.OpenShut
def fsL (l : List NodeV) : List Int := (List.range l.length).map fun i => ((firstF l i : Nat) : Int)
def nmL (l : List NodeV) : List Int := (List.range l.length).map fun i => ((namesF l i : Nat) : Int)
theorem fsL_len (l : List NodeV) : (fsL l).length = l.length := by unfold fsL; rw [List.length_map, List.length_range]
theorem range_snoc (f : Nat → Int) (k : Nat) : (List.range (k + 1)).map f = (List.range k).map f ++ [f k] := by rw [List.range_succ, List.map_append]; rfl
theorem range_mlen (f : Nat → Int) (k : Nat) : ((List.range k).map f).length = k := by rw [List.length_map, List.length_range]
theorem RowN.dat_cell {w : World} {B g cap n : Nat} {xs : List NodP} (h : RowN w B (.slice (some ⟨g, 0, none⟩) n cap) xs) (hn : n = xs.length) (j : Nat) (hj : j < xs.length) :
  w.cell? ⟨g, j * 12 + 11, none⟩ = some xs[j].2 := by
 subst hn
 have hr := h
 unfold RowN at hr
 rw [World.ownsRow.cellAt hr (j * 12 + 11) (by omega), rowN_get xs j 11 hj (by omega)]; rfl
theorem fsL_cell {W : World} {A : Option Addr} {l : List NodeV} (h : NumsAt W A (fsL l)) (i : Nat) (hi : i < l.length) : ∃ b o, A = some ⟨b, o, none⟩ ∧ W.cell? ⟨b, o + i, none⟩ = some (.int .i64 ((firstF l i : Nat) : Int)) := by
 obtain ⟨b, o, e, h1⟩ := h i (by rw [fsL_len]; exact hi)
 refine ⟨b, o, e, h1.trans ?_⟩
 congr 2
 unfold fsL
 rw [List.getElem_map, List.getElem_range]
end Go.Proofs.YtmejnabngfpbeaaGreatDoor
namespace Go.Proofs.YtmejnabngfpbeaaGreatDoor
open Go.RowKit
def seenF (t : List NodeV) (i : Nat) (s : Int) : Option Int := if 0 < s then ((List.range i).find? fun k => decide (sameAt t k = s)).map fun k => (k : Int) else none
theorem seenF_zero (t : List NodeV) : seenF t 0 = fun _ => none := by
 funext s; unfold seenF; split <;> rfl
theorem seenF_at {t : List NodeV} {i : Nat} (h0 : 0 ≤ sameAt t i) : firstF t i = ((seenF t i (sameAt t i)).getD (i : Int)) := by
 unfold seenF firstF
 by_cases h : 0 < sameAt t i
 ·rw [if_pos h]
  have e : (fun k => eqF t k i) = fun k => decide (sameAt t k = sameAt t i) := by
   funext k; unfold eqF
   rw [Bool.eq_iff_iff, decide_eq_true_eq, decide_eq_true_eq]
   exact ⟨fun h => h.2, fun h' => ⟨by omega, h'⟩⟩
  rw [e]
  cases (List.range i).find? fun k => decide (sameAt t k = sameAt t i) with
  | none => rfl
  | some m => rfl
 ·rw [if_neg h]
  have e : (fun k => eqF t k i) = fun _ => false := by
   funext k; unfold eqF
   exact decide_eq_false fun h' => h'.1 (by omega)
  rw [e]
  have : (List.range i).find? (fun _ => false) = none := by rw [List.find?_eq_none]; intro x _; simp
  rw [this]; rfl
theorem seenF_none {t : List NodeV} {i : Nat} (h0 : 0 ≤ sameAt t i) (h : seenF t i (sameAt t i) = none) : firstF t i = i := by
 have := seenF_at h0
 rw [h, Option.getD_none] at this
 omega
theorem seenF_some {t : List NodeV} {i : Nat} {v : Int} (h0 : 0 ≤ sameAt t i) (h : seenF t i (sameAt t i) = some v) : v = firstF t i := by
 have := seenF_at h0
 rw [h, Option.getD_some] at this
 exact this.symm
theorem seenF_step (t : List NodeV) (i : Nat) (s : Int) : seenF t (i + 1) s = if 0 < s ∧ seenF t i s = none ∧ sameAt t i = s then some (i : Int) else seenF t i s := by
 unfold seenF
 by_cases h : 0 < s
 ·rw [if_pos h, if_pos h, List.range_succ, List.find?_append]
  cases (List.range i).find? fun k => decide (sameAt t k = s) with
  | some m => simp
  | none =>
   by_cases he : sameAt t i = s
   ·simp [he, h]
   ·simp [he]
 ·rw [if_neg h, if_neg h, if_neg fun h' => h h'.1]
theorem seenF_skip {t : List NodeV} {i : Nat} (h : ¬ 0 < sameAt t i) : seenF t (i + 1) = seenF t i := by
 funext s
 rw [seenF_step, if_neg]
 rintro ⟨h1, -, h2⟩
 omega
theorem seenF_put {t : List NodeV} {i : Nat} (h : 0 < sameAt t i) : seenF t (i + 1) = fun s => if s = sameAt t i then some ((firstF t i : Nat) : Int) else seenF t i s := by
 funext s
 rw [seenF_step]
 have h0 : 0 ≤ sameAt t i := by omega
 by_cases hs : s = sameAt t i
 ·subst hs
  rw [if_pos rfl]
  cases hn : seenF t i (sameAt t i) with
  | none => rw [if_pos ⟨h, rfl, rfl⟩, seenF_none h0 hn]
  | some v => rw [if_neg (by rintro ⟨-, h2, -⟩; cases h2), seenF_some h0 hn]
 ·rw [if_neg hs, if_neg]
  rintro ⟨-, -, h2⟩
  exact hs h2.symm
theorem firstF_zero {t : List NodeV} {i : Nat} (h : ¬ 0 < sameAt t i) (h0 : 0 ≤ sameAt t i) : firstF t i = i := by
 refine seenF_none h0 ?_
 unfold seenF
 rw [if_neg h]
def cntF (t : List NodeV) (k j : Nat) : Nat := (List.range k).countP fun m => decide (firstF t m = j)
def cntL (t : List NodeV) (n k : Nat) : List Int := (List.range n).map fun j => ((cntF t k j : Nat) : Int)
end Go.Proofs.YtmejnabngfpbeaaGreatDoor
namespace Go.Proofs.YtmejnabngfpbeaaGreatDoor
open Go.RowKit
open Go.OpenShut
theorem own_map_ne {w : World} {B : Nat} {v : Value} {l : List Int} {r : Nat} {f : Int → Option Int} (h : OwnI w B v l) (hm : MapI w r f) : ∀ g, v.ownBlock = some g → g ≠ r := by
 intro g hg e
 subst e
 obtain ⟨es, clock, hr, -⟩ := hm
 unfold OwnI World.ownsRow at h
 rcases h.2 with ⟨rfl, -⟩ | ⟨g', cap, cur, rfl, hB, hg', -⟩
 ·cases hg
 ·have : g' = g := by simpa [Value.ownBlock] using hg
  subst this
  rw [hg'] at hr
  cases hr
theorem MapI.grown {w w' : World} {B : Nat} {v : Value} {l : List Int} {r : Nat} {f : Int → Option Int} (hm : MapI w r f) (h : OwnI w B v l) (hg : w.grownBy w' v.ownBlock) : MapI w' r f := by
 have hne : some r ≠ v.ownBlock := fun e => own_map_ne h hm r e.symm rfl
 have hlt := hm.lt
 obtain ⟨es, clock, hr, h1, h2⟩ := hm
 exact ⟨es, clock, (hg.block r hlt hne).trans hr, h1, h2⟩
set_option maxHeartbeats 4000000 in
theorem lFirsts_ok (A : Option Addr) (n c : Nat) (l : List NodeV) (hn : l.length = n) (hc : SlOk A n c) (hsz : ∀ x ∈ l, x.sz) (h40 : n ≤ 40) (w : World) (hA : NodesAt w A l) (ht : treeE l = 0) :
  Calls Tryz.prog 61 #[.slice A n c] w fun e w' => ∃ v, e = .returned (.tuple #[v, .int .i64 0]) ∧ OwnI w' w.heap.size v (fsL l) ∧ Below w.heap.size w w' := by
 have H1 := Lib.hid (trCheck_any A n c l hn hc hsz w hA)
 rw [ht] at H1
 have HP := Lib.hid fun i => ((treeE_zero l).1 ht).2.pos i
 have HN := Lib.hid hn
 have HA := Lib.hid hA
 obtain ⟨i0, hi, hz0, hz1, hz2⟩ := info_parts info_int
 obtain ⟨M, hmk, hown⟩ := madeI_room w n (by omega) i0 hi hz0 hz1 hz2
 have HK := Lib.hid hmk
 have HO := Lib.hid hown
 clear hn hc hsz hA ht hmk hown hi hz0 hz1 hz2
 go_enter Tryz.func61, Tryz.ntmps61
 go_wp2_with fail
 refine H1.out.mono ?_; rintro e x1 ⟨rfl, hb⟩
 have hk1 := HK.out x1
 have ho1 := HO.out x1 w.heap.size hb.size
 have hb1 := hb.alloc hb.size (.cells M 3)
 generalize hv1 : Value.slice (some ⟨x1.heap.size, 0, none⟩) 0 n = v1 at hk1 ho1
 generalize hx2 : x1.alloc (.cells M 3) = x2 at hk1 ho1 hb1
 have hk2 : (Instr.makeMap 148 none).run Tryz.prog x2 = .ok (.map (some x2.heap.size)) (x2.alloc (.map #[] 0)) := rfl
 have hm3 := MapI.new x2
 have ho3 := ho1.alloc (.map #[] 0)
 have hb3 := hb1.alloc hb1.size (.map #[] 0)
 have hr3 : w.heap.size ≤ x2.heap.size := hb1.size
 generalize x2.heap.size = r at hk2 hm3 hr3
 generalize x2.alloc (.map #[] 0) = x3 at hk2 hm3 ho3 hb3
 have HO3 := Lib.hid ho3
 have HM3 : Hid (MapI x3 r (seenF l 0)) := by unfold Hid; rw [seenF_zero]; exact hm3
 have HB3 := Lib.hid hb3
 have HR3 := Lib.hid hr3
 clear hb ho1 hb1 hv1 hx2 hm3 ho3 hb3 hr3 H1 HK HO
 go_wp2_with fail
 go_loopw [5, 22] (fun ov iv wr => ∃ i : Nat, i ≤ n ∧ iv = .int .i64 i ∧ Hid (OwnI wr w.heap.size ov ((List.range i).map fun j => ((firstF l j : Nat) : Int))) ∧ Hid (MapI wr r (seenF l i)) ∧ Hid (Below w.heap.size w wr)) (fun _ iv _ => n - (intOf iv).toNat)
 case atStart => exact ⟨0, Nat.zero_le _, rfl, HO3.out, HM3.out, HB3.out⟩
 case round =>
  obtain ⟨i, hi, rfl, HR, HM, HB⟩ := hrel
  by_cases hlt : i < n
  ·have i1 : i < l.length := by rw [HN.out]; exact hlt
   obtain ⟨b, o, D, cc, rfl, c0, c1, c2', c3, ⟨c4, c5, c6, c7, c8, c9, cA⟩, cB, -, hD⟩ := (HA.out.below HB.out).cells i i1
   have hb1 : b < wr.heap.size := World.block_lt_of_cell? wr _ c0
   have hsa := sameAt_at i1
   have HX : Hid ((List.range i).map (fun j => ((firstF l j : Nat) : Int)) ++ [((firstF l i : Nat) : Int)] = (List.range (i + 1)).map fun j => ((firstF l j : Nat) : Int)) := (range_snoc _ _).symm
   have HSa := Lib.hid (HP.out i)
   obtain ⟨F, hF⟩ : ∃ F : Nat, F = firstF l i := ⟨_, rfl⟩
   have hFi : F ≤ i := by rw [hF]; exact (firstF_spec l i).1
   have HF := Lib.hid hF
   rw [← hF] at HX
   generalize l[i] = x at *
   clear hD hF
   go_upto_region 9 with fail
   have HBl := Lib.hid (Blk.new wr 101 (nodA x D cc))
   have HBa : Hid (Below wr.heap.size wr (wr.alloc (.cells (nodA x D cc) 101))) := (Below.refl _ _).alloc (Nat.le_refl _) _
   unfold nodA at HBl HBa
   generalize hwa : wr.alloc _ = wa at HBl HBa ⊢
   have e2 := (blk12 HBl.out).1.2.2.1
   have HMa := Lib.hid (HM.out.below HBa.out)
   have HRa := Lib.hid (HR.out.below HBa.out)
   have HBb := Lib.hid (HB.out.trans (HBa.out.mono HB.out.size))
   clear hwa c0 c1 c2' c3 c4 c5 c6 c7 c8 c9 cA cB
   have hlk := HMa.out.look (sameAt l i)
   have HSp : Hid (0 < sameAt l i → seenF l (i + 1) = fun s => if s = sameAt l i then some ((firstF l i : Nat) : Int) else seenF l i s) := seenF_put
   have HSn : Hid (¬ 0 < sameAt l i → seenF l (i + 1) = seenF l i) := seenF_skip
   have HZ : Hid (¬ 0 < sameAt l i → firstF l i = i) := fun h => firstF_zero h HSa.out
   have HS1 : Hid (∀ v, seenF l i (sameAt l i) = some v → v = (F : Int)) := fun v h => by rw [HF.out]; exact seenF_some HSa.out h
   have HS0 : Hid (seenF l i (sameAt l i) = none → F = i) := fun h => by rw [HF.out]; exact seenF_none HSa.out h
   rw [hsa] at hlk HSp HSn HS1 HS0 HZ
   clear hsa
   by_cases hpos : 0 < x.same
   ·have hSp := HSp.out hpos
    rw [← HF.out] at hSp
    have hne2 : ∀ v', seenF l i x.same = some v' → v' = (F : Int) := HS1.out
    obtain ⟨w9, hput, hbel, hkeep, hs9, hm9⟩ := HMa.out.put x.same (F : Int) hne2
    rw [← hSp] at hm9
    have HM9 := Lib.hid hm9
    clear hSp
    cases hq : seenF l i x.same with
    | some v =>
     obtain rfl := HS1.out v hq
     rw [hq] at hlk
     simp only [Option.getD_some, Option.isSome_some] at hlk
     clear hq hne2
     have HR9 : Hid (OwnI w9 w.heap.size u5 ((List.range i).map fun j => ((firstF l j : Nat) : Int))) := HRa.out.stays fun g hg => hkeep g (own_map_ne HRa.out HMa.out g hg)
     have HB9 := Lib.hid (hbel w _ HR3.out HBb.out)
     clear hm9 hkeep hbel hs9
     go_wp2_with (at_builtin; refine Stay.go ?_)
     refine Stay.on ?_
     refine append_int rfl (.tmp 44) (.tmp 46) rfl w.heap.size _ _ rfl (HR9.out.alloc _) w9.heap.size 1 (F : Int) rfl ((Blk.new _ 3 #[.int .i64 (F : Int)]).cell 0) (by rw [range_mlen]; omega) (by rw [hszA]; exact Nat.le_trans HB9.out.size (Nat.le_succ _)) ?_
     intro v7 w7 ho7 hg7
     rw [HX.out] at ho7
     have HR7 := Lib.hid ho7
     have HM7 := Lib.hid ((HM9.out.below ((Below.refl _ _).alloc (Nat.le_refl _) _)).grown (HR9.out.alloc _) hg7)
     have HB7 : Hid (Below w.heap.size w w7) := (HB9.out.alloc HB9.out.size _).grown hg7 (by rw [hszA]; exact Nat.le_trans HB9.out.size (Nat.le_succ _)) fun g e => (World.ownsRow.lt HR9.out g e).1
     clear ho7 hg7
     go_wp2_with fail
     go_roundw
     case rel => exact ⟨i + 1, by omega, by go_num, HR7.out, HM7.out, HB7.out⟩
     case measure => simp [intOf]; omega
    | none =>
     have hiF : i = F := (HS0.out hq).symm
     subst hiF
     rw [hq] at hlk
     simp only [Option.getD_none, Option.isSome_none] at hlk
     clear hq hne2
     have HR9 : Hid (OwnI w9 w.heap.size u5 ((List.range i).map fun j => ((firstF l j : Nat) : Int))) := HRa.out.stays fun g hg => hkeep g (own_map_ne HRa.out HMa.out g hg)
     have HB9 := Lib.hid (hbel w _ HR3.out HBb.out)
     clear hm9 hkeep hbel hs9
     go_wp2_with (at_builtin; refine Stay.go ?_)
     refine Stay.on ?_
     refine append_int rfl (.tmp 44) (.tmp 46) rfl w.heap.size _ _ rfl (HR9.out.alloc _) w9.heap.size 1 (i : Int) rfl ((Blk.new _ 3 #[.int .i64 (i : Int)]).cell 0) (by rw [range_mlen]; omega) (by rw [hszA]; exact Nat.le_trans HB9.out.size (Nat.le_succ _)) ?_
     intro v7 w7 ho7 hg7
     rw [HX.out] at ho7
     have HR7 := Lib.hid ho7
     have HM7 := Lib.hid ((HM9.out.below ((Below.refl _ _).alloc (Nat.le_refl _) _)).grown (HR9.out.alloc _) hg7)
     have HB7 : Hid (Below w.heap.size w w7) := (HB9.out.alloc HB9.out.size _).grown hg7 (by rw [hszA]; exact Nat.le_trans HB9.out.size (Nat.le_succ _)) fun g e => (World.ownsRow.lt HR9.out g e).1
     clear ho7 hg7
     go_wp2_with fail
     go_roundw
     case rel => exact ⟨i + 1, by omega, by go_num, HR7.out, HM7.out, HB7.out⟩
     case measure => simp [intOf]; omega
   ·have hSn := HSn.out hpos
    have hq : seenF l i x.same = none := by unfold seenF; rw [if_neg hpos]
    have hiF : i = F := (HS0.out hq).symm
    subst hiF
    rw [hq] at hlk
    simp only [Option.getD_none, Option.isSome_none] at hlk
    have HM9 : Hid (MapI wa r (seenF l (i + 1))) := by unfold Hid; rw [hSn]; exact HMa.out
    have hpos2 : ¬ x.same > 0 := hpos
    clear hq hSn
    go_wp2_with (at_builtin; refine Stay.go ?_)
    refine Stay.on ?_
    refine append_int rfl (.tmp 44) (.tmp 46) rfl w.heap.size _ _ rfl (HRa.out.alloc _) wa.heap.size 1 (i : Int) rfl ((Blk.new _ 3 #[.int .i64 (i : Int)]).cell 0) (by rw [range_mlen]; omega) (by rw [hszA]; exact Nat.le_trans HBb.out.size (Nat.le_succ _)) ?_
    intro v7 w7 ho7 hg7
    rw [HX.out] at ho7
    have HR7 := Lib.hid ho7
    have HM7 := Lib.hid ((HM9.out.below ((Below.refl _ _).alloc (Nat.le_refl _) _)).grown (HRa.out.alloc _) hg7)
    have HB7 : Hid (Below w.heap.size w w7) := (HBb.out.alloc HBb.out.size _).grown hg7 (by rw [hszA]; exact Nat.le_trans HBb.out.size (Nat.le_succ _)) fun g e => (World.ownsRow.lt HRa.out g e).1
    clear ho7 hg7
    go_wp2_with fail
    go_roundw
    case rel => exact ⟨i + 1, by omega, by go_num, HR7.out, HM7.out, HB7.out⟩
    case measure => simp [intOf]; omega
  ·obtain rfl : i = n := by omega
   have hR := HR.out
   rw [← HN.out] at hR
   have HV : Hid (OwnI wr w.heap.size u5 (fsL l)) := hR
   clear hR
   go_wp2_with fail
   refine bodyPost_ret (v := .tuple #[u5, .int .i64 0]) (by simp [results, Tryz.results61, go_sem, *]) rfl ?_
   exact ⟨_, rfl, HV.out, HB.out⟩
end Go.Proofs.YtmejnabngfpbeaaGreatDoor
