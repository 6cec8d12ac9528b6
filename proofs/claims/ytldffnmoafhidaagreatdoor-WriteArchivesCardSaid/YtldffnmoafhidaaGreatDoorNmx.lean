/- Texts of one kind, in one file: Nms, Mpi. -/
import Derived.Test.YtldffnmoafhidaaGreatDoorBas
import Derived.BigQuiet
import Derived.Deep.QuietTactic
import Derived.Deep.DeepCutAuto
import Derived.MapKept
import Derived.Carry
import Derived.Laws.MakeOwn
/- Rows of numbers of the call's own; comparing them. -/
set_option linter.unusedVariables false
set_option maxRecDepth 100000
namespace Go.Proofs.YtldffnmoafhidaaGreatDoor
open Go.RowKit
open Go.OpenShut
/-- the numbers l in memory -/
def NumsAt (w : World) (A : Option Addr) (l : List Int) : Prop := ∀ j (hj : j < l.length), ∃ b o, A = some ⟨b, o, none⟩ ∧ w.cell? ⟨b, o + j, none⟩ = some (.int .i64 l[j])
theorem NumsAt.below {w w' : World} {A : Option Addr} {l : List Int} (h : NumsAt w A l) (hb : Below w.heap.size w w') : NumsAt w' A l := fun j hj => by
  obtain ⟨b, o, e, hc⟩ := h j hj
  exact ⟨b, o, e, (hb.cell (p := ⟨b, o + j, none⟩) (World.block_lt_of_cell? w _ hc)).trans hc⟩
theorem info_int : (Tryz.prog.info? 3).map (fun i => (i.zero, i.size, i.bytes)) = some (some (.int .i64 0), 1, 8) := by kernel_rfl
/-- numbers in a row of the call's own -/
def OwnI (w : World) (B : Nat) (v : Value) (l : List Int) : Prop := w.ownsRow B 3 1 v l.length (l.map (Value.int .i64))
theorem OwnI.nil (w : World) (B : Nat) : OwnI w B (.slice none 0 0) [] := World.ownsRow_nil _ _ _ _
theorem OwnI.below {w w' : World} {B : Nat} {v : Value} {l : List Int} (h : OwnI w B v l) (hb : Below w.heap.size w w') : OwnI w' B v l :=
  own_heap h fun g hg => hb.block g (World.ownsRow.lt h g hg).2
theorem OwnI.alloc {w : World} {B : Nat} {v : Value} {l : List Int} (h : OwnI w B v l) (o : Obj) : OwnI (w.alloc o) B v l := World.ownsRow.alloc h o
theorem OwnI.at {w : World} {B : Nat} {v : Value} {l : List Int} (h : OwnI w B v l) : ∃ A c, v = .slice A l.length c ∧ NumsAt w A l := by
  have h' := h
  unfold OwnI World.ownsRow at h
  rcases h.2 with ⟨rfl, h0⟩ | ⟨g, cap, cur, rfl, hB, hg, hcap, hm, hs, ht⟩
  · exact ⟨none, 0, by rw [h0], fun j hj => by omega⟩
  · refine ⟨some ⟨g, 0, none⟩, cap, rfl, fun j hj => ⟨g, 0, rfl, ?_⟩⟩
    unfold OwnI at h'
    rw [Nat.zero_add, h'.cellAt j (by omega), List.getElem?_map, List.getElem?_eq_getElem hj]; rfl
/-- a number is appended to a row of the call's own -/
theorem append_int {w : World} {ops : Array Oper} {rest : List Oper} {o : Oper} {a : Act} {Q : Exit → Act → World → Prop} (hgd : o.guard = none) (s x : Operand)
    (ho : o.op = .call { callee := .builtin .append, args := #[s, x], argTypes := #[50, 50] }) (B : Nat) (v : Value) (l : List Int) (hs : a.eval s = v) (hown : OwnI w B v l)
    (g c : Nat) (z : Int) (hx : a.eval x = .slice (some ⟨g, 0, none⟩) 1 c) (hc : w.cell? ⟨g, 0, none⟩ = some (.int .i64 z)) (hbig : l.length ≤ 1000000) (hB : B ≤ w.heap.size)
    (h : ∀ v' w', OwnI w' B v' (l ++ [z]) → w.grownBy w' v.ownBlock → wpList Tryz.prog ops Q rest (a.put o.dst v') w') : wpList Tryz.prog ops Q (o :: rest) a w := by
  obtain ⟨i0, hi, hz0, hz1, hz2⟩ := info_parts info_int
  refine wpList_append_own _ hgd s x 50 ho B 3 i0 _ 1 8 Tryz.underlying50 hi hz0 hz1 hz2 rfl (by decide) v _ _ hs hown ⟨g, 0, none⟩ 1 c [.int .i64 z] hx rfl (fun j q hq => ?_) (fun q hq => ?_) (by unfold maxLen; omega) (by omega) hB ?_
  · cases j with
    | zero => simp at hq; subst hq; exact hc
    | succ j => simp at hq
  · obtain rfl := List.mem_singleton.1 hq; rfl
  · intro v6 w6 hown6 hgrow _
    exact h v6 w6 (by unfold OwnI; rw [List.length_append, List.map_append]; exact hown6) hgrow
theorem take_eq_snoc {l m : List Int} {k : Nat} (hl : k < l.length) (hm : k < m.length) (h : l.take k = m.take k) (e : l[k] = m[k]) : l.take (k + 1) = m.take (k + 1) := by
  rw [List.take_succ_eq_append_getElem hl, List.take_succ_eq_append_getElem hm, h, e]
set_option maxHeartbeats 1000000 in
theorem equalInts_any (A A2 : Option Addr) (n c n2 c2 : Nat) (l l2 : List Int) (hn : l.length = n) (hn2 : l2.length = n2) (hm : n ≤ 140737488355328) (hm2 : n2 ≤ 140737488355328) (w : World) (hA : NumsAt w A l) (hA2 : NumsAt w A2 l2) :
    Calls Tryz.prog 56 #[.slice A n c, .slice A2 n2 c2] w fun e w' => e = .returned (.bool (decide (l = l2))) ∧ Below w.heap.size w w' := by
  by_cases hne : n = n2
  · subst hne
    have HN := Lib.hid hn
    have HN2 := Lib.hid hn2
    have HA := Lib.hid hA
    have HA2 := Lib.hid hA2
    clear hn hn2 hA hA2
    go_enter Tryz.func56, Tryz.ntmps56
    go_wp2_with fail
    go_loopw [13] (fun iv wr => ∃ k : Nat, k ≤ n ∧ iv = .int .i64 k ∧ Hid (l.take k = l2.take k) ∧ Hid (Below w.heap.size w wr)) (fun iv _ => n - (intOf iv).toNat)
    case atStart => exact ⟨0, Nat.zero_le _, rfl, rfl, Below.refl _ _⟩
    case round =>
      obtain ⟨k, hk, rfl, HT, HB⟩ := hrel
      by_cases hlt : k < n
      · have k1 : k < l.length := by rw [HN.out]; exact hlt
        have k2 : k < l2.length := by rw [HN2.out]; exact hlt
        obtain ⟨b, o, rfl, e1⟩ := (HA.out.below HB.out) k k1
        obtain ⟨b', o', rfl, e2⟩ := (HA2.out.below HB.out) k k2
        have h1 : (k : Int) < (n : Int) := by omega
        have h2 : (0 : Int) ≤ (k : Int) := by omega
        by_cases he : l[k] = l2[k]
        · have HT1 := Lib.hid (take_eq_snoc k1 k2 HT.out he)
          rw [← he] at e2
          generalize l[k] = z at e1 e2
          clear he
          go_upto_region 6 with fail
          go_quiet (fail)
          go_wp2_with fail
          go_roundw
          case rel => exact ⟨k + 1, by omega, by go_num, HT1.out, below_drewN HB.out _⟩
          case measure => simp [intOf]; omega
        · have HR : Hid (decide (l = l2) = false) := decide_eq_false fun h => he (by simp only [h])
          have hz : (l[k] != l2[k]) = true := by simpa using he
          generalize l[k] = z at e1 hz
          generalize l2[k] = z2 at e2 hz
          clear he
          go_upto_region 6 with fail
          go_quiet (fail)
          go_wp2_with fail
          go_ret
          exact ⟨ret_bool HR.out.symm, below_drewN HB.out _⟩
      · obtain rfl : k = n := by omega
        have HR : Hid (decide (l = l2) = true) := by
          have := HT.out
          rw [List.take_of_length_le (by rw [HN.out]; exact Nat.le_refl _), List.take_of_length_le (by rw [HN2.out]; exact Nat.le_refl _)] at this
          exact decide_eq_true this
        go_wp2_with fail
        go_ret
        exact ⟨ret_bool HR.out.symm, HB.out⟩
  · have HR : Hid (decide (l = l2) = false) := decide_eq_false fun h => hne (by rw [← hn, ← hn2, h])
    have h1 : ((n : Int) != (n2 : Int)) = true := by simp; omega
    clear hn hn2 hA hA2
    go_enter Tryz.func56, Tryz.ntmps56
    go_wp2_with fail
    go_ret
    exact ⟨ret_bool HR.out.symm, Below.refl _ _⟩
theorem sameInts_any (A A2 : Option Addr) (n c n2 c2 : Nat) (l l2 : List Int) (hn : l.length = n) (hn2 : l2.length = n2) (hm : n ≤ 140737488355328) (hm2 : n2 ≤ 140737488355328) (w : World) (hA : NumsAt w A l) (hA2 : NumsAt w A2 l2) :
    Calls Tryz.prog 22 #[.slice A n c, .slice A2 n2 c2] w fun e w' => e = .returned (.bool (decide (l = l2))) ∧ Below w.heap.size w w' := by
  go_enter Tryz.func22, Tryz.ntmps22
  go_wp2_with fail
  refine (equalInts_any A A2 n c n2 c2 l l2 hn hn2 hm hm2 _ hA hA2).mono ?_; rintro e w1 ⟨rfl, hb⟩
  go_wp2_with fail
  go_ret
  exact ⟨rfl, hb⟩
end Go.Proofs.YtldffnmoafhidaaGreatDoor
/- Maps of numbers by numbers; rows of numbers with room, and of zeros. -/
set_option linter.unusedVariables false
set_option maxRecDepth 100000
namespace Go.Proofs.YtldffnmoafhidaaGreatDoor
open Go.RowKit
open Go.OpenShut
open Go.Deep
/-- a map of numbers by numbers: it holds f -/
def MapI (w : World) (r : Nat) (f : Int → Option Int) : Prop :=
  ∃ es clock, w.heap[r]? = some (.map es clock) ∧ (∀ e ∈ es.toList, ∃ k v, e.key = .int .i64 k ∧ e.val = .int .i64 v ∧ f k = some v) ∧
    ∀ k v, f k = some v → ∃ e ∈ es.toList, e.key = .int .i64 k
theorem MapI.lt {w : World} {r : Nat} {f : Int → Option Int} (h : MapI w r f) : r < w.heap.size := by
  obtain ⟨es, clock, hb, -⟩ := h
  exact (Array.getElem?_eq_some_iff.1 hb).1
theorem MapI.below {w w' : World} {r : Nat} {f : Int → Option Int} (h : MapI w r f) (hb : Below w.heap.size w w') : MapI w' r f := by
  have hlt := h.lt
  obtain ⟨es, clock, hr, h1, h2⟩ := h
  exact ⟨es, clock, (hb.block r hlt).trans hr, h1, h2⟩
theorem MapI.drewN {w : World} {r : Nat} {f : Int → Option Int} (h : MapI w r f) (n : Nat) : MapI (w.drewN n) r f := h.below (below_drewN (Below.refl _ _) n)
theorem MapI.new (w : World) : MapI (w.alloc (.map #[] 0)) w.heap.size (fun _ => none) := ⟨#[], 0, heap_alloc_new w _, fun e he => by simp at he, fun k v h => by cases h⟩
theorem isKey_i (k : Int) : MapKept.IsKey (.int .i64) (.int .i64 k) := by simp [MapKept.IsKey]
/-- looking up -/
theorem MapI.look {w : World} {r : Nat} {f : Int → Option Int} (h : MapI w r f) (k : Int) :
    (Instr.lookup 205 (.map (some r)) (.int .i64 k) true).run Tryz.prog w = .ok (.tuple #[.int .i64 ((f k).getD 0), .bool (f k).isSome]) w := by
  obtain ⟨es, clock, hr, h1, h2⟩ := h
  have hm := Tryz.underlying205
  have hk := Tryz.underlying3
  have hkeys : ∀ e ∈ es.toList, MapKept.IsKey (.int .i64) e.key := fun e he => by
    obtain ⟨y, v, a2, -⟩ := h1 e he
    rw [a2]; exact isKey_i _
  have hc : (Instr.checkKey es.isEmpty 10000 3 (.int .i64 k)).run Tryz.prog w = .ok () w := MapKept.run_checkKey (k := .int .i64 k) hk (isKey_i k) _ 9999
  rcases MapKept.findNow_spec (isKey_i k) es.toList 0 hkeys with ⟨f1, f2⟩ | ⟨j, e, f1, f2, f3⟩
  · have hn : f k = none := by
      cases hf : f k with
      | none => rfl
      | some v =>
        obtain ⟨e0, he0, hk0⟩ := h2 k v hf
        exact absurd hk0 (f2 e0 he0)
    rw [hn]
    simp [Instr.lookup, run_underlying hm, MapKept.run_getObj_map hr, hc, MapKept.run_findKey hk f1, Result.andThen]
  · have he : e ∈ es.toList := List.mem_of_getElem? f2
    obtain ⟨y, v, a2, a3, a4⟩ := h1 e he
    have hy : y = k := by
      rw [a2] at f3; simpa using f3
    rw [hy] at a4
    rw [a4]
    simp [Instr.lookup, run_underlying hm, MapKept.run_getObj_map hr, hc, MapKept.run_findKey hk f1, Result.andThen, a3]
theorem below_putMapI {w0 w : World} {B r : Nat} {es es' : Array MapEntry} {c c' : Nat} (h : Below B w0 w) (hB : B ≤ r) (hr : w.heap[r]? = some (.map es c)) : Below B w0 { w with heap := w.heap.setIfInBounds r (.map es' c') } := by
  obtain ⟨h1, h2, h3, h4, h5⟩ := h
  refine ⟨h1, h2, h3, ?_, fun i hi => ?_⟩
  · show w0.heap.size ≤ (w.heap.setIfInBounds r _).size
    simp; exact h4
  · exact ((MapKept.heap_set hr).2 i (by omega)).trans (h5 i hi)
/-- writing a number, which stands for the same as before where one was there; the blocks that are no maps stay -/
theorem MapI.put {w : World} {r : Nat} {f : Int → Option Int} (h : MapI w r f) (k v : Int) (hv : ∀ v', f k = some v' → v' = v) :
    ∃ w', (Instr.mapUpdate 205 (.map (some r)) (.int .i64 k) (.int .i64 v)).run Tryz.prog w = .ok () w' ∧ (∀ w0 B, B ≤ r → Below B w0 w → Below B w0 w') ∧
      (∀ (g : Nat), g ≠ r → w'.heap[g]? = w.heap[g]?) ∧ w'.heap.size = w.heap.size ∧ MapI w' r (fun s => if s = k then some v else f s) := by
  obtain ⟨es, clock, hr, h1, h2⟩ := h
  have hm := Tryz.underlying205
  have hk := Tryz.underlying3
  have hkeys : ∀ e ∈ es.toList, MapKept.IsKey (.int .i64) e.key := fun e he => by
    obtain ⟨y, D, a2, -⟩ := h1 e he
    rw [a2]; exact isKey_i _
  have hc : (Instr.checkKey false 10000 3 (.int .i64 k)).run Tryz.prog w = .ok () w := MapKept.run_checkKey (k := .int .i64 k) hk (isKey_i _) _ 9999
  have hold : ∀ e ∈ es.toList, ∃ k' v', e.key = .int .i64 k' ∧ e.val = .int .i64 v' ∧ (if k' = k then some v else f k') = some v' := fun e he => by
    obtain ⟨y, u, a1, a2, a3⟩ := h1 e he
    refine ⟨y, u, a1, a2, ?_⟩
    by_cases hy : y = k
    · rw [if_pos hy]
      rw [hy] at a3
      rw [hv u a3]
    · rw [if_neg hy]; exact a3
  rcases MapKept.findNow_spec (isKey_i k) es.toList 0 hkeys with ⟨f1, f2⟩ | ⟨j, e, f1, f2, f3⟩
  · refine ⟨{ w with heap := w.heap.setIfInBounds r (.map (es.push { key := .int .i64 k, val := .int .i64 v, born := clock }) (clock + 1)) }, ?_, fun w0 B hB hb => below_putMapI hb hB hr, fun g hg => (MapKept.heap_set hr).2 g hg, by simp, ?_⟩
    · simp [Instr.mapUpdate, run_underlying hm, MapKept.run_getObj_map hr, hc, MapKept.run_findKey hk f1, MapKept.run_setObj_map _ hr, Result.andThen]
    · refine ⟨_, _, (MapKept.heap_set hr).1, fun e he => ?_, fun y u hy => ?_⟩
      · rw [Array.toList_push, List.mem_append] at he
        rcases he with he | he
        · exact hold e he
        · obtain rfl : e = { key := .int .i64 k, val := .int .i64 v, born := clock } := by simpa using he
          exact ⟨k, v, rfl, rfl, if_pos rfl⟩
      · rw [Array.toList_push]
        by_cases hyk : y = k
        · subst hyk
          exact ⟨_, List.mem_append_right _ (List.mem_singleton.2 rfl), rfl⟩
        · have hy : (if y = k then some v else f y) = some u := hy
          rw [if_neg hyk] at hy
          obtain ⟨e, he, hk0⟩ := h2 y u hy
          exact ⟨e, List.mem_append_left _ he, hk0⟩
  · have hj : es[j]? = some e := by simpa using f2
    refine ⟨{ w with heap := w.heap.setIfInBounds r (.map (es.modify j fun e => { e with key := .int .i64 k, val := .int .i64 v }) clock) }, ?_, fun w0 B hB hb => below_putMapI hb hB hr, fun g hg => (MapKept.heap_set hr).2 g hg, by simp, ?_⟩
    · simp [Instr.mapUpdate, run_underlying hm, MapKept.run_getObj_map hr, hc, MapKept.run_findKey hk f1, hj, f3, MapKept.run_keyThatStays (isKey_i k), MapKept.run_setObj_map _ hr, Result.andThen]
    · have hmem : ∀ e' ∈ (es.modify j fun e => { e with key := .int .i64 k, val := .int .i64 v }).toList, e' ∈ es.toList ∨ (e'.key = .int .i64 k ∧ e'.val = .int .i64 v) := fun e' he' => by
        obtain ⟨i, hi, rfl⟩ := List.getElem_of_mem he'
        simp only [Array.getElem_toList, Array.getElem_modify]
        split
        · exact .inr ⟨rfl, rfl⟩
        · exact .inl (by simp)
      have hkey : ∀ e0 ∈ es.toList, ∃ e' ∈ (es.modify j fun e => { e with key := .int .i64 k, val := .int .i64 v }).toList, e'.key = e0.key := fun e0 he0 => by
        obtain ⟨i, hi, rfl⟩ := List.getElem_of_mem he0
        refine ⟨(es.modify j fun e => { e with key := .int .i64 k, val := .int .i64 v }).toList[i]'(by simpa using hi), List.getElem_mem _, ?_⟩
        simp only [Array.getElem_toList, Array.getElem_modify]
        split
        · rename_i hij
          subst hij
          have : es[j]? = some (es[j]'(by simpa using hi)) := Array.getElem?_eq_getElem _
          rw [this] at hj
          injection hj with hj
          rw [hj]; exact f3.symm
        · rfl
      refine ⟨_, _, (MapKept.heap_set hr).1, fun e' he' => ?_, fun y u hy => ?_⟩
      · rcases hmem e' he' with a | ⟨a, b⟩
        · exact hold e' a
        · exact ⟨k, v, a, b, if_pos rfl⟩
      · by_cases hyk : y = k
        · subst hyk
          obtain ⟨e', he', hk1⟩ := hkey e (List.mem_of_getElem? f2)
          exact ⟨e', he', by rw [hk1, f3]⟩
        · have hy : (if y = k then some v else f y) = some u := hy
          rw [if_neg hyk] at hy
          obtain ⟨e0, he0, hk0⟩ := h2 y u hy
          obtain ⟨e', he', hk1⟩ := hkey e0 he0
          exact ⟨e', he', by rw [hk1, hk0]⟩
/-- what holds of a row of the call's own holds where its block is as it was -/
theorem OwnI.stays {w w' : World} {B : Nat} {v : Value} {l : List Int} (h : OwnI w B v l) (hb : ∀ g, v.ownBlock = some g → w'.heap[g]? = w.heap[g]?) : OwnI w' B v l := own_heap h hb
/-- an empty row of numbers with room for n -/
theorem madeI_room (w : World) (n : Nat) (hn : n * 8 ≤ 140737488355328) (i0 : TypeInfo) (hi : Tryz.prog.info? 3 = some i0) (hz0 : i0.zero = some (.int .i64 0)) (hz1 : i0.size = 1) (hz2 : i0.bytes = 8) :
    ∃ M : Array Value, (∀ W : World, (Instr.makeSlice 50 (.int .i64 0) (.int .i64 (n : Int))).run Tryz.prog W = .ok (.slice (some ⟨W.heap.size, 0, none⟩) 0 n) (W.alloc (.cells M 3))) ∧
      ∀ (W : World) (B : Nat), B ≤ W.heap.size → OwnI (W.alloc (.cells M 3)) B (.slice (some ⟨W.heap.size, 0, none⟩) 0 n) [] := by
  obtain ⟨M, hM⟩ : ∃ M, M = madeCells (Value.int .i64 0).cells (((n : Nat) : Int).toNat * i0.size) := ⟨_, rfl⟩
  have hMs : M.size = n := by rw [hM, hz1, Nat.mul_one, Int.toNat_natCast]; simp [madeCells]
  refine ⟨M, fun W => ?_, fun W B hB => ?_⟩
  · have h := run_make (P := Tryz.prog) W 50 3 i0 (.int .i64 0) Tryz.underlying50 hi hz0 .i64 .i64 0 (n : Int) (by omega) (by omega) (by rw [hz2]; omega) (by omega)
    rw [← hM] at h
    simpa using h
  · exact ⟨rfl, .inr ⟨W.heap.size, n, M, rfl, hB, heap_alloc_new W _, Nat.zero_le _, by unfold maxLen; omega, by rw [hMs, Nat.mul_one], rfl⟩⟩
/-- writing the j-th number -/
theorem OwnI.set {w : World} {B g cap n : Nat} {l : List Int} (h : OwnI w B (.slice (some ⟨g, 0, none⟩) n cap) l) (hn : n = l.length) (j : Nat) (z : Int) :
    OwnI (w.setCell ⟨g, j, none⟩ (.int .i64 z)) B (.slice (some ⟨g, 0, none⟩) n cap) (l.set j z) := by
  subst hn
  have h1 := (World.ownsRow.stored h j (.int .i64 z)).1
  unfold OwnI
  rw [List.length_set, List.map_set]
  exact h1
theorem OwnI.cell {w : World} {B g cap n : Nat} {l : List Int} (h : OwnI w B (.slice (some ⟨g, 0, none⟩) n cap) l) (hn : n = l.length) (j : Nat) (hj : j < l.length) :
    w.cell? ⟨g, j, none⟩ = some (.int .i64 l[j]) ∧ w.frozen? ⟨g, j, none⟩ = false := by
  subst hn
  refine ⟨?_, World.ownsRow.frozenAt h _⟩
  rw [h.cellAt j (by simpa using hj), List.getElem?_map, List.getElem?_eq_getElem hj]; rfl
theorem OwnI.row {w : World} {B n : Nat} {A : Option Addr} {c : Nat} {l : List Int} (h : OwnI w B (.slice A n c) l) (hn : n = l.length) (h0 : 0 < n) : ∃ g, A = some ⟨g, 0, none⟩ ∧ B ≤ g ∧ g < w.heap.size := by
  have h' := h
  unfold OwnI World.ownsRow at h
  rcases h.2 with ⟨e, h0'⟩ | ⟨g, cap, cur, e, hB, hg, -⟩
  · injection e with e1 e2 e3
    omega
  · injection e with e1 e2 e3
    exact ⟨g, e1, hB, (Array.getElem?_eq_some_iff.1 hg).1⟩
end Go.Proofs.YtldffnmoafhidaaGreatDoor
