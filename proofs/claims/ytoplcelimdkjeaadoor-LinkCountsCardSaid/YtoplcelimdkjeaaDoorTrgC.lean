/- Maps of files by their numbers; isSameFile. -/
import Derived.Test.YtoplcelimdkjeaaDoorNodE
import Derived.Test.YtoplcelimdkjeaaDoorOwb
import Derived.MapKept
import Derived.Carry
set_option linter.unusedVariables false
set_option maxRecDepth 100000
namespace Go.Proofs.YtoplcelimdkjeaaDoor
open Go.RowKit
open Go.OpenShut
/-- a map of nodes by their numbers, of all nodes of t that have one -/
def MapN (w : World) (r : Nat) (t : List NodeV) : Prop :=
  ∃ es clock, w.heap[r]? = some (.map es clock) ∧ (∀ e ∈ es.toList, ∃ (y : NodeV) (D : Option Addr) (c : Nat), y ∈ t ∧ e.key = .int .i64 y.same ∧ e.val = .agg (nodC y D c).toArray ∧ BytsAt w D y.data) ∧
    ∀ y ∈ t, y.same ≠ 0 → ∃ e ∈ es.toList, e.key = .int .i64 y.same
theorem MapN.lt {w : World} {r : Nat} {t : List NodeV} (h : MapN w r t) : r < w.heap.size := by
  obtain ⟨es, clock, hb, -⟩ := h
  exact (Array.getElem?_eq_some_iff.1 hb).1
theorem MapN.below {w w' : World} {r : Nat} {t : List NodeV} (h : MapN w r t) (hb : Below w.heap.size w w') : MapN w' r t := by
  have hlt := h.lt
  obtain ⟨es, clock, hr, h1, h2⟩ := h
  exact ⟨es, clock, (hb.block r hlt).trans hr, fun e he => by
    obtain ⟨y, D, c, a1, a2, a3, a4⟩ := h1 e he
    exact ⟨y, D, c, a1, a2, a3, a4.below hb⟩, h2⟩
theorem MapN.drewN {w : World} {r : Nat} {t : List NodeV} (h : MapN w r t) (n : Nat) : MapN (w.drewN n) r t := h.below (below_drewN (Below.refl _ _) n)
theorem MapN.new (w : World) : MapN (w.alloc (.map #[] 0)) w.heap.size [] := ⟨#[], 0, heap_alloc_new w _, fun e he => by simp at he, fun y hy => by simp at hy⟩
theorem MapN.skip {w : World} {r : Nat} {t : List NodeV} (h : MapN w r t) (x : NodeV) (hx : x.same = 0) : MapN w r (t ++ [x]) := by
  obtain ⟨es, clock, hr, h1, h2⟩ := h
  refine ⟨es, clock, hr, fun e he => ?_, fun y hy hne => ?_⟩
  · obtain ⟨y, D, c, a1, a2, a3, a4⟩ := h1 e he
    exact ⟨y, D, c, List.mem_append_left _ a1, a2, a3, a4⟩
  · rcases List.mem_append.1 hy with a | a
    · exact h2 y a hne
    · obtain rfl : y = x := by simpa using a
      exact absurd hx hne
theorem isKey_int (k : Int) : MapKept.IsKey (.int .i64) (.int .i64 k) := by simp [MapKept.IsKey]
theorem MapN.keys {es : Array MapEntry} (h1 : ∀ e ∈ es.toList, ∃ k, e.key = .int .i64 k) : ∀ e ∈ es.toList, MapKept.IsKey (.int .i64) e.key := fun e he => by
  obtain ⟨k, hk⟩ := h1 e he
  rw [hk]; exact isKey_int k
theorem zero_node (W : World) : (zeroValue 39).run Tryd.prog W = .ok (.agg (nodC ⟨[], 0, 0, [], ⟨0, 0, 0, [], [], 0, 0⟩, []⟩ none 0).toArray) W := by kernel_rfl
/-- looking up: a node of the same number, or none is there -/
theorem MapN.look {w : World} {r : Nat} {t : List NodeV} (h : MapN w r t) (k : Int) :
    (∃ (y : NodeV) (D : Option Addr) (c : Nat), y ∈ t ∧ y.same = k ∧ BytsAt w D y.data ∧ (Instr.lookup 61 (.map (some r)) (.int .i64 k) true).run Tryd.prog w = .ok (.tuple #[.agg (nodC y D c).toArray, .bool true]) w) ∨
    ((∀ y ∈ t, y.same ≠ 0 → y.same ≠ k) ∧ (Instr.lookup 61 (.map (some r)) (.int .i64 k) true).run Tryd.prog w = .ok (.tuple #[.agg (nodC ⟨[], 0, 0, [], ⟨0, 0, 0, [], [], 0, 0⟩, []⟩ none 0).toArray, .bool false]) w) := by
  obtain ⟨es, clock, hr, h1, h2⟩ := h
  have hm := Tryd.underlying61
  have hk := Tryd.underlying3
  have hkeys : ∀ e ∈ es.toList, MapKept.IsKey (.int .i64) e.key := fun e he => by
    obtain ⟨y, D, c, -, a2, -⟩ := h1 e he
    rw [a2]; exact isKey_int _
  have hc : (Instr.checkKey es.isEmpty 10000 3 (.int .i64 k)).run Tryd.prog w = .ok () w := MapKept.run_checkKey (k := .int .i64 k) hk (isKey_int k) _ 9999
  rcases MapKept.findNow_spec (isKey_int k) es.toList 0 hkeys with ⟨f1, f2⟩ | ⟨j, e, f1, f2, f3⟩
  · right
    refine ⟨fun y hy hne e => ?_, ?_⟩
    · obtain ⟨e0, he0, hk0⟩ := h2 y hy hne
      exact f2 e0 he0 (by rw [hk0, e])
    · simp [Instr.lookup, run_underlying hm, MapKept.run_getObj_map hr, hc, MapKept.run_findKey hk f1, Result.andThen]
      rfl
  · left
    have he : e ∈ es.toList := List.mem_of_getElem? f2
    obtain ⟨y, D, c, a1, a2, a3, a4⟩ := h1 e he
    refine ⟨y, D, c, a1, ?_, a4, ?_⟩
    · rw [a2] at f3; simpa using f3
    · have hc' := hc
      simp [Instr.lookup, run_underlying hm, MapKept.run_getObj_map hr, hc, MapKept.run_findKey hk f1, Result.andThen, a3]
theorem below_putMap {w0 w : World} {B r : Nat} {es es' : Array MapEntry} {c c' : Nat} (h : Below B w0 w) (hB : B ≤ r) (hr : w.heap[r]? = some (.map es c)) : Below B w0 { w with heap := w.heap.setIfInBounds r (.map es' c') } := by
  obtain ⟨h1, h2, h3, h4, h5⟩ := h
  refine ⟨h1, h2, h3, ?_, fun i hi => ?_⟩
  · show w0.heap.size ≤ (w.heap.setIfInBounds r _).size
    simp; exact h4
  · exact ((MapKept.heap_set hr).2 i (by omega)).trans (h5 i hi)
/-- writing a node at its number -/
theorem MapN.put {w : World} {r : Nat} {t : List NodeV} (h : MapN w r t) (x : NodeV) (D : Option Addr) (c : Nat) (hD : BytsAt w D x.data) :
    ∃ w', (Instr.mapUpdate 61 (.map (some r)) (.int .i64 x.same) (.agg (nodC x D c).toArray)).run Tryd.prog w = .ok () w' ∧ (∀ w0 B, B ≤ r → Below B w0 w → Below B w0 w') ∧
      ((∀ (E : Option Addr) (l : List UInt8), BytsAt w E l → BytsAt w' E l) ∧ MapN w' r (t ++ [x])) := by
  obtain ⟨es, clock, hr, h1, h2⟩ := h
  have hm := Tryd.underlying61
  have hk := Tryd.underlying3
  have hkeys : ∀ e ∈ es.toList, MapKept.IsKey (.int .i64) e.key := fun e he => by
    obtain ⟨y, D, c, -, a2, -⟩ := h1 e he
    rw [a2]; exact isKey_int _
  have hc : (Instr.checkKey false 10000 3 (.int .i64 x.same)).run Tryd.prog w = .ok () w := MapKept.run_checkKey (k := .int .i64 x.same) hk (isKey_int _) _ 9999
  have hbyt : ∀ (es' : Array MapEntry) (c' : Nat) (E : Option Addr) (l : List UInt8), BytsAt w E l → BytsAt { w with heap := w.heap.setIfInBounds r (.map es' c') } E l := fun es' c' E l hE j hj => by
    obtain ⟨b, o, e, hcell⟩ := hE j hj
    refine ⟨b, o, e, ?_⟩
    have hne : b ≠ r := by
      rintro rfl
      simp [World.cell?, hr] at hcell
    have h3 := (MapKept.heap_set (o' := .map es' c') hr).2 b hne
    unfold World.cell? at hcell ⊢
    simp only at hcell ⊢
    rw [h3]; exact hcell
  rcases MapKept.findNow_spec (isKey_int x.same) es.toList 0 hkeys with ⟨f1, f2⟩ | ⟨j, e, f1, f2, f3⟩
  · refine ⟨{ w with heap := w.heap.setIfInBounds r (.map (es.push { key := .int .i64 x.same, val := .agg (nodC x D c).toArray, born := clock }) (clock + 1)) }, ?_, fun w0 B hB hb => below_putMap hb hB hr, hbyt _ _, ?_⟩
    · simp [Instr.mapUpdate, run_underlying hm, MapKept.run_getObj_map hr, hc, MapKept.run_findKey hk f1, MapKept.run_setObj_map _ hr, Result.andThen]
    · refine ⟨_, _, (MapKept.heap_set hr).1, fun e he => ?_, fun y hy hne => ?_⟩
      · rw [Array.toList_push, List.mem_append] at he
        rcases he with he | he
        · obtain ⟨y, E, d, a1, a2, a3, a4⟩ := h1 e he
          exact ⟨y, E, d, List.mem_append_left _ a1, a2, a3, hbyt _ _ _ _ a4⟩
        · obtain rfl : e = { key := .int .i64 x.same, val := .agg (nodC x D c).toArray, born := clock } := by simpa using he
          exact ⟨x, D, c, by simp, rfl, rfl, hbyt _ _ _ _ hD⟩
      · rw [Array.toList_push]
        rcases List.mem_append.1 hy with a | a
        · obtain ⟨e, he, hk0⟩ := h2 y a hne
          exact ⟨e, List.mem_append_left _ he, hk0⟩
        · obtain rfl : y = x := by simpa using a
          exact ⟨_, List.mem_append_right _ (List.mem_singleton.2 rfl), rfl⟩
  · have hj : es[j]? = some e := by simpa using f2
    refine ⟨{ w with heap := w.heap.setIfInBounds r (.map (es.modify j fun e => { e with key := .int .i64 x.same, val := .agg (nodC x D c).toArray }) clock) }, ?_, fun w0 B hB hb => below_putMap hb hB hr, hbyt _ _, ?_⟩
    · simp [Instr.mapUpdate, run_underlying hm, MapKept.run_getObj_map hr, hc, MapKept.run_findKey hk f1, hj, f3, MapKept.run_keyThatStays (isKey_int x.same), MapKept.run_setObj_map _ hr, Result.andThen]
    · have hmem : ∀ e' ∈ (es.modify j fun e => { e with key := .int .i64 x.same, val := .agg (nodC x D c).toArray }).toList, e' ∈ es.toList ∨ (e'.key = .int .i64 x.same ∧ e'.val = .agg (nodC x D c).toArray) := fun e' he' => by
        obtain ⟨i, hi, rfl⟩ := List.getElem_of_mem he'
        simp only [Array.getElem_toList, Array.getElem_modify]
        split
        · exact .inr ⟨rfl, rfl⟩
        · exact .inl (by simp)
      have hkey : ∀ e0 ∈ es.toList, ∃ e' ∈ (es.modify j fun e => { e with key := .int .i64 x.same, val := .agg (nodC x D c).toArray }).toList, e'.key = e0.key := fun e0 he0 => by
        obtain ⟨i, hi, rfl⟩ := List.getElem_of_mem he0
        refine ⟨(es.modify j fun e => { e with key := .int .i64 x.same, val := .agg (nodC x D c).toArray }).toList[i]'(by simpa using hi), List.getElem_mem _, ?_⟩
        simp only [Array.getElem_toList, Array.getElem_modify]
        split
        · rename_i hij
          subst hij
          have : es[j]? = some (es[j]'(by simpa using hi)) := Array.getElem?_eq_getElem _
          rw [this] at hj
          injection hj with hj
          rw [hj]; exact f3.symm
        · rfl
      refine ⟨_, _, (MapKept.heap_set hr).1, fun e' he' => ?_, fun y hy hne => ?_⟩
      · rcases hmem e' he' with a | ⟨a, b⟩
        · obtain ⟨y, E, d, a1, a2, a3, a4⟩ := h1 e' a
          exact ⟨y, E, d, List.mem_append_left _ a1, a2, a3, hbyt _ _ _ _ a4⟩
        · exact ⟨x, D, c, by simp, a, b, hbyt _ _ _ _ hD⟩
      · rcases List.mem_append.1 hy with a | a
        · obtain ⟨e0, he0, hk0⟩ := h2 y a hne
          obtain ⟨e', he', hk1⟩ := hkey e0 he0
          exact ⟨e', he', by rw [hk1, hk0]⟩
        · obtain rfl : y = x := by simpa using a
          obtain ⟨e', he', hk1⟩ := hkey e (List.mem_of_getElem? f2)
          exact ⟨e', he', by rw [hk1, f3]⟩
theorem bEqual_any (A A' : Option Addr) (n c n' c' : Nat) (l l' : List UInt8) (hn : l.length = n) (hn' : l'.length = n') (w : World) (hA : BytsAt w A l) (hA' : BytsAt w A' l') :
    Calls Tryd.prog 68 #[.slice A n c, .slice A' n' c'] w fun e w' => e = .returned (.bool (decide (l = l'))) ∧ w = w' := by
  have h1 := hA.conv c (fun e => by subst e; exact hA.none_nil)
  have h2 := hA'.conv c' (fun e => by subst e; exact hA'.none_nil)
  rw [hn] at h1
  rw [hn'] at h2
  have q := bs_eq (a := l) (b := l')
  obtain ⟨S, hS⟩ := hid_name (bs l)
  obtain ⟨S', hS'⟩ := hid_name (bs l')
  rw [hS.out] at h1 q
  rw [hS'.out] at h2 q
  have Q := Lib.hid q
  clear hA hA' hn hn' q
  go_enter Tryd.func68, Tryd.ntmps68
  go_wp2_with fail
  go_ret
  exact ⟨ret_bool Q.out, rfl⟩
set_option maxHeartbeats 2000000 in
theorem isSame_any (x y : NodeV) (D E : Option Addr) (c d : Nat) (w : World) (hD : BytsAt w D x.data) (hE : BytsAt w E y.data) :
    Calls Tryd.prog 41 #[.agg (nodC x D c).toArray, .agg (nodC y E d).toArray] w fun e w' => e = .returned (.bool (decide (x.md = y.md) && decide (x.data = y.data))) ∧ Below w.heap.size w w' := by
  have hq := meta_eql x.md y.md
  have HS := Lib.hid fun W h h' => bEqual_any D E x.data.length c y.data.length d x.data y.data rfl rfl W h h'
  obtain ⟨xp, xk, xs, xt, xm, xd⟩ := x
  obtain ⟨yp, yk, ys, yt, ym, yd⟩ := y
  simp only at hq HS hD hE ⊢
  have hmb : decide (xm = ym) = metB xm ym := rfl
  rw [hmb]
  generalize metB xm ym = mb at hq ⊢
  obtain ⟨x0, x1, x2, x3, x4, x5, x6⟩ := xm
  obtain ⟨y0, y1, y2, y3, y4, y5, y6⟩ := ym
  unfold nodC
  unfold metA at hq
  simp only at hq ⊢
  have hw2 : ∀ o o', Below w.heap.size w ((w.alloc o).alloc o') := fun o o' => belowA (belowA (Below.refl _ _) o) o'
  have HW2 := Lib.hid hw2
  have HS2 := Lib.hid fun o o' => HS.out _ (hD.below (hw2 o o')) (hE.below (hw2 o o'))
  clear hw2 hD hE HS hmb
  generalize decide (xd = yd) = db at HS2 ⊢
  cases mb
  · clear HS2
    go_enter Tryd.func41, Tryd.ntmps41
    go_wp2_with fail
    go_ret
    exact ⟨rfl, HW2.out _ _⟩
  · go_enter Tryd.func41, Tryd.ntmps41
    go_wp2_with fail
    refine (HS2.out _ _).mono ?_; rintro e w3 ⟨rfl, rfl⟩
    go_wp2_with fail
    go_ret
    exact ⟨rfl, HW2.out _ _⟩
end Go.Proofs.YtoplcelimdkjeaaDoor
