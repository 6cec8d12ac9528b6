/- Maps by strings, of a call's own: a map holds f. Over any program. -/
import Derived.Test.YtdcbmjihpjnbbaaDoorBas
import Derived.MapKept
import Derived.Carry
set_option linter.unusedVariables false
set_option maxRecDepth 100000
namespace Go.Proofs.YtdcbmjihpjnbbaaDoor
open Go.RowKit
open Go.OpenShut
/-- a map by strings: it holds f -/
def MapS (w : World) (r : Nat) (f : ByteArray → Option Value) : Prop :=
  ∃ es clock, w.heap[r]? = some (.map es clock) ∧ (∀ e ∈ es.toList, ∃ k, e.key = .string k ∧ f k = some e.val) ∧
    ∀ k v, f k = some v → ∃ e ∈ es.toList, e.key = .string k
theorem MapS.lt {w : World} {r : Nat} {f : ByteArray → Option Value} (h : MapS w r f) : r < w.heap.size := by
  obtain ⟨es, clock, hb, -⟩ := h
  exact (Array.getElem?_eq_some_iff.1 hb).1
theorem MapS.stays {w w' : World} {r : Nat} {f : ByteArray → Option Value} (h : MapS w r f) (hb : w'.heap[r]? = w.heap[r]?) : MapS w' r f := by
  obtain ⟨es, clock, hr, h1, h2⟩ := h
  exact ⟨es, clock, hb.trans hr, h1, h2⟩
theorem MapS.below {w w' : World} {r : Nat} {f : ByteArray → Option Value} (h : MapS w r f) (hb : Below w.heap.size w w') : MapS w' r f := h.stays (hb.block r h.lt)
theorem MapS.drewN {w : World} {r : Nat} {f : ByteArray → Option Value} (h : MapS w r f) (n : Nat) : MapS (w.drewN n) r f := h.below (below_drewN (Below.refl _ _) n)
theorem MapS.new (w : World) : MapS (w.alloc (.map #[] 0)) w.heap.size (fun _ => none) := ⟨#[], 0, heap_alloc_new w _, fun e he => by simp at he, fun k v h => by cases h⟩
theorem isKey_s (k : ByteArray) : MapKept.IsKey .string (.string k) := by simp [MapKept.IsKey]
section
variable {P : Program} {mt kt et : TypeId} (hm : P.underlying mt = some (.map kt et)) (hk : P.underlying kt = some .string)
include hm hk
/-- looking up -/
theorem MapS.look {w : World} {r : Nat} {f : ByteArray → Option Value} (h : MapS w r f) (k : ByteArray) {z : Value} (hz : ∀ W : World, (zeroValue et).run P W = .ok z W) (ok : Bool) :
    (Instr.lookup mt (.map (some r)) (.string k) ok).run P w = .ok (if ok = true then .tuple #[(f k).getD z, .bool (f k).isSome] else (f k).getD z) w := by
  obtain ⟨es, clock, hr, h1, h2⟩ := h
  have hkeys : ∀ e ∈ es.toList, MapKept.IsKey .string e.key := fun e he => by
    obtain ⟨y, a2, -⟩ := h1 e he
    rw [a2]; exact isKey_s _
  have hc : (Instr.checkKey es.isEmpty 10000 kt (.string k)).run P w = .ok () w := MapKept.run_checkKey (k := .string k) hk (isKey_s k) _ 9999
  rcases MapKept.findNow_spec (isKey_s k) es.toList 0 hkeys with ⟨f1, f2⟩ | ⟨j, e, f1, f2, f3⟩
  · have hn : f k = none := by
      cases hf : f k with
      | none => rfl
      | some v =>
        obtain ⟨e0, he0, hk0⟩ := h2 k v hf
        exact absurd hk0 (f2 e0 he0)
    rw [hn]
    simp [Instr.lookup, run_underlying hm, MapKept.run_getObj_map hr, hc, MapKept.run_findKey hk f1, hz, Result.andThen]
  · have he : e ∈ es.toList := List.mem_of_getElem? f2
    obtain ⟨y, a2, a4⟩ := h1 e he
    have hy : y = k := by
      rw [a2] at f3; simpa using f3
    rw [hy] at a4
    rw [a4]
    simp [Instr.lookup, run_underlying hm, MapKept.run_getObj_map hr, hc, MapKept.run_findKey hk f1, Result.andThen]
/-- writing where nothing was there, or the same; all other blocks stay -/
theorem MapS.put {w : World} {r : Nat} {f : ByteArray → Option Value} (h : MapS w r f) (k : ByteArray) (v : Value) (hv : ∀ v', f k = some v' → v' = v) :
    ∃ w', (Instr.mapUpdate mt (.map (some r)) (.string k) v).run P w = .ok () w' ∧ (∀ w0 B, B ≤ r → Below B w0 w → Below B w0 w') ∧
      (∀ (g : Nat), g ≠ r → w'.heap[g]? = w.heap[g]?) ∧ w'.heap.size = w.heap.size ∧ MapS w' r (fun s => if s = k then some v else f s) := by
  obtain ⟨es, clock, hr, h1, h2⟩ := h
  have hkeys : ∀ e ∈ es.toList, MapKept.IsKey .string e.key := fun e he => by
    obtain ⟨y, a2, -⟩ := h1 e he
    rw [a2]; exact isKey_s _
  have hc : (Instr.checkKey false 10000 kt (.string k)).run P w = .ok () w := MapKept.run_checkKey (k := .string k) hk (isKey_s _) _ 9999
  have hbel : ∀ (es' : Array MapEntry) (c' : Nat) (w0 : World) (B : Nat), B ≤ r → Below B w0 w → Below B w0 { w with heap := w.heap.setIfInBounds r (.map es' c') } := fun es' c' w0 B hB hb => by
    obtain ⟨b1, b2, b3, b4, b5⟩ := hb
    refine ⟨b1, b2, b3, ?_, fun i hi => ?_⟩
    · show w0.heap.size ≤ (w.heap.setIfInBounds r _).size
      simp; exact b4
    · exact ((MapKept.heap_set hr).2 i (by omega)).trans (b5 i hi)
  have hold : ∀ e ∈ es.toList, ∃ k', e.key = .string k' ∧ (if k' = k then some v else f k') = some e.val := fun e he => by
    obtain ⟨y, a1, a3⟩ := h1 e he
    refine ⟨y, a1, ?_⟩
    by_cases hy : y = k
    · rw [if_pos hy]
      rw [hy] at a3
      rw [hv _ a3]
    · rw [if_neg hy]; exact a3
  rcases MapKept.findNow_spec (isKey_s k) es.toList 0 hkeys with ⟨f1, f2⟩ | ⟨j, e, f1, f2, f3⟩
  · refine ⟨{ w with heap := w.heap.setIfInBounds r (.map (es.push { key := .string k, val := v, born := clock }) (clock + 1)) }, ?_, hbel _ _, fun g hg => (MapKept.heap_set hr).2 g hg, by simp, ?_⟩
    · simp [Instr.mapUpdate, run_underlying hm, MapKept.run_getObj_map hr, hc, MapKept.run_findKey hk f1, MapKept.run_setObj_map _ hr, Result.andThen]
    · refine ⟨_, _, (MapKept.heap_set hr).1, fun e he => ?_, fun y u hy => ?_⟩
      · rw [Array.toList_push, List.mem_append] at he
        rcases he with he | he
        · exact hold e he
        · obtain rfl : e = { key := .string k, val := v, born := clock } := by simpa using he
          exact ⟨k, rfl, if_pos rfl⟩
      · rw [Array.toList_push]
        by_cases hyk : y = k
        · subst hyk
          exact ⟨_, List.mem_append_right _ (List.mem_singleton.2 rfl), rfl⟩
        · have hy : (if y = k then some v else f y) = some u := hy
          rw [if_neg hyk] at hy
          obtain ⟨e, he, hk0⟩ := h2 y u hy
          exact ⟨e, List.mem_append_left _ he, hk0⟩
  · have hj : es[j]? = some e := by simpa using f2
    refine ⟨{ w with heap := w.heap.setIfInBounds r (.map (es.modify j fun e => { e with key := .string k, val := v }) clock) }, ?_, hbel _ _, fun g hg => (MapKept.heap_set hr).2 g hg, by simp, ?_⟩
    · simp [Instr.mapUpdate, run_underlying hm, MapKept.run_getObj_map hr, hc, MapKept.run_findKey hk f1, hj, f3, MapKept.run_keyThatStays (isKey_s k), MapKept.run_setObj_map _ hr, Result.andThen]
    · have hmem : ∀ e' ∈ (es.modify j fun e => { e with key := .string k, val := v }).toList, e' ∈ es.toList ∨ (e'.key = .string k ∧ e'.val = v) := fun e' he' => by
        obtain ⟨i, hi, rfl⟩ := List.getElem_of_mem he'
        simp only [Array.getElem_toList, Array.getElem_modify]
        split
        · exact .inr ⟨rfl, rfl⟩
        · exact .inl (by simp)
      have hkey : ∀ e0 ∈ es.toList, ∃ e' ∈ (es.modify j fun e => { e with key := .string k, val := v }).toList, e'.key = e0.key := fun e0 he0 => by
        obtain ⟨i, hi, rfl⟩ := List.getElem_of_mem he0
        refine ⟨(es.modify j fun e => { e with key := .string k, val := v }).toList[i]'(by simpa using hi), List.getElem_mem _, ?_⟩
        simp only [Array.getElem_toList, Array.getElem_modify]
        split
        · rename_i hij
          subst hij
          have : es[j]? = some (es[j]'(by simpa using hi)) := Array.getElem?_eq_getElem _
          rw [this] at hj
          injection hj with hj
          rw [hj]; exact f3.symm
        · rfl
      refine ⟨_, _, (MapKept.heap_set hr).1, fun e' he' => ?_, fun y u hy => ?_⟩
      · rcases hmem e' he' with a | ⟨a, b⟩
        · exact hold e' a
        · exact ⟨k, a, by show (if k = k then some v else f k) = some e'.val; rw [if_pos rfl, b]⟩
      · by_cases hyk : y = k
        · subst hyk
          obtain ⟨e', he', hk1⟩ := hkey e (List.mem_of_getElem? f2)
          exact ⟨e', he', by rw [hk1, f3]⟩
        · have hy : (if y = k then some v else f y) = some u := hy
          rw [if_neg hyk] at hy
          obtain ⟨e0, he0, hk0⟩ := h2 y u hy
          obtain ⟨e', he', hk1⟩ := hkey e0 he0
          exact ⟨e', he', by rw [hk1, hk0]⟩
end
end Go.Proofs.YtdcbmjihpjnbbaaDoor
