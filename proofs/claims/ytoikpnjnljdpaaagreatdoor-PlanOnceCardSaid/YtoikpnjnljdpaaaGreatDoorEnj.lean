/- Texts of one kind, in one file: Mps, EntJ. -/
import Derived.Test.YtoikpnjnljdpaaaGreatDoorBas
import Derived.MapKept
import Derived.Carry
import Derived.Test.YtoikpnjnljdpaaaGreatDoorEntP
import Derived.Test.YtoikpnjnljdpaaaGreatDoorEntI
import Derived.Test.YtoikpnjnljdpaaaGreatDoorNod
/- Maps by strings, of a call's own: a map holds f. Over any program. -/
set_option linter.unusedVariables false
set_option maxRecDepth 100000
namespace Go.Proofs.YtoikpnjnljdpaaaGreatDoor
open Go.RowKit
open Go.OpenShut
/-- a map by strings: it holds f -/
def MapS (w : World) (r : Nat) (f : ByteArray → Option Value) : Prop :=
  ∃ es clock, w.heap[r]? = some (.map es clock) ∧ (∀ e ∈ es.toList, ∃ k, e.key = .string k ∧ f k = some e.val) ∧
    ∀ k v, f k = some v → ∃ e ∈ es.toList, e.key = .string k
theorem MapS.lt {w : World} {r : Nat} {f : ByteArray → Option Value} (h : MapS w r f) : r < w.heap.size := by
  obtain ⟨es, clock, hb, -⟩ := h
  exact (Array.getElem?_eq_some_iff.1 hb).1
theorem MapS.stays {w w' : World} {r : Nat} {f : ByteArray → Option Value} (h : MapS w r f) (hb : w'.heap[r]? = w.heap[r]?) : MapS w' r f := by
  obtain ⟨es, clock, hr, h1, h2⟩ := h
  exact ⟨es, clock, hb.trans hr, h1, h2⟩
theorem MapS.below {w w' : World} {r : Nat} {f : ByteArray → Option Value} (h : MapS w r f) (hb : Below w.heap.size w w') : MapS w' r f := h.stays (hb.block r h.lt)
theorem MapS.drewN {w : World} {r : Nat} {f : ByteArray → Option Value} (h : MapS w r f) (n : Nat) : MapS (w.drewN n) r f := h.below (below_drewN (Below.refl _ _) n)
theorem MapS.new (w : World) : MapS (w.alloc (.map #[] 0)) w.heap.size (fun _ => none) := ⟨#[], 0, heap_alloc_new w _, fun e he => by simp at he, fun k v h => by cases h⟩
theorem isKey_s (k : ByteArray) : MapKept.IsKey .string (.string k) := by simp [MapKept.IsKey]
section
variable {P : Program} {mt kt et : TypeId} (hm : P.underlying mt = some (.map kt et)) (hk : P.underlying kt = some .string)
include hm hk
/-- looking up -/
theorem MapS.look {w : World} {r : Nat} {f : ByteArray → Option Value} (h : MapS w r f) (k : ByteArray) {z : Value} (hz : ∀ W : World, (zeroValue et).run P W = .ok z W) (ok : Bool) :
    (Instr.lookup mt (.map (some r)) (.string k) ok).run P w = .ok (if ok = true then .tuple #[(f k).getD z, .bool (f k).isSome] else (f k).getD z) w := by
  obtain ⟨es, clock, hr, h1, h2⟩ := h
  have hkeys : ∀ e ∈ es.toList, MapKept.IsKey .string e.key := fun e he => by
    obtain ⟨y, a2, -⟩ := h1 e he
    rw [a2]; exact isKey_s _
  have hc : (Instr.checkKey es.isEmpty 10000 kt (.string k)).run P w = .ok () w := MapKept.run_checkKey (k := .string k) hk (isKey_s k) _ 9999
  rcases MapKept.findNow_spec (isKey_s k) es.toList 0 hkeys with ⟨f1, f2⟩ | ⟨j, e, f1, f2, f3⟩
  · have hn : f k = none := by
      cases hf : f k with
      | none => rfl
      | some v =>
        obtain ⟨e0, he0, hk0⟩ := h2 k v hf
        exact absurd hk0 (f2 e0 he0)
    rw [hn]
    simp [Instr.lookup, run_underlying hm, MapKept.run_getObj_map hr, hc, MapKept.run_findKey hk f1, hz, Result.andThen]
  · have he : e ∈ es.toList := List.mem_of_getElem? f2
    obtain ⟨y, a2, a4⟩ := h1 e he
    have hy : y = k := by
      rw [a2] at f3; simpa using f3
    rw [hy] at a4
    rw [a4]
    simp [Instr.lookup, run_underlying hm, MapKept.run_getObj_map hr, hc, MapKept.run_findKey hk f1, Result.andThen]
/-- writing where nothing was there, or the same; all other blocks stay -/
theorem MapS.put {w : World} {r : Nat} {f : ByteArray → Option Value} (h : MapS w r f) (k : ByteArray) (v : Value) (hv : ∀ v', f k = some v' → v' = v) :
    ∃ w', (Instr.mapUpdate mt (.map (some r)) (.string k) v).run P w = .ok () w' ∧ (∀ w0 B, B ≤ r → Below B w0 w → Below B w0 w') ∧
      (∀ (g : Nat), g ≠ r → w'.heap[g]? = w.heap[g]?) ∧ w'.heap.size = w.heap.size ∧ MapS w' r (fun s => if s = k then some v else f s) := by
  obtain ⟨es, clock, hr, h1, h2⟩ := h
  have hkeys : ∀ e ∈ es.toList, MapKept.IsKey .string e.key := fun e he => by
    obtain ⟨y, a2, -⟩ := h1 e he
    rw [a2]; exact isKey_s _
  have hc : (Instr.checkKey false 10000 kt (.string k)).run P w = .ok () w := MapKept.run_checkKey (k := .string k) hk (isKey_s _) _ 9999
  have hbel : ∀ (es' : Array MapEntry) (c' : Nat) (w0 : World) (B : Nat), B ≤ r → Below B w0 w → Below B w0 { w with heap := w.heap.setIfInBounds r (.map es' c') } := fun es' c' w0 B hB hb => by
    obtain ⟨b1, b2, b3, b4, b5⟩ := hb
    refine ⟨b1, b2, b3, ?_, fun i hi => ?_⟩
    · show w0.heap.size ≤ (w.heap.setIfInBounds r _).size
      simp; exact b4
    · exact ((MapKept.heap_set hr).2 i (by omega)).trans (b5 i hi)
  have hold : ∀ e ∈ es.toList, ∃ k', e.key = .string k' ∧ (if k' = k then some v else f k') = some e.val := fun e he => by
    obtain ⟨y, a1, a3⟩ := h1 e he
    refine ⟨y, a1, ?_⟩
    by_cases hy : y = k
    · rw [if_pos hy]
      rw [hy] at a3
      rw [hv _ a3]
    · rw [if_neg hy]; exact a3
  rcases MapKept.findNow_spec (isKey_s k) es.toList 0 hkeys with ⟨f1, f2⟩ | ⟨j, e, f1, f2, f3⟩
  · refine ⟨{ w with heap := w.heap.setIfInBounds r (.map (es.push { key := .string k, val := v, born := clock }) (clock + 1)) }, ?_, hbel _ _, fun g hg => (MapKept.heap_set hr).2 g hg, by simp, ?_⟩
    · simp [Instr.mapUpdate, run_underlying hm, MapKept.run_getObj_map hr, hc, MapKept.run_findKey hk f1, MapKept.run_setObj_map _ hr, Result.andThen]
    · refine ⟨_, _, (MapKept.heap_set hr).1, fun e he => ?_, fun y u hy => ?_⟩
      · rw [Array.toList_push, List.mem_append] at he
        rcases he with he | he
        · exact hold e he
        · obtain rfl : e = { key := .string k, val := v, born := clock } := by simpa using he
          exact ⟨k, rfl, if_pos rfl⟩
      · rw [Array.toList_push]
        by_cases hyk : y = k
        · subst hyk
          exact ⟨_, List.mem_append_right _ (List.mem_singleton.2 rfl), rfl⟩
        · have hy : (if y = k then some v else f y) = some u := hy
          rw [if_neg hyk] at hy
          obtain ⟨e, he, hk0⟩ := h2 y u hy
          exact ⟨e, List.mem_append_left _ he, hk0⟩
  · have hj : es[j]? = some e := by simpa using f2
    refine ⟨{ w with heap := w.heap.setIfInBounds r (.map (es.modify j fun e => { e with key := .string k, val := v }) clock) }, ?_, hbel _ _, fun g hg => (MapKept.heap_set hr).2 g hg, by simp, ?_⟩
    · simp [Instr.mapUpdate, run_underlying hm, MapKept.run_getObj_map hr, hc, MapKept.run_findKey hk f1, hj, f3, MapKept.run_keyThatStays (isKey_s k), MapKept.run_setObj_map _ hr, Result.andThen]
    · have hmem : ∀ e' ∈ (es.modify j fun e => { e with key := .string k, val := v }).toList, e' ∈ es.toList ∨ (e'.key = .string k ∧ e'.val = v) := fun e' he' => by
        obtain ⟨i, hi, rfl⟩ := List.getElem_of_mem he'
        simp only [Array.getElem_toList, Array.getElem_modify]
        split
        · exact .inr ⟨rfl, rfl⟩
        · exact .inl (by simp)
      have hkey : ∀ e0 ∈ es.toList, ∃ e' ∈ (es.modify j fun e => { e with key := .string k, val := v }).toList, e'.key = e0.key := fun e0 he0 => by
        obtain ⟨i, hi, rfl⟩ := List.getElem_of_mem he0
        refine ⟨(es.modify j fun e => { e with key := .string k, val := v }).toList[i]'(by simpa using hi), List.getElem_mem _, ?_⟩
        simp only [Array.getElem_toList, Array.getElem_modify]
        split
        · rename_i hij
          subst hij
          have : es[j]? = some (es[j]'(by simpa using hi)) := Array.getElem?_eq_getElem _
          rw [this] at hj
          injection hj with hj
          rw [hj]; exact f3.symm
        · rfl
      refine ⟨_, _, (MapKept.heap_set hr).1, fun e' he' => ?_, fun y u hy => ?_⟩
      · rcases hmem e' he' with a | ⟨a, b⟩
        · exact hold e' a
        · exact ⟨k, a, by show (if k = k then some v else f k) = some e'.val; rw [if_pos rfl, b]⟩
      · by_cases hyk : y = k
        · subst hyk
          obtain ⟨e', he', hk1⟩ := hkey e (List.mem_of_getElem? f2)
          exact ⟨e', he', by rw [hk1, f3]⟩
        · have hy : (if y = k then some v else f y) = some u := hy
          rw [if_neg hyk] at hy
          obtain ⟨e0, he0, hk0⟩ := h2 y u hy
          obtain ⟨e', he', hk1⟩ := hkey e0 he0
          exact ⟨e', he', by rw [hk1, hk0]⟩
end
end Go.Proofs.YtoikpnjnljdpaaaGreatDoor
/- Members met: the one with a path; a map of them. -/
set_option linter.unusedVariables false
set_option maxRecDepth 100000
namespace Go.Proofs.YtoikpnjnljdpaaaGreatDoor
open Go.RowKit
open Go.OpenShut
theorem ents_rise (l : List EntV) (h : ewalkE [] l = 0) : ∀ k, k ≤ l.length → Rises ((l.take k).map EntV.nod) := by
  intro k
  induction k with
  | zero => intro _; rw [List.take_zero]; exact List.Pairwise.nil
  | succ k ih =>
    intro hk
    have hk1 : k < l.length := by omega
    rw [List.take_succ_eq_append_getElem hk1, List.map_append]
    refine rises_snoc (ih (by omega)) fun x hx => ?_
    rw [List.getLast?_map] at hx
    have h1 := ((ewalkE_all l []).1 h k hk1)
    rw [List.nil_append] at h1
    have h2 := ((eatE_zero _ _).1 h1).2.1
    cases hg : (l.take k).getLast? with
    | none => rw [hg] at hx; cases hx
    | some y =>
      rw [hg] at hx
      injection hx with hx
      rw [← hx]
      exact h2 y hg
/-- a member with a path of its own behind sound ones: no member ahead has it -/
theorem find_new {l : List EntV} (h : ewalkE [] l = 0) {k : Nat} (hk : k < l.length) : findE (l.take k) l[k].path = k := by
  have hr := ents_rise l h (k + 1) (by omega)
  rw [List.take_succ_eq_append_getElem hk, List.map_append, List.map_singleton, Rises, List.pairwise_append] at hr
  have hl := findE_le (l.take k) l[k].path
  rw [List.length_take] at hl
  apply Classical.byContradiction
  intro hc
  have hlt : findE (l.take k) l[k].path < (l.take k).length := by rw [List.length_take]; omega
  have h1 := findE_at _ _ hlt
  have h2 := hr.2.2 _ (List.mem_map.2 ⟨_, List.getElem_mem hlt, rfl⟩) _ (List.mem_singleton.2 rfl)
  have h3 : pcmp (l.take k)[findE (l.take k) l[k].path].path l[k].path = -1 := h2
  rw [h1, pcmp_self] at h3
  cases h3
/-- the member with a path, or none -/
def gotE (t : List EntV) (s : List UInt8) : EntV := if h : findE t s < t.length then t[findE t s]'h else default
theorem got_yes {t : List EntV} {s : List UInt8} (h : findE t s < t.length) : gotE t s = t[findE t s]'h := dif_pos h
theorem got_no {t : List EntV} {s : List UInt8} (h : ¬ findE t s < t.length) : gotE t s = default := dif_neg h
theorem upE_got (t : List EntV) (p : List UInt8) : upE t p = (decide (upL p = []) || decide ((gotE t (upL p)).kind = 2)) := by
  unfold upE
  by_cases h : findE t (upL p) < t.length
  · rw [dif_pos h, got_yes h]
  · rw [dif_neg h, got_no h]
    rfl
theorem aimE_got (t : List EntV) (x : EntV) : aimE t x = (decide (x.kind ≠ 4) || (decide ((gotE t x.target).kind = 1) && decide ((gotE t x.target).md = x.md))) := by
  unfold aimE
  by_cases h : findE t x.target < t.length
  · rw [dif_pos h, got_yes h]
  · rw [dif_neg h, got_no h]
    rfl
theorem find_snoc_yes {t : List EntV} {s : List UInt8} (x : EntV) (h : findE t s < t.length) : findE (t ++ [x]) s = findE t s := by
  have h2 := findE_at t s h
  refine findE_stop (t ++ [x]) s _ (by rw [List.length_append]; omega) ?_ (by rw [List.getElem_append_left h]; exact h2)
  apply Classical.byContradiction
  intro hc
  have h3 : findE (t ++ [x]) s < findE t s := by omega
  have h4 : findE (t ++ [x]) s < t.length := by omega
  have h5 := findE_at (t ++ [x]) s (by rw [List.length_append]; omega)
  rw [List.getElem_append_left h4] at h5
  exact findE_ne t s _ h3 h4 h5
theorem find_snoc_no {t : List EntV} {s : List UInt8} (x : EntV) (h : ¬ findE t s < t.length) : findE (t ++ [x]) s = if x.path = s then t.length else t.length + 1 := by
  have hge : t.length ≤ findE (t ++ [x]) s := by
    apply Classical.byContradiction
    intro hc
    have h4 : findE (t ++ [x]) s < t.length := by omega
    have h5 := findE_at (t ++ [x]) s (by rw [List.length_append]; omega)
    rw [List.getElem_append_left h4] at h5
    exact h (by
      have := findE_le t s
      rcases Nat.lt_or_eq_of_le this with a | a
      · exact a
      · exact absurd h5 (findE_ne t s _ (by omega) h4))
  have hle := findE_le (t ++ [x]) s
  rw [List.length_append, List.length_singleton] at hle
  have hl : t.length < (t ++ [x]).length := by simp
  have hx : (t ++ [x])[t.length]'hl = x := by simp
  by_cases e : x.path = s
  · rw [if_pos e]
    exact findE_stop (t ++ [x]) s _ hl hge (by rw [hx]; exact e)
  · rw [if_neg e]
    have := findE_step (t ++ [x]) s _ hl hge (by rw [hx]; exact e)
    omega
/-- a map of the members met, by their paths -/
def MetE (w : World) (r : Nat) (t : List EntV) : Prop :=
  ∃ f, MapS w r f ∧ ∀ s : List UInt8, if findE t s < t.length then ∃ D c, f (bs s) = some (.agg (entC (gotE t s) D c).toArray) else f (bs s) = none
theorem MetE.below {w w' : World} {r : Nat} {t : List EntV} (h : MetE w r t) (hb : Below w.heap.size w w') : MetE w' r t := by
  obtain ⟨f, h1, h2⟩ := h
  exact ⟨f, h1.below hb, h2⟩
theorem MetE.lt {w : World} {r : Nat} {t : List EntV} (h : MetE w r t) : r < w.heap.size := by
  obtain ⟨f, h1, h2⟩ := h
  exact h1.lt
theorem MetE.new (w : World) : MetE (w.alloc (.map #[] 0)) w.heap.size [] := ⟨_, MapS.new w, fun s => by rw [if_neg (by simp)]⟩
theorem zero_ent (W : World) : (zeroValue 45).run Tryz.prog W = .ok (.agg (entC default none 0).toArray) W := by kernel_rfl
theorem MetE.look {w : World} {r : Nat} {t : List EntV} (h : MetE w r t) (s : List UInt8) :
    ∃ D c, (Instr.lookup 72 (.map (some r)) (.string (bs s)) false).run Tryz.prog w = .ok (.agg (entC (gotE t s) D c).toArray) w := by
  obtain ⟨f, h1, h2⟩ := h
  have hl := MapS.look (P := Tryz.prog) Tryz.underlying72 Tryz.underlying9 h1 (bs s) zero_ent false
  rw [if_neg (by decide)] at hl
  have h3 := h2 s
  by_cases hf : findE t s < t.length
  · rw [if_pos hf] at h3
    obtain ⟨D, c, h4⟩ := h3
    rw [h4] at hl
    exact ⟨D, c, hl⟩
  · rw [if_neg hf] at h3
    rw [h3] at hl
    rw [got_no hf]
    exact ⟨none, 0, hl⟩
theorem bs_inj {a b : List UInt8} (h : bs a = bs b) : a = b := by
  have := congrArg (fun s : ByteArray => s.data.toList) h
  simpa [bs_list] using this
theorem MetE.put {w : World} {r : Nat} {t : List EntV} (h : MetE w r t) (x : EntV) (D : Option Addr) (c : Nat) (hx : findE t x.path = t.length) :
    ∃ w', (Instr.mapUpdate 72 (.map (some r)) (.string (bs x.path)) (.agg (entC x D c).toArray)).run Tryz.prog w = .ok () w' ∧ (∀ w0 B, B ≤ r → Below B w0 w → Below B w0 w') ∧ MetE w' r (t ++ [x]) := by
  obtain ⟨f, h1, h2⟩ := h
  have hn : f (bs x.path) = none := by
    have := h2 x.path
    rwa [if_neg (by omega)] at this
  obtain ⟨w', a1, a2, -, -, a5⟩ := MapS.put (P := Tryz.prog) Tryz.underlying72 Tryz.underlying9 h1 (bs x.path) (.agg (entC x D c).toArray) (fun v' e => by rw [hn] at e; cases e)
  refine ⟨w', a1, a2, _, a5, fun s => ?_⟩
  have h3 := h2 s
  have hll : (t ++ [x]).length = t.length + 1 := by simp
  by_cases hf : findE t s < t.length
  · rw [if_pos hf] at h3
    have hs := find_snoc_yes x hf
    have hne : ¬ bs s = bs x.path := fun e => by
      rw [bs_inj e] at hf; omega
    have hg : gotE (t ++ [x]) s = gotE t s := by
      rw [got_yes hf, got_yes (by rw [hs, hll]; omega)]
      simp only [hs]
      rw [List.getElem_append_left hf]
    rw [if_pos (by rw [hs, hll]; omega), hg]
    simp only [if_neg hne]
    exact h3
  · rw [if_neg hf] at h3
    have hs := find_snoc_no x hf
    by_cases e : x.path = s
    · rw [if_pos e] at hs
      have hg : gotE (t ++ [x]) s = x := by
        rw [got_yes (by rw [hs, hll]; omega)]
        simp only [hs]
        simp
      rw [if_pos (by rw [hs, hll]; omega), hg]
      refine ⟨D, c, ?_⟩
      simp only [e, if_true]
    · rw [if_neg e] at hs
      have hne : ¬ bs s = bs x.path := fun e' => e (bs_inj e').symm
      rw [if_neg (by rw [hs, hll]; omega)]
      simp only [if_neg hne]
      exact h3
end Go.Proofs.YtoikpnjnljdpaaaGreatDoor
