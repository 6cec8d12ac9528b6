/- Arguments that are slices of structs: raw things, records; how they lie in memory. -/
import Derived.Test.YtoplcelimdkjeaaDoorBlk
import Derived.Laws.OwnMore
import Derived.Deep.Slices
import Derived.Deep.Fields
import Derived.ChangeSame
import Derived.SizedLaws
set_option linter.unusedVariables false
set_option maxRecDepth 100000
namespace Go.Proofs.YtoplcelimdkjeaaDoor
open Go.RowKit
open Go.OpenShut
open Go.ChangeShapes Go.WideShapes Go.Deep
instance : Inhabited RawV := ⟨⟨0, 0, 0, ByteArray.empty⟩⟩
/-- the walk stands still here -/
def Stay (p : Prop) : Prop := p
theorem Stay.go {p : Prop} (h : Stay p) : p := h
theorem Stay.on {p : Prop} (h : p) : Stay p := h
theorem own_heap {w w' : World} {B e size : Nat} {v : Value} {n : Nat} {xs : List Value} (h : w.ownsRow B e size v n xs) (hk : ∀ g, v.ownBlock = some g → w'.heap[g]? = w.heap[g]?) : w'.ownsRow B e size v n xs := by
  unfold World.ownsRow at h ⊢
  refine ⟨h.1, ?_⟩
  rcases h.2 with ⟨rfl, h0⟩ | ⟨g, cap, cur, rfl, hB, hg, hcap, hm, hs, ht⟩
  · exact .inl ⟨rfl, h0⟩
  · exact .inr ⟨g, cap, cur, rfl, hB, (hk g rfl).trans hg, hcap, hm, hs, ht⟩
theorem own_block {w : World} {B e size : Nat} {v : Value} {n : Nat} {xs : List Value} (h : w.ownsRow B e size v n xs) : ∀ g0, v.ownBlock = some g0 → B ≤ g0 ∧ ∃ cur, w.heap[g0]? = some (.cells cur e (0, 0)) := by
  intro g0 hg0
  unfold World.ownsRow at h
  rcases h.2 with ⟨rfl, h0⟩ | ⟨g, cap, cur, rfl, hB, hg, hcap, hm, hs, ht⟩
  · cases hg0
  · have e1 : g = g0 := by simpa [Value.ownBlock] using hg0
    subst e1; exact ⟨hB, cur, hg⟩
theorem own_mono {w : World} {B B' e size : Nat} {v : Value} {n : Nat} {xs : List Value} (h : w.ownsRow B e size v n xs) (hB : B' ≤ B) : w.ownsRow B' e size v n xs := by
  unfold World.ownsRow at h ⊢
  refine ⟨h.1, ?_⟩
  rcases h.2 with ⟨rfl, h0⟩ | ⟨g, cap, cur, rfl, hB', hg, hcap, hm, hs, ht⟩
  · exact .inl ⟨rfl, h0⟩
  · exact .inr ⟨g, cap, cur, rfl, by omega, hg, hcap, hm, hs, ht⟩
/-- raw things in memory -/
def RawsAt (w : World) (A : Option Addr) (rs : List RawV) : Prop :=
  ∀ j (hj : j < rs.length), ∃ b o, A = some ⟨b, o, none⟩ ∧ ∀ i, i < 4 → w.cell? ⟨b, o + j * 4 + i, none⟩ = (rawC rs[j])[i]?
theorem raw_four {w : World} {b o : Nat} {r : RawV} (h : ∀ i, i < 4 → w.cell? ⟨b, o + i, none⟩ = (rawC r)[i]?) :
    w.cell? ⟨b, o, none⟩ = some (.int .i64 r.kind) ∧ w.cell? ⟨b, o + 1, none⟩ = some (.int .i64 r.a) ∧ w.cell? ⟨b, o + 2, none⟩ = some (.int .i64 r.b) ∧ w.cell? ⟨b, o + 3, none⟩ = some (.string r.text) :=
  ⟨h 0 (by omega), h 1 (by omega), h 2 (by omega), h 3 (by omega)⟩
/-- records in memory: each a key, a value -/
def RecsB (w : World) (A : Option Addr) (l : List (ByteArray × ByteArray)) : Prop :=
  ∀ (j : Nat) (h : j < l.length), ∃ b o, A = some ⟨b, o, none⟩ ∧ w.cell? ⟨b, o + j * 2, none⟩ = some (.string l[j].1) ∧ w.cell? ⟨b, o + j * 2 + 1, none⟩ = some (.string l[j].2)
theorem RecsB.below {w w' : World} {A : Option Addr} {l : List (ByteArray × ByteArray)} (h : RecsB w A l) (hb : Below w.heap.size w w') : RecsB w' A l := fun j hj => by
  obtain ⟨b, o, e, h0, h1⟩ := h j hj
  have hlt : b < w.heap.size := World.block_lt_of_cell? w _ h0
  exact ⟨b, o, e, (hb.cell (p := ⟨b, o + j * 2, none⟩) hlt).trans h0, (hb.cell (p := ⟨b, o + j * 2 + 1, none⟩) hlt).trans h1⟩
theorem RawsAt.below {w w' : World} {A : Option Addr} {l : List RawV} (h : RawsAt w A l) (hb : Below w.heap.size w w') : RawsAt w' A l := fun j hj => by
  obtain ⟨b, o, e, h4⟩ := h j hj
  have hlt : b < w.heap.size := World.block_lt_of_cell? w _ (h4 0 (by omega))
  exact ⟨b, o, e, fun i hi => (hb.cell (p := ⟨b, o + j * 4 + i, none⟩) hlt).trans (h4 i hi)⟩
section
variable {H : Type} {enc : TypeId × Value → H} {w : World} {base : Nat} {spare : Nat → Bool} {held : Bool}
/-- a slice of structs, its cells and its fields -/
theorem open_slice_flds {P : Program} {t e : TypeId} {fs : Array Field} {fuel : Nat} {cs : List Value} {x : DataW H × List MemPlace} (ht : P.underlying t = some (.slice e)) (he : P.underlying e = some (.struct fs))
    (hone : oneCellFields P fs = true) (hC : P.cellsOf e = fs.size) (h : DataW.trod enc P w base spare held fuel t cs = some x) :
    (cs = [.slice none 0 0] ∧ x.1 = .nil) ∨
    ∃ (a : Addr) (len cap m : Nat) (D : Nat → DataW H), cs = [.slice (some a) len cap] ∧ len ≤ m ∧
      x.1 = .slice ((List.range len).map D) ((List.range (m - len)).map fun j => D (len + j)) ∧
      ∀ i, i < m → ∃ (ys : List (DataW H × List MemPlace)) (n : Nat), D i = .agg (ys.map (·.1)) ∧ ys.length = fs.size ∧
        ∀ (j : Nat) (f : Field), fs[j]? = some f → ∃ (v : Value) (y : DataW H × List MemPlace), w.cell? (a.add (i * fs.size + j)) = some v ∧ ys[j]? = some y ∧ DataW.trod enc P w base spare held n f.type [v] = some y := by
  rcases open_slice ht h with h0 | ⟨a, len, cap, m, n, D, Pl, hcs, hb, hl, hm, hmm, hx, hi⟩
  · exact .inl ⟨h0.1, by rw [h0.2]⟩
  · refine .inr ⟨a, len, cap, m, D, hcs, by rw [hmm]; split <;> omega, by rw [hx], fun i him => ?_⟩
    obtain ⟨cs', hc, ht'⟩ := hi i him
    rw [hC] at hc
    obtain ⟨ys, n', hn', hy, hlen, hyl, hf⟩ := DataW.trod_struct he ht'
    obtain ⟨_, hcl, hat⟩ := World.cells?_some hc
    simp only [Prod.mk.injEq] at hy
    refine ⟨ys, n', hy.1, hyl, fun j f hj => ?_⟩
    obtain ⟨ho, hk⟩ := hone_of hone j f hj
    have hjl : j < fs.size := (Array.getElem?_eq_some_iff.1 hj).1
    have hcell := hat j hjl
    have hv : cs'[j]? = some (cs'[j]'(by omega)) := List.getElem?_eq_getElem (by omega)
    have h1 := hf j f hj
    rw [ho, hk] at h1
    have hone' : (cs'.drop j).take 1 = [cs'[j]'(by omega)] := by
      rw [List.drop_eq_getElem_cons (by omega)]
      rfl
    rw [hone'] at h1
    have hys : ys[j]? = some (ys[j]'(by omega)) := List.getElem?_eq_getElem (by omega)
    refine ⟨_, _, ?_, hys, h1.trans hys⟩
    rw [← Go.Deep.add_add, hcell, hv]
theorem weights_all {P : Program} {e : TypeId} {l : List (DataW H)} {d : DataW H} (hd : d ∈ l) : ∀ x ∈ d.weights P e, x ∈ DataW.weightsAll P e l := by
  induction l with
  | nil => simp at hd
  | cons y l ih =>
    intro x hx
    unfold DataW.weightsAll
    rcases List.mem_cons.1 hd with rfl | a
    · exact List.mem_append.2 (.inl hx)
    · exact List.mem_append.2 (.inr (ih a x hx))
theorem weights_field {P : Program} {e : TypeId} {fs : Array Field} (he : P.underlying e = some (.struct fs)) {parts : List (DataW H)} {j : Nat} {f : Field} {d : DataW H} (hf : fs[j]? = some f) (hd : parts[j]? = some d) : ∀ x ∈ d.weights P f.type, x ∈ (DataW.agg parts).weights P e := by
  intro x hx
  unfold DataW.weights
  rw [he]
  exact DataW.weights_mem_each (j := j) (t := f.type) (by simp [hf]) hd x hx
theorem weights_slice {P : Program} {t e : TypeId} (ht : P.underlying t = some (.slice e)) {elems sp : List (DataW H)} {d : DataW H} (hd : d ∈ elems) : ∀ x ∈ d.weights P e, x ∈ (DataW.slice elems sp).weights P t := by
  intro x hx
  unfold DataW.weights
  rw [ht]
  exact List.mem_cons.2 (.inr (List.mem_append.2 (.inl (weights_all hd x hx))))
theorem weights_len {P : Program} {t e : TypeId} (ht : P.underlying t = some (.slice e)) {elems sp : List (DataW H)} : (elems.length + sp.length) * P.bytesOf e ∈ (DataW.slice elems sp).weights P t := by
  unfold DataW.weights
  rw [ht]
  exact List.mem_cons.2 (.inl rfl)
theorem raw_fields : ∃ f0 f1 f2 f3 : Field, Tryd.prog.underlying 52 = some (.struct #[f0, f1, f2, f3]) ∧ f0.type = 3 ∧ f1.type = 3 ∧ f2.type = 3 ∧ f3.type = 9 ∧ oneCellFields Tryd.prog #[f0, f1, f2, f3] = true :=
  ⟨_, _, _, _, Tryd.underlying52, rfl, rfl, rfl, rfl, by kernel_rfl⟩
theorem open_raws {v : Value} {d : DataW H} {p : List MemPlace} (hv : ∃ a len cap, v = .slice a len cap) (h : DataW.Trod enc Tryd.prog w base spare held 32 v d p) (hwt : ∀ x ∈ d.weights Tryd.prog 32, x ≤ reachBytes) :
    ∃ (A : Option Addr) (n c : Nat) (rs : List RawV), v = .slice A n c ∧ rs.length = n ∧ n * 40 ≤ 140737488351232 ∧ (∀ r ∈ rs, r.wf) ∧ RawsAt w A rs := by
  obtain ⟨a0, len0, cap0, rfl⟩ := hv
  obtain ⟨fuel, hf⟩ := h
  obtain ⟨f0, f1, f2, f3, he, t0, t1, t2, t3, hone⟩ := raw_fields
  rcases open_slice_flds Tryd.underlying32 he hone (by kernel_rfl) hf with ⟨hcs, hx⟩ | ⟨a, len, cap, m, D, hcs, hl, hx, hi⟩
  · simp only [Value.cells, List.cons.injEq, Value.slice.injEq, and_true] at hcs
    obtain ⟨rfl, rfl, rfl⟩ := hcs
    exact ⟨none, 0, 0, [], rfl, rfl, by omega, (fun r hr => by simp at hr), fun j hj => by simp at hj⟩
  · simp only [Value.cells, List.cons.injEq, Value.slice.injEq, and_true] at hcs
    obtain ⟨rfl, rfl, rfl⟩ := hcs
    simp only at hx
    subst hx
    have hr4 : reachBytes = 140737488351232 := rfl
    have hn : len0 * 40 ≤ 140737488351232 := by
      have h1 := hwt _ (weights_len Tryd.underlying32)
      rw [hr4] at h1
      have h2 : Tryd.prog.bytesOf 52 = 40 := by kernel_rfl
      rw [h2] at h1
      simp only [List.length_map, List.length_range] at h1
      omega
    have key : ∀ i, i < len0 → ∃ r : RawV, r.wf ∧ ∀ j, j < 4 → w.cell? (a.add (i * 4 + j)) = (rawC r)[j]? := fun i hil => by
      obtain ⟨ys, k, hD, hyl, hfld⟩ := hi i (by omega)
      obtain ⟨v0, y0, c0, e0, h0⟩ := hfld 0 f0 rfl
      obtain ⟨v1, y1, c1, e1, h1⟩ := hfld 1 f1 rfl
      obtain ⟨v2, y2, c2, e2, h2⟩ := hfld 2 f2 rfl
      obtain ⟨v3, y3, c3, e3, h3⟩ := hfld 3 f3 rfl
      rw [t0] at h0
      rw [t1] at h1
      rw [t2] at h2
      rw [t3] at h3
      obtain ⟨n0, q0, x0, w0⟩ := DataW.trod_int Tryd.underlying3 h0
      obtain ⟨n1, q1, x1, w1⟩ := DataW.trod_int Tryd.underlying3 h1
      obtain ⟨n2, q2, x2, w2⟩ := DataW.trod_int Tryd.underlying3 h2
      obtain ⟨s, q3, x3, w3⟩ := DataW.trod_string Tryd.underlying9 h3
      simp only [List.cons.injEq, and_true] at q0 q1 q2 q3
      subst q0 q1 q2 q3
      have hsz : s.size ≤ 140737488351232 := by
        have hm : s.data.toList.length ∈ (D i).weights Tryd.prog 52 := by
          rw [hD]
          refine weights_field he (j := 3) (f := f3) (d := y3.1) rfl (by rw [List.getElem?_map, e3]; rfl) _ ?_
          rw [x3, t3]
          unfold DataW.weights
          simp
        have h9 := hwt _ (weights_slice Tryd.underlying32 (d := D i) (List.mem_map.2 ⟨i, List.mem_range.2 hil, rfl⟩) _ hm)
        rw [hr4] at h9
        simpa using h9
      refine ⟨⟨n0, n1, n2, s⟩, ⟨w0, w1, w2, hsz⟩, fun j hj => ?_⟩
      match j, hj with
      | 0, _ => exact c0
      | 1, _ => exact c1
      | 2, _ => exact c2
      | 3, _ => exact c3
    obtain ⟨f, hfx⟩ := choose_lt key
    refine ⟨some a, len0, cap0, (List.range len0).map f, rfl, by simp, by omega, fun r hr => ?_, fun j hj => ?_⟩
    · obtain ⟨i, hi1, rfl⟩ := List.mem_map.1 hr
      exact (hfx i (List.mem_range.1 hi1)).1
    · have hj' : j < len0 := by simpa using hj
      obtain ⟨b, o, sp⟩ := a
      have hsp : sp = none := by
        have h0 := (hfx 0 (by omega)).2 0 (by omega)
        have h1 : w.cell? (Addr.mk b o sp) = some (.int .i64 (f 0).kind) := by simpa [Addr.add, rawC] using h0
        simpa using World.cell?_spot h1
      subst hsp
      refine ⟨b, o, rfl, fun i hi4 => ?_⟩
      have h0 := (hfx j hj').2 i hi4
      rw [List.getElem_map, List.getElem_range, ← h0]
      unfold Addr.add
      split
      · rename_i h; congr 1; first | (simp; done) | (simp; omega)
      · congr 1; first | (simp; done) | (simp; omega)
end
end Go.Proofs.YtoplcelimdkjeaaDoor
