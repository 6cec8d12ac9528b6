/- Arguments that are slices of structs: raw things, records; how they lie in memory. -/
import Derived.Test.YtldffnmoafhidaaBlk
import Derived.Laws.OwnMore
import Derived.Deep.Slices
import Derived.Deep.Fields
import Derived.ChangeSame
import Derived.SizedLaws
set_option linter.unusedVariables false
set_option maxRecDepth 100000
namespace Go.Proofs.Ytldffnmoafhidaa
open Go.RowKit
open Go.OpenShut
open Go.ChangeShapes Go.WideShapes Go.Deep
instance : Inhabited RawV := ⟨⟨0, 0, 0, ByteArray.empty⟩⟩
/-- the walk stands still here -/
def Stay (p : Prop) : Prop := p
theorem Stay.go {p : Prop} (h : Stay p) : p := h
theorem Stay.on {p : Prop} (h : p) : Stay p := h
theorem own_heap {w w' : World} {B e size : Nat} {v : Value} {n : Nat} {xs : List Value} (h : w.ownsRow B e size v n xs) (hk : ∀ g, v.ownBlock = some g → w'.heap[g]? = w.heap[g]?) : w'.ownsRow B e size v n xs := by
  unfold World.ownsRow at h ⊢
  refine ⟨h.1, ?_⟩
  rcases h.2 with ⟨rfl, h0⟩ | ⟨g, cap, cur, rfl, hB, hg, hcap, hm, hs, ht⟩
  · exact .inl ⟨rfl, h0⟩
  · exact .inr ⟨g, cap, cur, rfl, hB, (hk g rfl).trans hg, hcap, hm, hs, ht⟩
theorem own_block {w : World} {B e size : Nat} {v : Value} {n : Nat} {xs : List Value} (h : w.ownsRow B e size v n xs) : ∀ g0, v.ownBlock = some g0 → B ≤ g0 ∧ ∃ cur, w.heap[g0]? = some (.cells cur e (0, 0)) := by
  intro g0 hg0
  unfold World.ownsRow at h
  rcases h.2 with ⟨rfl, h0⟩ | ⟨g, cap, cur, rfl, hB, hg, hcap, hm, hs, ht⟩
  · cases hg0
  · have e1 : g = g0 := by simpa [Value.ownBlock] using hg0
    subst e1; exact ⟨hB, cur, hg⟩
theorem own_mono {w : World} {B B' e size : Nat} {v : Value} {n : Nat} {xs : List Value} (h : w.ownsRow B e size v n xs) (hB : B' ≤ B) : w.ownsRow B' e size v n xs := by
  unfold World.ownsRow at h ⊢
  refine ⟨h.1, ?_⟩
  rcases h.2 with ⟨rfl, h0⟩ | ⟨g, cap, cur, rfl, hB', hg, hcap, hm, hs, ht⟩
  · exact .inl ⟨rfl, h0⟩
  · exact .inr ⟨g, cap, cur, rfl, by omega, hg, hcap, hm, hs, ht⟩
/-- raw things in memory -/
def RawsAt (w : World) (A : Option Addr) (rs : List RawV) : Prop :=
  ∀ j (hj : j < rs.length), ∃ b o, A = some ⟨b, o, none⟩ ∧ ∀ i, i < 4 → w.cell? ⟨b, o + j * 4 + i, none⟩ = (rawC rs[j])[i]?
theorem raw_four {w : World} {b o : Nat} {r : RawV} (h : ∀ i, i < 4 → w.cell? ⟨b, o + i, none⟩ = (rawC r)[i]?) :
    w.cell? ⟨b, o, none⟩ = some (.int .i64 r.kind) ∧ w.cell? ⟨b, o + 1, none⟩ = some (.int .i64 r.a) ∧ w.cell? ⟨b, o + 2, none⟩ = some (.int .i64 r.b) ∧ w.cell? ⟨b, o + 3, none⟩ = some (.string r.text) :=
  ⟨h 0 (by omega), h 1 (by omega), h 2 (by omega), h 3 (by omega)⟩
/-- records in memory: each a key, a value -/
def RecsB (w : World) (A : Option Addr) (l : List (ByteArray × ByteArray)) : Prop :=
  ∀ (j : Nat) (h : j < l.length), ∃ b o, A = some ⟨b, o, none⟩ ∧ w.cell? ⟨b, o + j * 2, none⟩ = some (.string l[j].1) ∧ w.cell? ⟨b, o + j * 2 + 1, none⟩ = some (.string l[j].2)
theorem RecsB.below {w w' : World} {A : Option Addr} {l : List (ByteArray × ByteArray)} (h : RecsB w A l) (hb : Below w.heap.size w w') : RecsB w' A l := fun j hj => by
  obtain ⟨b, o, e, h0, h1⟩ := h j hj
  have hlt : b < w.heap.size := World.block_lt_of_cell? w _ h0
  exact ⟨b, o, e, (hb.cell (p := ⟨b, o + j * 2, none⟩) hlt).trans h0, (hb.cell (p := ⟨b, o + j * 2 + 1, none⟩) hlt).trans h1⟩
theorem RawsAt.below {w w' : World} {A : Option Addr} {l : List RawV} (h : RawsAt w A l) (hb : Below w.heap.size w w') : RawsAt w' A l := fun j hj => by
  obtain ⟨b, o, e, h4⟩ := h j hj
  have hlt : b < w.heap.size := World.block_lt_of_cell? w _ (h4 0 (by omega))
  exact ⟨b, o, e, fun i hi => (hb.cell (p := ⟨b, o + j * 4 + i, none⟩) hlt).trans (h4 i hi)⟩
section
variable {H : Type} {enc : TypeId × Value → H} {w : World} {base : Nat} {spare : Nat → Bool} {held : Bool}
/-- a slice of structs, its cells and its fields -/
theorem open_slice_flds {P : Program} {t e : TypeId} {fs : Array Field} {fuel : Nat} {cs : List Value} {x : DataW H × List MemPlace} (ht : P.underlying t = some (.slice e)) (he : P.underlying e = some (.struct fs))
    (hone : oneCellFields P fs = true) (hC : P.cellsOf e = fs.size) (h : DataW.trod enc P w base spare held fuel t cs = some x) :
    (cs = [.slice none 0 0] ∧ x.1 = .nil) ∨
    ∃ (a : Addr) (len cap m : Nat) (D : Nat → DataW H), cs = [.slice (some a) len cap] ∧ len ≤ m ∧
      x.1 = .slice ((List.range len).map D) ((List.range (m - len)).map fun j => D (len + j)) ∧
      ∀ i, i < m → ∃ (ys : List (DataW H × List MemPlace)) (n : Nat), D i = .agg (ys.map (·.1)) ∧ ys.length = fs.size ∧
        ∀ (j : Nat) (f : Field), fs[j]? = some f → ∃ (v : Value) (y : DataW H × List MemPlace), w.cell? (a.add (i * fs.size + j)) = some v ∧ ys[j]? = some y ∧ DataW.trod enc P w base spare held n f.type [v] = some y := by
  rcases open_slice ht h with h0 | ⟨a, len, cap, m, n, D, Pl, hcs, hb, hl, hm, hmm, hx, hi⟩
  · exact .inl ⟨h0.1, by rw [h0.2]⟩
  · refine .inr ⟨a, len, cap, m, D, hcs, by rw [hmm]; split <;> omega, by rw [hx], fun i him => ?_⟩
    obtain ⟨cs', hc, ht'⟩ := hi i him
    rw [hC] at hc
    obtain ⟨ys, n', hn', hy, hlen, hyl, hf⟩ := DataW.trod_struct he ht'
    obtain ⟨_, hcl, hat⟩ := World.cells?_some hc
    simp only [Prod.mk.injEq] at hy
    refine ⟨ys, n', hy.1, hyl, fun j f hj => ?_⟩
    obtain ⟨ho, hk⟩ := hone_of hone j f hj
    have hjl : j < fs.size := (Array.getElem?_eq_some_iff.1 hj).1
    have hcell := hat j hjl
    have hv : cs'[j]? = some (cs'[j]'(by omega)) := List.getElem?_eq_getElem (by omega)
    have h1 := hf j f hj
    rw [ho, hk] at h1
    have hone' : (cs'.drop j).take 1 = [cs'[j]'(by omega)] := by
      rw [List.drop_eq_getElem_cons (by omega)]
      rfl
    rw [hone'] at h1
    have hys : ys[j]? = some (ys[j]'(by omega)) := List.getElem?_eq_getElem (by omega)
    refine ⟨_, _, ?_, hys, h1.trans hys⟩
    rw [← Go.Deep.add_add, hcell, hv]
theorem weights_all {P : Program} {e : TypeId} {l : List (DataW H)} {d : DataW H} (hd : d ∈ l) : ∀ x ∈ d.weights P e, x ∈ DataW.weightsAll P e l := by
  induction l with
  | nil => simp at hd
  | cons y l ih =>
    intro x hx
    unfold DataW.weightsAll
    rcases List.mem_cons.1 hd with rfl | a
    · exact List.mem_append.2 (.inl hx)
    · exact List.mem_append.2 (.inr (ih a x hx))
theorem weights_field {P : Program} {e : TypeId} {fs : Array Field} (he : P.underlying e = some (.struct fs)) {parts : List (DataW H)} {j : Nat} {f : Field} {d : DataW H} (hf : fs[j]? = some f) (hd : parts[j]? = some d) : ∀ x ∈ d.weights P f.type, x ∈ (DataW.agg parts).weights P e := by
  intro x hx
  unfold DataW.weights
  rw [he]
  exact DataW.weights_mem_each (j := j) (t := f.type) (by simp [hf]) hd x hx
theorem weights_slice {P : Program} {t e : TypeId} (ht : P.underlying t = some (.slice e)) {elems sp : List (DataW H)} {d : DataW H} (hd : d ∈ elems) : ∀ x ∈ d.weights P e, x ∈ (DataW.slice elems sp).weights P t := by
  intro x hx
  unfold DataW.weights
  rw [ht]
  exact List.mem_cons.2 (.inr (List.mem_append.2 (.inl (weights_all hd x hx))))
theorem weights_len {P : Program} {t e : TypeId} (ht : P.underlying t = some (.slice e)) {elems sp : List (DataW H)} : (elems.length + sp.length) * P.bytesOf e ∈ (DataW.slice elems sp).weights P t := by
  unfold DataW.weights
  rw [ht]
  exact List.mem_cons.2 (.inl rfl)
end
end Go.Proofs.Ytldffnmoafhidaa
