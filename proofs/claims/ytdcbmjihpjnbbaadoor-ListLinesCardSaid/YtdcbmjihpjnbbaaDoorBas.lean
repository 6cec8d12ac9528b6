/- Texts of one kind, in one file: Slc, Byt, Owb, Byc. -/
import Derived.Test.YtdcbmjihpjnbbaaDoorBlk
import Derived.Laws.OwnMore
import Derived.Deep.Slices
import Derived.Deep.Fields
import Derived.ChangeSame
import Derived.SizedLaws
import Derived.Test.YtdcbmjihpjnbbaaDoorMth
import Derived.ChangeSlices
import Derived.Below
import Derived.Laws.AppendOwnNone
import Derived.Laws.MakeOwn
import Derived.Laws.CopyOwn
import Derived.Laws.IdiomStrings
import Derived.Laws.BytesArg
import Derived.ArgAppend
import Derived.Lib.ConvBytes
/- Arguments that are slices of structs: raw things, records; how they lie in memory. -/
set_option linter.unusedVariables false
set_option maxRecDepth 100000
namespace Go.Proofs.YtdcbmjihpjnbbaaDoor
open Go.RowKit
open Go.OpenShut
open Go.ChangeShapes Go.WideShapes Go.Deep
instance : Inhabited RawV := ⟨⟨0, 0, 0, ByteArray.empty⟩⟩
/-- the walk stands still here -/
def Stay (p : Prop) : Prop := p
theorem Stay.go {p : Prop} (h : Stay p) : p := h
theorem Stay.on {p : Prop} (h : p) : Stay p := h
theorem own_heap {w w' : World} {B e size : Nat} {v : Value} {n : Nat} {xs : List Value} (h : w.ownsRow B e size v n xs) (hk : ∀ g, v.ownBlock = some g → w'.heap[g]? = w.heap[g]?) : w'.ownsRow B e size v n xs := by
  unfold World.ownsRow at h ⊢
  refine ⟨h.1, ?_⟩
  rcases h.2 with ⟨rfl, h0⟩ | ⟨g, cap, cur, rfl, hB, hg, hcap, hm, hs, ht⟩
  · exact .inl ⟨rfl, h0⟩
  · exact .inr ⟨g, cap, cur, rfl, hB, (hk g rfl).trans hg, hcap, hm, hs, ht⟩
theorem own_block {w : World} {B e size : Nat} {v : Value} {n : Nat} {xs : List Value} (h : w.ownsRow B e size v n xs) : ∀ g0, v.ownBlock = some g0 → B ≤ g0 ∧ ∃ cur, w.heap[g0]? = some (.cells cur e (0, 0)) := by
  intro g0 hg0
  unfold World.ownsRow at h
  rcases h.2 with ⟨rfl, h0⟩ | ⟨g, cap, cur, rfl, hB, hg, hcap, hm, hs, ht⟩
  · cases hg0
  · have e1 : g = g0 := by simpa [Value.ownBlock] using hg0
    subst e1; exact ⟨hB, cur, hg⟩
theorem own_mono {w : World} {B B' e size : Nat} {v : Value} {n : Nat} {xs : List Value} (h : w.ownsRow B e size v n xs) (hB : B' ≤ B) : w.ownsRow B' e size v n xs := by
  unfold World.ownsRow at h ⊢
  refine ⟨h.1, ?_⟩
  rcases h.2 with ⟨rfl, h0⟩ | ⟨g, cap, cur, rfl, hB', hg, hcap, hm, hs, ht⟩
  · exact .inl ⟨rfl, h0⟩
  · exact .inr ⟨g, cap, cur, rfl, by omega, hg, hcap, hm, hs, ht⟩
/-- raw things in memory -/
def RawsAt (w : World) (A : Option Addr) (rs : List RawV) : Prop :=
  ∀ j (hj : j < rs.length), ∃ b o, A = some ⟨b, o, none⟩ ∧ ∀ i, i < 4 → w.cell? ⟨b, o + j * 4 + i, none⟩ = (rawC rs[j])[i]?
/-- records in memory: each a key, a value -/
def RecsB (w : World) (A : Option Addr) (l : List (ByteArray × ByteArray)) : Prop :=
  ∀ (j : Nat) (h : j < l.length), ∃ b o, A = some ⟨b, o, none⟩ ∧ w.cell? ⟨b, o + j * 2, none⟩ = some (.string l[j].1) ∧ w.cell? ⟨b, o + j * 2 + 1, none⟩ = some (.string l[j].2)
theorem RecsB.below {w w' : World} {A : Option Addr} {l : List (ByteArray × ByteArray)} (h : RecsB w A l) (hb : Below w.heap.size w w') : RecsB w' A l := fun j hj => by
  obtain ⟨b, o, e, h0, h1⟩ := h j hj
  have hlt : b < w.heap.size := World.block_lt_of_cell? w _ h0
  exact ⟨b, o, e, (hb.cell (p := ⟨b, o + j * 2, none⟩) hlt).trans h0, (hb.cell (p := ⟨b, o + j * 2 + 1, none⟩) hlt).trans h1⟩
theorem RawsAt.below {w w' : World} {A : Option Addr} {l : List RawV} (h : RawsAt w A l) (hb : Below w.heap.size w w') : RawsAt w' A l := fun j hj => by
  obtain ⟨b, o, e, h4⟩ := h j hj
  have hlt : b < w.heap.size := World.block_lt_of_cell? w _ (h4 0 (by omega))
  exact ⟨b, o, e, fun i hi => (hb.cell (p := ⟨b, o + j * 4 + i, none⟩) hlt).trans (h4 i hi)⟩
section
variable {H : Type} {enc : TypeId × Value → H} {w : World} {base : Nat} {spare : Nat → Bool} {held : Bool}
theorem weights_all {P : Program} {e : TypeId} {l : List (DataW H)} {d : DataW H} (hd : d ∈ l) : ∀ x ∈ d.weights P e, x ∈ DataW.weightsAll P e l := by
  induction l with
  | nil => simp at hd
  | cons y l ih =>
    intro x hx
    unfold DataW.weightsAll
    rcases List.mem_cons.1 hd with rfl | a
    · exact List.mem_append.2 (.inl hx)
    · exact List.mem_append.2 (.inr (ih a x hx))
theorem weights_slice {P : Program} {t e : TypeId} (ht : P.underlying t = some (.slice e)) {elems sp : List (DataW H)} {d : DataW H} (hd : d ∈ elems) : ∀ x ∈ d.weights P e, x ∈ (DataW.slice elems sp).weights P t := by
  intro x hx
  unfold DataW.weights
  rw [ht]
  exact List.mem_cons.2 (.inr (List.mem_append.2 (.inl (weights_all hd x hx))))
theorem weights_len {P : Program} {t e : TypeId} (ht : P.underlying t = some (.slice e)) {elems sp : List (DataW H)} : (elems.length + sp.length) * P.bytesOf e ∈ (DataW.slice elems sp).weights P t := by
  unfold DataW.weights
  rw [ht]
  exact List.mem_cons.2 (.inl rfl)
end
end Go.Proofs.YtdcbmjihpjnbbaaDoor
/- Arguments that are slices of bytes. -/
set_option linter.unusedVariables false
set_option maxRecDepth 100000
namespace Go.Proofs.YtdcbmjihpjnbbaaDoor
open Go.RowKit
open Go.OpenShut
open Go.ChangeShapes Go.WideShapes Go.Deep
/-- the bytes l in memory -/
def BytsAt (w : World) (A : Option Addr) (l : List UInt8) : Prop :=
  ∀ j (hj : j < l.length), ∃ b o, A = some ⟨b, o, none⟩ ∧ w.cell? ⟨b, o + j, none⟩ = some (.int .u8 (l[j].toNat : Int))
theorem BytsAt.nil (w : World) (A : Option Addr) : BytsAt w A [] := fun j hj => by simp at hj
theorem BytsAt.below {w w' : World} {A : Option Addr} {l : List UInt8} (h : BytsAt w A l) (hb : Below w.heap.size w w') : BytsAt w' A l := by
  intro j hj
  obtain ⟨b, o, e, hc⟩ := h j hj
  refine ⟨b, o, e, ?_⟩
  have hlt : b < w.heap.size := World.block_lt_of_cell? w _ hc
  rw [← hc]
  unfold World.cell?
  simp only [hb.block b hlt]
/-- all cells at once -/
theorem BytsAt.cells {w : World} {b o : Nat} {l : List UInt8} (h : BytsAt w (some ⟨b, o, none⟩) l) : ∀ j u, (bCells l)[j]? = some u → w.cell? ⟨b, o + j, none⟩ = some u := by
  intro j u hu
  have hj : j < l.length := by
    have := (List.getElem?_eq_some_iff.1 hu).1
    rwa [bCells_length] at this
  obtain ⟨b', o', e, hc⟩ := h j hj
  simp only [Option.some.injEq, Addr.mk.injEq, and_true] at e
  obtain ⟨rfl, rfl⟩ := e
  rw [hc, ← hu, bCells_get l j hj]
  simp [bInts, hj]
theorem BytsAt.take {w : World} {A : Option Addr} {l : List UInt8} (h : BytsAt w A l) (k : Nat) : BytsAt w A (l.take k) := by
  intro j hj
  rw [List.length_take] at hj
  obtain ⟨b, o, e, hc⟩ := h j (by omega)
  exact ⟨b, o, e, by rw [hc, List.getElem_take]⟩
section
variable {H : Type} {enc : TypeId × Value → H} {w : World} {base : Nat} {spare : Nat → Bool} {held : Bool}
theorem weights_slen {P : Program} {t e : TypeId} (ht : P.underlying t = some (.slice e)) {elems sp : List (DataW H)} : (elems.length + sp.length) * P.bytesOf e ∈ (DataW.slice elems sp).weights P t := by
  unfold DataW.weights
  rw [ht]
  exact List.mem_cons.2 (.inl rfl)
theorem open_byts {v : Value} {d : DataW H} {p : List MemPlace} (hv : ∃ a len cap, v = .slice a len cap) (h : DataW.Trod enc Tryd.prog w base spare held 28 v d p) (hwt : ∀ x ∈ d.weights Tryd.prog 28, x ≤ reachBytes) :
    ∃ (A : Option Addr) (n c : Nat) (l : List UInt8), v = .slice A n c ∧ l.length = n ∧ n ≤ 140737488351232 ∧ (n ≤ c ∧ c ≤ maxLen ∧ (A = none → c = 0)) ∧ BytsAt w A l := by
  obtain ⟨a0, len0, cap0, rfl⟩ := hv
  obtain ⟨fuel, hf⟩ := h
  rcases open_ints Tryd.underlying28 Tryd.underlying5 (by kernel_rfl) hf with ⟨hcs, hx⟩ | ⟨a, len', cap', zs, hcs, _, hl, hm, hz, hx, hcell, hwz⟩
  · simp only [Value.cells, List.cons.injEq, Value.slice.injEq, and_true] at hcs
    obtain ⟨rfl, rfl, rfl⟩ := hcs
    exact ⟨none, 0, 0, [], rfl, rfl, by omega, ⟨Nat.le_refl _, by decide, fun _ => rfl⟩, BytsAt.nil _ _⟩
  · simp only [Value.cells, List.cons.injEq, Value.slice.injEq, and_true] at hcs
    obtain ⟨rfl, rfl, rfl⟩ := hcs
    simp only [Prod.mk.injEq] at hx
    obtain ⟨rfl, rfl⟩ := hx
    have hzl : len0 ≤ zs.length := by
      rw [hz]; split <;> omega
    have hlen : ((zs.take len0).map fun n => UInt8.ofNat n.toNat).length = len0 := by simp; omega
    have hr4 : reachBytes = 140737488351232 := rfl
    have hn : len0 ≤ 140737488351232 := by
      have h1 := hwt _ (weights_slen Tryd.underlying28)
      rw [hr4] at h1
      have h2 : Tryd.prog.bytesOf 5 = 1 := by kernel_rfl
      rw [h2] at h1
      simp only [lits, List.length_map, List.length_take, List.length_drop] at h1
      omega
    refine ⟨some a, len0, cap0, (zs.take len0).map fun n => UInt8.ofNat n.toNat, rfl, hlen, hn, ⟨hl, hm, fun e => by cases e⟩, fun j hj => ?_⟩
    rw [hlen] at hj
    obtain ⟨ab, ao, spot⟩ := a
    have hspot : spot = none := by simpa [Addr.add] using World.cell?_spot (hcell 0 (by omega))
    subst hspot
    refine ⟨ab, ao, rfl, ?_⟩
    have hcj := hcell j (by omega)
    rw [Addr.add_lit] at hcj
    rw [hcj]
    have hb := range_u8 hwz j
    simp only [List.getElem_map, List.getElem_take]
    have e : zs.getD j 0 = zs[j]'(by omega) := by simp [List.getD, List.getElem?_eq_getElem (show j < zs.length by omega)]
    rw [List.getD_eq_getElem?_getD] at e
    rw [e] at hb
    rw [List.getD_eq_getElem?_getD, e]
    congr 2
    simp only [UInt8.toNat_ofNat']
    omega
theorem byts_of {fuel : Nat} {cs : List Value} {x : DataW H × List MemPlace} (hf : DataW.trod enc Tryd.prog w base spare held fuel 28 cs = some x) (hwt : ∀ y ∈ x.1.weights Tryd.prog 28, y ≤ reachBytes) :
    ∃ (A : Option Addr) (n c : Nat) (l : List UInt8), cs = [.slice A n c] ∧ l.length = n ∧ n ≤ 140737488351232 ∧ (n ≤ c ∧ c ≤ maxLen ∧ (A = none → c = 0)) ∧ BytsAt w A l := by
  obtain ⟨a, len, cap, rfl⟩ : ∃ a len cap, cs = [.slice a len cap] := by
    rcases open_ints Tryd.underlying28 Tryd.underlying5 (by kernel_rfl) hf with ⟨hcs, -⟩ | ⟨a, len', cap', zs, hcs, -⟩
    · exact ⟨_, _, _, hcs⟩
    · exact ⟨_, _, _, hcs⟩
  obtain ⟨A, n, c, l, e, h⟩ := open_byts (v := .slice a len cap) (d := x.1) (p := x.2) ⟨a, len, cap, rfl⟩ ⟨fuel, hf⟩ hwt
  exact ⟨A, n, c, l, by rw [e], h⟩
end
end Go.Proofs.YtdcbmjihpjnbbaaDoor
/- Bytes of the call's own; clones of bytes; comparing them. -/
set_option linter.unusedVariables false
set_option maxRecDepth 100000
namespace Go.Proofs.YtdcbmjihpjnbbaaDoor
open Go.RowKit
open Go.OpenShut
theorem oinfo_u8 : (Tryd.prog.info? 5).map (fun i => (i.zero, i.size, i.bytes)) = some (some (.int .u8 0), 1, 1) := by kernel_rfl
theorem bCells_one (l : List UInt8) : ∀ u ∈ bCells l, u.oneCell' = true := by
  intro u hu
  simp only [bCells, bInts, List.mem_map] at hu
  obtain ⟨a, _, rfl⟩ := hu; rfl
/-- the bytes l in a row of the call's own -/
def OwnB (w : World) (B : Nat) (v : Value) (l : List UInt8) : Prop := w.ownsRow B 5 1 v l.length (bCells l)
theorem OwnB.nil (w : World) (B : Nat) : OwnB w B (.slice none 0 0) [] := World.ownsRow_nil _ _ _ _
/-- the form of a slice: its length fits its room, nil has no room -/
def SlOk (A : Option Addr) (n c : Nat) : Prop := n ≤ c ∧ c ≤ maxLen ∧ (A = none → c = 0)
theorem OwnB.form {w : World} {B : Nat} {v : Value} {l : List UInt8} (h : OwnB w B v l) : ∃ A c, v = .slice A l.length c ∧ SlOk A l.length c ∧ BytsAt w A l := by
  have h' := h
  unfold OwnB World.ownsRow at h
  rcases h.2 with ⟨rfl, h0⟩ | ⟨g, cap, cur, rfl, hB, hg, hcap, hm, hs, ht⟩
  · have e : l = [] := List.eq_nil_of_length_eq_zero h0
    subst e
    exact ⟨none, 0, rfl, ⟨by simp, by decide, fun _ => rfl⟩, BytsAt.nil _ _⟩
  · refine ⟨some ⟨g, 0, none⟩, cap, rfl, ⟨hcap, hm, fun e => by cases e⟩, fun j hj => ⟨g, 0, rfl, ?_⟩⟩
    unfold OwnB at h'
    rw [Nat.zero_add, h'.cellAt j (by omega), bCells_get l j hj]; simp [bInts, hj]
theorem OwnB.below {w w' : World} {B : Nat} {v : Value} {l : List UInt8} (h : OwnB w B v l) (hb : Below w.heap.size w w') : OwnB w' B v l :=
  own_heap h fun g hg => hb.block g (World.ownsRow.lt h g hg).2
theorem OwnB.mono {w : World} {B B' : Nat} {v : Value} {l : List UInt8} (h : OwnB w B v l) (hB : B' ≤ B) : OwnB w B' v l := own_mono h hB
theorem OwnB.alloc {w : World} {B : Nat} {v : Value} {l : List UInt8} (h : OwnB w B v l) (o : Obj) : OwnB (w.alloc o) B v l := World.ownsRow.alloc h o
theorem belowA {w W : World} (h : Below w.heap.size w W) (o : Obj) : Below w.heap.size w (W.alloc o) := h.alloc h.size o
theorem hszA (W : World) (o : Obj) : (W.alloc o).heap.size = W.heap.size + 1 := by
  show (W.heap.push o).size = _
  exact Array.size_push ..
theorem OwnB.drew {w : World} {B : Nat} {v : Value} {l : List UInt8} (h : OwnB w B v l) : OwnB w.drew B v l := h
theorem OwnB.drewN {w : World} {B n : Nat} {v : Value} {l : List UInt8} (h : OwnB w B v l) : OwnB (w.drewN n) B v l := h
theorem BytsAt.drew {w : World} {A : Option Addr} {l : List UInt8} (h : BytsAt w A l) : BytsAt w.drew A l := h
/-- where a slice lies that begins at k -/
def cutA (A : Option Addr) (c k : Nat) : Option Addr := if c = k then A else A.map (·.add k)
theorem BytsAt.cut {w : World} {A : Option Addr} {l : List UInt8} (h : BytsAt w A l) {c : Nat} (hc : l.length ≤ c) (k : Nat) (hk : k ≤ l.length) : BytsAt w (cutA A c k) (l.drop k) := by
  intro j hj
  rw [List.length_drop] at hj
  have hne : c ≠ k := by omega
  obtain ⟨b, o, rfl, hc0⟩ := h (k + j) (by omega)
  refine ⟨b, o + k, ?_, ?_⟩
  · unfold cutA; rw [if_neg hne]; simp only [Option.map_some]; congr 1; exact Addr.add_lit _ _ _
  · rw [Nat.add_assoc, hc0, List.getElem_drop]
theorem SlOk.cut {A : Option Addr} {n c : Nat} (h : SlOk A n c) (k : Nat) (hk : k ≤ n) (m : Nat) (hm : m + k ≤ c) : SlOk (cutA A c k) m (c - k) := by
  obtain ⟨h1, h2, h3⟩ := h
  refine ⟨by omega, by omega, fun e => ?_⟩
  have : A = none := by
    unfold cutA at e
    split at e
    · exact e
    · cases A with
      | none => rfl
      | some a => cases e
  have := h3 this; omega
/-- all cells at once, at whatever address -/
theorem BytsAt.news {w : World} {a : Addr} {l : List UInt8} (h : BytsAt w (some a) l) : ∀ j u, (bCells l)[j]? = some u → w.cell? (a.add j) = some u := by
  intro j u hu
  have hj : j < l.length := by
    have := (List.getElem?_eq_some_iff.1 hu).1
    rwa [bCells_length] at this
  obtain ⟨b, o, e, hc⟩ := h j hj
  injection e with e
  subst e
  rw [Addr.add_lit, hc, ← hu, bCells_get l j hj]
  simp [bInts, hj]
/-- bytes, made a string -/
theorem BytsAt.conv {w : World} {A : Option Addr} {l : List UInt8} (h : BytsAt w A l) (c : Nat) (hn : A = none → l = []) : (convert 28 9 (.slice A l.length c)).run Tryd.prog w = .ok (.string (bs l)) w := by
  cases A with
  | none =>
    have := hn rfl
    subst this
    exact run_convert_bytes_nil w 28 5 Tryd.underlying28 Tryd.underlying5 _ _ 9 Tryd.underlying9
  | some a =>
    exact run_convert_bytes_back w 28 9 5 a c l Tryd.underlying28 Tryd.underlying5 Tryd.underlying9 fun j hj => by
      obtain ⟨b, o, e, hc⟩ := h j hj
      injection e with e
      subst e
      rw [Addr.add_lit]; exact hc
theorem BytsAt.none_nil {w : World} {l : List UInt8} (h : BytsAt w none l) : l = [] := by
  cases l with
  | nil => rfl
  | cons r l => obtain ⟨b, o, e, -⟩ := h 0 (by simp); cases e
end Go.Proofs.YtdcbmjihpjnbbaaDoor
/- Rows of bytes of the call's own, those that []byte(s) made among them; append to such. -/
set_option linter.unusedVariables false
set_option maxRecDepth 100000
namespace Go.Proofs.YtdcbmjihpjnbbaaDoor
open Go.RowKit
open Go.OpenShut
/-- the bytes l in a row of the call's own, wherever it came from -/
def OwnC (w : World) (B : Nat) (v : Value) (l : List UInt8) : Prop :=
  ∃ g cap, v = .slice (some ⟨g, 0, none⟩) l.length cap ∧ B ≤ g ∧ g < w.heap.size ∧ l.length ≤ cap ∧ cap ≤ maxLen ∧ (∀ j, j < cap → (w.cell? ⟨g, j, none⟩).isSome = true ∧ w.frozen? ⟨g, j, none⟩ = false) ∧ BytsAt w (some ⟨g, 0, none⟩) l
theorem OwnC.form {w : World} {B : Nat} {v : Value} {l : List UInt8} (h : OwnC w B v l) : ∃ A c, v = .slice A l.length c ∧ SlOk A l.length c ∧ BytsAt w A l := by
  obtain ⟨g, cap, rfl, h1, h2, h3, h4, h5, h6⟩ := h
  exact ⟨_, _, rfl, ⟨h3, h4, fun e => by cases e⟩, h6⟩
theorem OwnC.below {w w' : World} {B : Nat} {v : Value} {l : List UInt8} (h : OwnC w B v l) (hb : Below w.heap.size w w') : OwnC w' B v l := by
  obtain ⟨g, cap, rfl, h1, h2, h3, h4, h5, h6⟩ := h
  refine ⟨g, cap, rfl, h1, Nat.lt_of_lt_of_le h2 hb.size, h3, h4, fun j hj => ?_, h6.below hb⟩
  rw [hb.cell (p := ⟨g, j, none⟩) h2, hb.frozen (p := ⟨g, j, none⟩) h2]
  exact h5 j hj
theorem OwnC.mono {w : World} {B B' : Nat} {v : Value} {l : List UInt8} (h : OwnC w B v l) (hB : B' ≤ B) : OwnC w B' v l := by
  obtain ⟨g, cap, rfl, h1, h2, h3⟩ := h
  exact ⟨g, cap, rfl, Nat.le_trans hB h1, h2, h3⟩
theorem OwnC.alloc {w : World} {B : Nat} {v : Value} {l : List UInt8} (h : OwnC w B v l) (o : Obj) : OwnC (w.alloc o) B v l := h.below ((Below.refl _ _).alloc (Nat.le_refl _) o)
theorem byc_run (W : World) (s : ByteArray) : (convert 9 28 (.string s)).run Tryd.prog W = .ok (.slice (some ⟨W.heap.size, 0, none⟩) s.size (grownCap W s.size 0 5)) (Lib.bytesWorld W 5 s) :=
  Lib.run_convert_string_bytes W 9 28 5 s Tryd.underlying9 Tryd.underlying28 Tryd.underlying5
theorem byc_below (w : World) (s : ByteArray) : Below w.heap.size w (Lib.bytesWorld w 5 s) :=
  ⟨rfl, rfl, rfl, by rw [Lib.bytesWorld_size]; omega, fun k hk => Lib.bytesWorld_at_old w 5 s k hk⟩
theorem OwnC.conv (w : World) (s : ByteArray) (hs : s.size ≤ maxLen) : OwnC (Lib.bytesWorld w 5 s) w.heap.size (.slice (some ⟨w.heap.size, 0, none⟩) s.size (grownCap w s.size 0 5)) s.data.toList := by
  have hcs : (Lib.bytesCells w 5 s).size = grownCap w s.size 0 5 := by
    have := grownCap_ge w s.size 0 5
    unfold Lib.bytesCells
    simp only [Array.size_append, Array.size_map, ByteArray.size_data, Array.size_replicate]
    omega
  have hnew := Lib.bytesWorld_at_new w 5 s
  refine ⟨w.heap.size, _, by simp, Nat.le_refl _, by rw [Lib.bytesWorld_size]; omega, by simpa using grownCap_ge w s.size 0 5, grownCap_le_maxLen w s.size 0 5 hs, fun j hj => ⟨?_, ?_⟩, fun j hj => ⟨w.heap.size, 0, rfl, ?_⟩⟩
  · rw [cell_of_row _ _ j _ _ _ hnew, Array.getElem?_eq_getElem (by omega)]; rfl
  · unfold World.frozen?
    simp only [hnew, hcs]
    have : ¬ (grownCap w s.size 0 5 ≤ j ∧ j < grownCap w s.size 0 5 + 1) := by omega
    simp
    omega
  · have hj' : j < s.size := by simpa using hj
    rw [Nat.zero_add, Lib.bytesWorld_cell w 5 s j hj', List.getD_eq_getElem?_getD, List.getElem?_eq_getElem hj]; rfl
end Go.Proofs.YtdcbmjihpjnbbaaDoor
