/- Arguments that are slices of bytes. -/
import Derived.Test.YtldffnmoafhidaaFldM
import Derived.ChangeSlices
import Derived.Deep.Slices
import Derived.Deep.Fields
import Derived.ChangeSame
import Derived.SizedLaws
import Derived.Below
set_option linter.unusedVariables false
set_option maxRecDepth 100000
namespace Go.Proofs.Ytldffnmoafhidaa
open Go.RowKit
open Go.OpenShut
open Go.ChangeShapes Go.WideShapes Go.Deep
/-- the bytes l in memory -/
def BytsAt (w : World) (A : Option Addr) (l : List UInt8) : Prop :=
  ∀ j (hj : j < l.length), ∃ b o, A = some ⟨b, o, none⟩ ∧ w.cell? ⟨b, o + j, none⟩ = some (.int .u8 (l[j].toNat : Int))
theorem BytsAt.nil (w : World) (A : Option Addr) : BytsAt w A [] := fun j hj => by simp at hj
theorem BytsAt.below {w w' : World} {A : Option Addr} {l : List UInt8} (h : BytsAt w A l) (hb : Below w.heap.size w w') : BytsAt w' A l := by
  intro j hj
  obtain ⟨b, o, e, hc⟩ := h j hj
  refine ⟨b, o, e, ?_⟩
  have hlt : b < w.heap.size := World.block_lt_of_cell? w _ hc
  rw [← hc]
  unfold World.cell?
  simp only [hb.block b hlt]
/-- all cells at once -/
theorem BytsAt.cells {w : World} {b o : Nat} {l : List UInt8} (h : BytsAt w (some ⟨b, o, none⟩) l) : ∀ j u, (bCells l)[j]? = some u → w.cell? ⟨b, o + j, none⟩ = some u := by
  intro j u hu
  have hj : j < l.length := by
    have := (List.getElem?_eq_some_iff.1 hu).1
    rwa [bCells_length] at this
  obtain ⟨b', o', e, hc⟩ := h j hj
  simp only [Option.some.injEq, Addr.mk.injEq, and_true] at e
  obtain ⟨rfl, rfl⟩ := e
  rw [hc, ← hu, bCells_get l j hj]
  simp [bInts, hj]
/-- the bytes of l from k to m, where the slice of them begins -/
theorem BytsAt.sub {w : World} {b o : Nat} {l : List UInt8} (h : BytsAt w (some ⟨b, o, none⟩) l) (k : Nat) : BytsAt w (some ⟨b, o + k, none⟩) (l.drop k) := by
  intro j hj
  rw [List.length_drop] at hj
  obtain ⟨b', o', e, hc⟩ := h (k + j) (by omega)
  simp only [Option.some.injEq, Addr.mk.injEq, and_true] at e
  obtain ⟨rfl, rfl⟩ := e
  exact ⟨_, _, rfl, by rw [Nat.add_assoc, hc, List.getElem_drop]⟩
theorem BytsAt.take {w : World} {A : Option Addr} {l : List UInt8} (h : BytsAt w A l) (k : Nat) : BytsAt w A (l.take k) := by
  intro j hj
  rw [List.length_take] at hj
  obtain ⟨b, o, e, hc⟩ := h j (by omega)
  exact ⟨b, o, e, by rw [hc, List.getElem_take]⟩
section
variable {H : Type} {enc : TypeId × Value → H} {w : World} {base : Nat} {spare : Nat → Bool} {held : Bool}
theorem weights_slen {P : Program} {t e : TypeId} (ht : P.underlying t = some (.slice e)) {elems sp : List (DataW H)} : (elems.length + sp.length) * P.bytesOf e ∈ (DataW.slice elems sp).weights P t := by
  unfold DataW.weights
  rw [ht]
  exact List.mem_cons.2 (.inl rfl)
theorem open_byts {v : Value} {d : DataW H} {p : List MemPlace} (hv : ∃ a len cap, v = .slice a len cap) (h : DataW.Trod enc Try.prog w base spare held 22 v d p) (hwt : ∀ x ∈ d.weights Try.prog 22, x ≤ reachBytes) :
    ∃ (A : Option Addr) (n c : Nat) (l : List UInt8), v = .slice A n c ∧ l.length = n ∧ n ≤ 140737488351232 ∧ (n ≤ c ∧ c ≤ maxLen ∧ (A = none → c = 0)) ∧ BytsAt w A l := by
  obtain ⟨a0, len0, cap0, rfl⟩ := hv
  obtain ⟨fuel, hf⟩ := h
  rcases open_ints Try.underlying22 Try.underlying5 (by kernel_rfl) hf with ⟨hcs, hx⟩ | ⟨a, len', cap', zs, hcs, _, hl, hm, hz, hx, hcell, hwz⟩
  · simp only [Value.cells, List.cons.injEq, Value.slice.injEq, and_true] at hcs
    obtain ⟨rfl, rfl, rfl⟩ := hcs
    exact ⟨none, 0, 0, [], rfl, rfl, by omega, ⟨Nat.le_refl _, by decide, fun _ => rfl⟩, BytsAt.nil _ _⟩
  · simp only [Value.cells, List.cons.injEq, Value.slice.injEq, and_true] at hcs
    obtain ⟨rfl, rfl, rfl⟩ := hcs
    simp only [Prod.mk.injEq] at hx
    obtain ⟨rfl, rfl⟩ := hx
    have hzl : len0 ≤ zs.length := by
      rw [hz]; split <;> omega
    have hlen : ((zs.take len0).map fun n => UInt8.ofNat n.toNat).length = len0 := by simp; omega
    have hr4 : reachBytes = 140737488351232 := rfl
    have hn : len0 ≤ 140737488351232 := by
      have h1 := hwt _ (weights_slen Try.underlying22)
      rw [hr4] at h1
      have h2 : Try.prog.bytesOf 5 = 1 := by kernel_rfl
      rw [h2] at h1
      simp only [lits, List.length_map, List.length_take, List.length_drop] at h1
      omega
    refine ⟨some a, len0, cap0, (zs.take len0).map fun n => UInt8.ofNat n.toNat, rfl, hlen, hn, ⟨hl, hm, fun e => by cases e⟩, fun j hj => ?_⟩
    rw [hlen] at hj
    obtain ⟨ab, ao, spot⟩ := a
    have hspot : spot = none := by simpa [Addr.add] using World.cell?_spot (hcell 0 (by omega))
    subst hspot
    refine ⟨ab, ao, rfl, ?_⟩
    have hcj := hcell j (by omega)
    rw [Addr.add_lit] at hcj
    rw [hcj]
    have hb := range_u8 hwz j
    simp only [List.getElem_map, List.getElem_take]
    have e : zs.getD j 0 = zs[j]'(by omega) := by simp [List.getD, List.getElem?_eq_getElem (show j < zs.length by omega)]
    rw [List.getD_eq_getElem?_getD] at e
    rw [e] at hb
    rw [List.getD_eq_getElem?_getD, e]
    congr 2
    simp only [UInt8.toNat_ofNat']
    omega
theorem byts_of {fuel : Nat} {cs : List Value} {x : DataW H × List MemPlace} (hf : DataW.trod enc Try.prog w base spare held fuel 22 cs = some x) (hwt : ∀ y ∈ x.1.weights Try.prog 22, y ≤ reachBytes) :
    ∃ (A : Option Addr) (n c : Nat) (l : List UInt8), cs = [.slice A n c] ∧ l.length = n ∧ n ≤ 140737488351232 ∧ (n ≤ c ∧ c ≤ maxLen ∧ (A = none → c = 0)) ∧ BytsAt w A l := by
  obtain ⟨a, len, cap, rfl⟩ : ∃ a len cap, cs = [.slice a len cap] := by
    rcases open_ints Try.underlying22 Try.underlying5 (by kernel_rfl) hf with ⟨hcs, -⟩ | ⟨a, len', cap', zs, hcs, -⟩
    · exact ⟨_, _, _, hcs⟩
    · exact ⟨_, _, _, hcs⟩
  obtain ⟨A, n, c, l, e, h⟩ := open_byts (v := .slice a len cap) (d := x.1) (p := x.2) ⟨a, len, cap, rfl⟩ ⟨fuel, hf⟩ hwt
  exact ⟨A, n, c, l, by rw [e], h⟩
end
end Go.Proofs.Ytldffnmoafhidaa
