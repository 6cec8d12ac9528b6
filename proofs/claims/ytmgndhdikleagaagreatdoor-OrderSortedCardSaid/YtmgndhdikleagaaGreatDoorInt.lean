/- Arguments that are slices of numbers. -/
import Derived.Test.YtmgndhdikleagaaGreatDoorByt
set_option linter.unusedVariables false
set_option maxRecDepth 100000
namespace Go.Proofs.YtmgndhdikleagaaGreatDoor
open Go.RowKit
open Go.OpenShut
open Go.ChangeShapes Go.WideShapes Go.Deep
/-- the numbers l in memory -/
def IntsAt (w : World) (A : Option Addr) (l : List Int) : Prop :=
  ∀ j (hj : j < l.length), ∃ b o, A = some ⟨b, o, none⟩ ∧ w.cell? ⟨b, o + j, none⟩ = some (.int .i64 l[j]) ∧ (Lit.int .i64 l[j]).wf = true
theorem IntsAt.nil (w : World) (A : Option Addr) : IntsAt w A [] := fun j hj => by simp at hj
theorem IntsAt.below {w w' : World} {A : Option Addr} {l : List Int} (h : IntsAt w A l) (hb : Below w.heap.size w w') : IntsAt w' A l := by
  intro j hj
  obtain ⟨b, o, e, hc, hw⟩ := h j hj
  refine ⟨b, o, e, ?_, hw⟩
  have hlt : b < w.heap.size := World.block_lt_of_cell? w _ hc
  rw [← hc]
  unfold World.cell?
  simp only [hb.block b hlt]
section
variable {H : Type} {enc : TypeId × Value → H} {w : World} {base : Nat} {spare : Nat → Bool} {held : Bool}
theorem open_nums {v : Value} {d : DataW H} {p : List MemPlace} (hv : ∃ a len cap, v = .slice a len cap) (h : DataW.Trod enc Tryz.prog w base spare held 43 v d p) (hwt : ∀ x ∈ d.weights Tryz.prog 43, x ≤ reachBytes) :
    ∃ (A : Option Addr) (n c : Nat) (l : List Int), v = .slice A n c ∧ l.length = n ∧ n ≤ 140737488351232 ∧ (n ≤ c ∧ c ≤ maxLen ∧ (A = none → c = 0)) ∧ IntsAt w A l := by
  obtain ⟨a0, len0, cap0, rfl⟩ := hv
  obtain ⟨fuel, hf⟩ := h
  rcases open_ints Tryz.underlying43 Tryz.underlying3 (by kernel_rfl) hf with ⟨hcs, hx⟩ | ⟨a, len', cap', zs, hcs, _, hl, hm, hz, hx, hcell, hwz⟩
  · simp only [Value.cells, List.cons.injEq, Value.slice.injEq, and_true] at hcs
    obtain ⟨rfl, rfl, rfl⟩ := hcs
    exact ⟨none, 0, 0, [], rfl, rfl, by omega, ⟨Nat.le_refl _, by decide, fun _ => rfl⟩, IntsAt.nil _ _⟩
  · simp only [Value.cells, List.cons.injEq, Value.slice.injEq, and_true] at hcs
    obtain ⟨rfl, rfl, rfl⟩ := hcs
    simp only [Prod.mk.injEq] at hx
    obtain ⟨rfl, rfl⟩ := hx
    have hzl : len0 ≤ zs.length := by
      rw [hz]; split <;> omega
    have hlen : (zs.take len0).length = len0 := by rw [List.length_take]; omega
    have hr4 : reachBytes = 140737488351232 := rfl
    have hn : len0 ≤ 140737488351232 := by
      have h1 := hwt _ (weights_slen Tryz.underlying43)
      rw [hr4] at h1
      have h2 : Tryz.prog.bytesOf 3 = 8 := by kernel_rfl
      rw [h2] at h1
      simp only [lits, List.length_map, List.length_take, List.length_drop] at h1
      omega
    refine ⟨some a, len0, cap0, zs.take len0, rfl, hlen, hn, ⟨hl, hm, fun e => by cases e⟩, fun j hj => ?_⟩
    rw [hlen] at hj
    obtain ⟨ab, ao, spot⟩ := a
    have hspot : spot = none := by simpa [Addr.add] using World.cell?_spot (hcell 0 (by omega))
    subst hspot
    have hcj := hcell j (by omega)
    rw [Addr.add_lit] at hcj
    have e : zs.getD j 0 = zs[j]'(by omega) := by simp [List.getD, List.getElem?_eq_getElem (show j < zs.length by omega)]
    rw [e] at hcj
    rw [List.getElem_take]
    exact ⟨ab, ao, rfl, hcj, hwz _ (List.getElem_mem _)⟩
end
end Go.Proofs.YtmgndhdikleagaaGreatDoor
