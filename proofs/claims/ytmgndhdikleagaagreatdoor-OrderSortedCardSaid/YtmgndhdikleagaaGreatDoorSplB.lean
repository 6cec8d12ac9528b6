/- Contracts of the reference's faults and splitting of paths. -/
import Derived.Test.YtmgndhdikleagaaGreatDoorSplA
set_option linter.unusedVariables false
set_option maxRecDepth 100000
namespace Go.Proofs.YtmgndhdikleagaaGreatDoor
open Go.RowKit
open Go.OpenShut
theorem nil_of_size {s : ByteArray} (h : s.size < 1) : s.data.toList = [] := by
  have h4 : s.data.toList.length = s.size := by simp
  exact List.eq_nil_of_length_eq_zero (by omega)
theorem ne_of_size {s : ByteArray} (h : 1 ≤ s.size) : s.data.toList ≠ [] := fun e => by
  have h4 : s.data.toList.length = s.size := by simp
  rw [e] at h4; simp at h4; omega
theorem ret_2str {a b a' b' : ByteArray} (h : a = a') (h' : b = b') : Ending.returned (.tuple #[.string a, .string b]) = .returned (.tuple #[.string a', .string b']) := by rw [h, h']
theorem strs_get (ls : List (List UInt8)) (j : Nat) (h : j < ls.length) : (ls.map fun l => (⟨l.toArray⟩ : ByteArray)).getD j ByteArray.empty = ⟨(ls.getD j []).toArray⟩ := by
  simp [List.getD_eq_getElem?_getD, h]
theorem strs_inj (xs ys : List (List UInt8)) : (xs.map fun l => (⟨l.toArray⟩ : ByteArray)) = (ys.map fun l => (⟨l.toArray⟩ : ByteArray)) ↔ xs = ys := by
  constructor
  · intro h
    have := congrArg (List.map fun b : ByteArray => b.data.toList) h
    rw [List.map_map, List.map_map] at this
    simpa [Function.comp_def] using this
  · intro h; rw [h]
theorem Equal_any (A B : Option Addr) (ca cb : Nat) (xs ys : List (List UInt8)) (w : World) (hx : xs.length ≤ 9223372036854775807) (hy : ys.length ≤ 9223372036854775807)
    (hA : ∀ j, j < xs.length → ∃ g, A = some ⟨g, 0, none⟩ ∧ w.cell? ⟨g, j, none⟩ = some (strV (xs.getD j []))) (hB : ∀ j, j < ys.length → ∃ g, B = some ⟨g, 0, none⟩ ∧ w.cell? ⟨g, j, none⟩ = some (strV (ys.getD j []))) :
    Calls Tryz.prog 9 #[.slice A xs.length ca, .slice B ys.length cb] w fun e w' => e = .returned (.bool (decide (xs = ys))) ∧ ∃ q, w' = w.drewN q := by
  by_cases hl : xs.length = ys.length
  · by_cases h0 : xs.length = 0
    · have hx0 : xs = [] := List.eq_nil_of_length_eq_zero h0
      have hy0 : ys = [] := List.eq_nil_of_length_eq_zero (by omega)
      subst hx0; subst hy0
      exact (Tryz.slices_Equal_string_empty A B ca 0 cb w (by decide)).mono fun e w' ⟨a, b⟩ => ⟨by rw [a]; rfl, 0, by rw [b]; rfl⟩
    · obtain ⟨g1, rfl, _⟩ := hA 0 (by omega)
      obtain ⟨g2, rfl, _⟩ := hB 0 (by omega)
      have h := Tryz.slices_Equal_string g1 0 xs.length ca g2 0 ys.length cb (xs.map fun l => (⟨l.toArray⟩ : ByteArray)) (ys.map fun l => (⟨l.toArray⟩ : ByteArray)) w (by simp) (by simp) hx hy
        (fun j hj => by
          rw [List.length_map] at hj
          obtain ⟨g, e, hc⟩ := hA j hj
          obtain rfl : g1 = g := by injection e with e; injection e
          rw [strs_get _ _ hj, Nat.zero_add]; exact hc)
        (fun j hj => by
          rw [List.length_map] at hj
          obtain ⟨g, e, hc⟩ := hB j hj
          obtain rfl : g2 = g := by injection e with e; injection e
          rw [strs_get _ _ hj, Nat.zero_add]; exact hc)
      refine h.mono fun e w' ⟨a, q, b⟩ => ⟨?_, q, b⟩
      rw [a, List.take_of_length_le (by simp), List.take_of_length_le (by simp)]
      congr 2
      rw [decide_eq_decide]; exact strs_inj xs ys
  · exact (Tryz.slices_Equal_string_lens A B xs.length ca ys.length cb w hl).mono fun e w' ⟨a, b⟩ => ⟨by rw [a, decide_eq_false (fun e => hl (by rw [e]))], 0, by rw [b]; rfl⟩
end Go.Proofs.YtmgndhdikleagaaGreatDoor
