/- Contracts of the reference's faults and splitting of paths. -/
import Derived.Test.YtoplcelimdkjeaaGreatDoorSplA
set_option linter.unusedVariables false
set_option maxRecDepth 100000
namespace Go.Proofs.YtoplcelimdkjeaaGreatDoor
open Go.RowKit
open Go.OpenShut
theorem nil_of_size {s : ByteArray} (h : s.size < 1) : s.data.toList = [] := by
  have h4 : s.data.toList.length = s.size := by simp
  exact List.eq_nil_of_length_eq_zero (by omega)
theorem ne_of_size {s : ByteArray} (h : 1 ≤ s.size) : s.data.toList ≠ [] := fun e => by
  have h4 : s.data.toList.length = s.size := by simp
  rw [e] at h4; simp at h4; omega
theorem ret_2str {a b a' b' : ByteArray} (h : a = a') (h' : b = b') : Ending.returned (.tuple #[.string a, .string b]) = .returned (.tuple #[.string a', .string b']) := by rw [h, h']
end Go.Proofs.YtoplcelimdkjeaaGreatDoor
