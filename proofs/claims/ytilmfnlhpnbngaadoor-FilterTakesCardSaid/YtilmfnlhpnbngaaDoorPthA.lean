/- Contracts of the comparing of paths. -/
import Derived.Test.YtilmfnlhpnbngaaDoorPthM
import Derived.BigQuiet
import Derived.Deep.QuietTactic
import Derived.WalkLawsBesides
import Derived.IntWalk
set_option linter.unusedVariables false
set_option maxRecDepth 100000
namespace Go.Proofs.YtilmfnlhpnbngaaDoor
open Go.RowKit
open Go.OpenShut
theorem toList_nil {s : ByteArray} (h : s.data.toList = []) : s.toList = [] := by rw [ByteArray.toList_eq]; exact h
theorem toList_ne {s : ByteArray} (h : s.data.toList ≠ []) : s.toList.isEmpty = false := by
  rw [ByteArray.toList_eq, ← Bool.not_eq_true, List.isEmpty_iff]; exact h
theorem ext0L (s : ByteArray) (k : Nat) : (s.extract 0 k).data.toList = s.data.toList.take k := by
  rw [ByteArray.data_extract, Array.toList_extract]; simp [List.extract]
theorem str_eqL (a b : ByteArray) : (a.toList == b.toList) = decide (a.data.toList = b.data.toList) := by
  rw [ByteArray.toList_eq, ByteArray.toList_eq, Bool.eq_iff_iff, beq_iff_eq, decide_eq_true_eq]
theorem in_split (s d : ByteArray) (h : d.size < s.size) : d.data.toList ++ [47] <+: s.data.toList ↔ (s.data.toList.take d.size = d.data.toList ∧ s[d.size] = 47) :=
  pre_snoc d.data.toList s.data.toList 47 (by simpa using h)
theorem in_short (s d : ByteArray) (h : ¬ d.size < s.size) : ¬ (d.data.toList ++ [47] <+: s.data.toList) := pre_short _ _ _ (by simpa using h)
theorem byte_eq (b c : UInt8) : ((b.toNat : Int) == (c.toNat : Int)) = decide (b = c) := by
  rw [Bool.eq_iff_iff, beq_iff_eq, decide_eq_true_eq]
  exact ⟨fun e => UInt8.toNat_inj.1 (by omega), fun e => by rw [e]⟩
end Go.Proofs.YtilmfnlhpnbngaaDoor
