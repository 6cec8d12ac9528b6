import Derived.Test.YtjklgadigcobcaaDoorNum
import Derived.BigQuiet
import Derived.Deep.QuietTactic
set_option linter.unusedVariables false
namespace Go.Proofs.YtjklgadigcobcaaDoor
open Go.RowKit
/-- begins the text s with p -/
def hasPre (s p : ByteArray) : Bool := decide (p.data.toList <+: s.data.toList)
theorem hasPre_iff (s p : ByteArray) : hasPre s p = true ↔ p.data.toList <+: s.data.toList := by simp [hasPre]
theorem extract_list (s : ByteArray) (a b : Nat) : (s.extract a b).data.toList = (s.data.toList.take b).drop a := by
  rw [ByteArray.data_extract, Array.toList_extract]; simp [List.extract, List.drop_take]
theorem pre_extract (s p : ByteArray) (_h : p.size ≤ s.size) : (s.extract 0 p.size = p) ↔ p.data.toList <+: s.data.toList := by
  constructor
  · intro e
    have := congrArg (fun b : ByteArray => b.data.toList) e
    simp only [extract_list, List.drop_zero] at this
    exact ⟨s.data.toList.drop p.size, by conv => lhs; rw [← this]
                                         exact List.take_append_drop _ _⟩
  · rintro ⟨t, ht⟩
    apply ByteArray.ext; apply Array.toList_inj.1
    rw [extract_list, List.drop_zero, ← ht]
    exact List.take_left' (by simp)
end Go.Proofs.YtjklgadigcobcaaDoor
