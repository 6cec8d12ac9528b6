import Derived.Test.YtilmfnlhpnbngaaGreatDoorNum
import Derived.BigQuiet
import Derived.Deep.QuietTactic
set_option linter.unusedVariables false
namespace Go.Proofs.YtilmfnlhpnbngaaGreatDoor
open Go.RowKit
/-- begins the text s with p -/
def hasPre (s p : ByteArray) : Bool := decide (p.data.toList <+: s.data.toList)
theorem hasPre_iff (s p : ByteArray) : hasPre s p = true ↔ p.data.toList <+: s.data.toList := by simp [hasPre]
theorem extract_list (s : ByteArray) (a b : Nat) : (s.extract a b).data.toList = (s.data.toList.take b).drop a := by
  rw [ByteArray.data_extract, Array.toList_extract]; simp [List.extract, List.drop_take]
theorem pre_extract (s p : ByteArray) (_h : p.size ≤ s.size) : (s.extract 0 p.size = p) ↔ p.data.toList <+: s.data.toList := by
  constructor
  · intro e
    have := congrArg (fun b : ByteArray => b.data.toList) e
    simp only [extract_list, List.drop_zero] at this
    exact ⟨s.data.toList.drop p.size, by conv => lhs; rw [← this]
                                         exact List.take_append_drop _ _⟩
  · rintro ⟨t, ht⟩
    apply ByteArray.ext; apply Array.toList_inj.1
    rw [extract_list, List.drop_zero, ← ht]
    exact List.take_left' (by simp)
set_option maxHeartbeats 400000 in
theorem lHasPrefix_any (s p : ByteArray) (w : World) (hs : s.size ≤ maxLen) (hp : p.size ≤ maxLen) : Calls Tryz.prog 102 #[.string s, .string p] w fun e w' => e = .returned (.bool (hasPre s p)) ∧ w = w' := by
  unfold maxLen at hs hp
  by_cases h : p.size ≤ s.size
  · go_enter Tryz.func102, Tryz.ntmps102
    go_wp2
    go_ret
    exact ⟨ret_bool (by rw [str_eq, Bool.eq_iff_iff, hasPre_iff, decide_eq_true_eq]; exact pre_extract s p h), rfl⟩
  · have h4 : hasPre s p = false := by simp only [hasPre, decide_eq_false_iff_not]; exact fun h5 => h (by simpa using h5.length_le)
    have H4 := Lib.hid h4
    clear h4
    go_enter Tryz.func102, Tryz.ntmps102
    go_wp2
    go_ret
    exact ⟨ret_bool H4.out.symm, rfl⟩
theorem HasPrefix_any (s p : ByteArray) (w : World) (hs : s.size ≤ maxLen) (hp : p.size ≤ maxLen) : Calls Tryz.prog 63 #[.string s, .string p] w fun e w' => e = .returned (.bool (hasPre s p)) ∧ w = w' := by
  go_enter Tryz.func63, Tryz.ntmps63
  go_wp2_with fail
  refine (lHasPrefix_any s p _ hs hp).mono ?_; rintro e w' ⟨rfl, rfl⟩
  go_wp2_with fail
  go_ret
  exact ⟨rfl, rfl⟩
end Go.Proofs.YtilmfnlhpnbngaaGreatDoor
