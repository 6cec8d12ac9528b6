/- The walk of the law on package pax's reading. -/
import Derived.Test.YtepjdiocicmjcaaDoorPaxE
import Derived.Test.YtepjdiocicmjcaaDoorLaid
import Derived.BigQuiet
set_option linter.unusedVariables false
set_option maxRecDepth 100000
namespace Go.Proofs.YtepjdiocicmjcaaDoor
open Go.RowKit
open Go.OpenShut
set_option maxHeartbeats 1000000 in
/-- two lists of the same records are equal -/
theorem Equal_same (A B : Option Addr) (n c d : Nat) (l : List Rc) (hn : l.length = n) (hn2 : n ≤ 140737488355328) (w : World) (hA : RecsAt w A l) (hB : RecsAt w B l) :
    Calls Tryd.prog 21 #[.slice A n c, .slice B n d] w fun e w' => e = .returned (.bool true) ∧ Below w.heap.size w w' := by
  have HA := Lib.hid hA
  have HB := Lib.hid hB
  have HN := Lib.hid hn
  clear hA hB hn
  go_enter Tryd.func21, Tryd.ntmps21
  go_wp2_with fail
  go_loopw [13] (fun i wr => ∃ k : Nat, i = .int .i64 k ∧ k ≤ n ∧ Hid (Below w.heap.size w wr)) (fun i _ => n - (intOf i).toNat)
  case atStart => exact ⟨0, rfl, Nat.zero_le _, Below.refl _ _⟩
  case round =>
    obtain ⟨k, rfl, hk, HW⟩ := hrel
    by_cases hlt : k < n
    · obtain ⟨b, o, e, x0, x1⟩ := HA.out.below HW.out k (by rw [HN.out]; exact hlt)
      obtain ⟨b', o', e', y0, y1⟩ := HB.out.below HW.out k (by rw [HN.out]; exact hlt)
      subst e e'
      obtain ⟨K, HK⟩ := hid_name (bs (l[k]'(by rw [HN.out]; exact hlt)).1)
      obtain ⟨V, HV⟩ := hid_name (bs (l[k]'(by rw [HN.out]; exact hlt)).2)
      rw [HK.out] at x0 y0
      rw [HV.out] at x1 y1
      go_upto_region 6 with fail
      go_quiet (fail)
      go_wp2_with fail
      go_roundw
      case rel => exact ⟨k + 1, by go_num, by omega, below_drewN HW.out _⟩
      case measure => simp [intOf]; omega
    · obtain rfl : k = n := by omega
      go_wp2_with fail
      go_ret
      exact ⟨rfl, HW.out⟩
theorem same_same (A B : Option Addr) (n c d : Nat) (l : List Rc) (hn : l.length = n) (hn2 : n ≤ 140737488355328) (w : World) (hA : RecsAt w A l) (hB : RecsAt w B l) :
    Calls Tryd.prog 8 #[.slice A n c, .slice B n d] w fun e w' => e = .returned (.bool true) ∧ Below w.heap.size w w' := by
  have HE := Lib.hid (Equal_same A B n c d l hn hn2 w hA hB)
  clear hA hB
  go_enter Tryd.func8, Tryd.ntmps8
  go_wp2_with fail
  refine HE.out.mono ?_; rintro e w1 ⟨rfl, hb⟩
  have HB := Lib.hid hb
  clear hb
  go_wp2_with fail
  go_ret
  exact ⟨rfl, HB.out⟩
end Go.Proofs.YtepjdiocicmjcaaDoor
