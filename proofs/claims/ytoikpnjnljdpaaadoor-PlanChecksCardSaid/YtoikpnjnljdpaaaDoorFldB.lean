/- Contracts of the reference's string fields. -/
import Derived.Test.YtoikpnjnljdpaaaDoorMth
import Derived.BigQuiet
import Derived.Deep.QuietTactic
import Derived.WalkSmall
import Derived.WalkLawsBesides
set_option linter.unusedVariables false
set_option maxRecDepth 100000
namespace Go.Proofs.YtoikpnjnljdpaaaDoor
open Go.RowKit
open Go.OpenShut
set_option maxHeartbeats 400000 in
theorem has_any (s : ByteArray) (c : Int) (b : UInt8) (w : World) (hs : s.size ≤ maxLen) (hc : (b.toNat : Int) = c) : Calls Tryd.prog 18 #[.string s, .int .u8 c] w fun e w' => e = .returned (.bool (hasB b s.data.toList)) ∧ w = w' := by
  subst hc
  have hb := u8_lt b
  unfold maxLen at hs
  go_enter Tryd.func18, Tryd.ntmps18
  go_wp2
  go_loop [5] (fun i => ∃ k : Nat, k ≤ s.size ∧ i = .int .i64 k ∧ k ≤ pos b s.data.toList) (fun i => s.size - (intOf i).toNat)
  case atStart => exact ⟨0, Nat.zero_le _, rfl, Nat.zero_le _⟩
  case round =>
    obtain ⟨k, hk, rfl, hz⟩ := hrel
    by_cases hlt : k < s.size
    · by_cases hc : s[k] = b
      · have hc' : ((s[k].toNat : Int) == (b.toNat : Int)) = true := by simp [hc]
        have hf := Lib.hid (show hasB b s.data.toList = true by rw [hasB_pos, pos_stop b _ k hz (by simpa using hlt) hc]; exact decide_eq_true (by simpa using hlt))
        clear hc
        go_wp2
        go_ret
        exact ⟨ret_bool hf.out.symm, rfl⟩
      · have hc' : ((s[k].toNat : Int) == (b.toNat : Int)) = false := by
          rw [beq_eq_false_iff_ne]
          intro h; exact hc (UInt8.toNat_inj.1 (by omega))
        have hf := pos_step b _ k hz (by simpa using hlt) hc
        clear hc
        go_wp2
        go_round
        case rel => exact ⟨k + 1, by omega, by go_num, hf⟩
        case measure => simp [intOf]; omega
    · obtain rfl : k = s.size := by omega
      have hf := Lib.hid (show hasB b s.data.toList = false by rw [hasB_pos]; exact decide_eq_false (by simp; omega))
      go_wp2
      go_ret
      exact ⟨ret_bool hf.out.symm, rfl⟩
end Go.Proofs.YtoikpnjnljdpaaaDoor
