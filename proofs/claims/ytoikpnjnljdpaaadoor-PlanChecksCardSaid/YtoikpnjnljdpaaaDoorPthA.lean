/- Contracts of the comparing of paths. -/
import Derived.Test.YtoikpnjnljdpaaaDoorMth
import Derived.BigQuiet
import Derived.Deep.QuietTactic
import Derived.WalkLawsBesides
import Derived.IntWalk
set_option linter.unusedVariables false
set_option maxRecDepth 100000
namespace Go.Proofs.YtoikpnjnljdpaaaDoor
open Go.RowKit
open Go.OpenShut
theorem toList_nil {s : ByteArray} (h : s.data.toList = []) : s.toList = [] := by rw [ByteArray.toList_eq]; exact h
theorem toList_ne {s : ByteArray} (h : s.data.toList ≠ []) : s.toList.isEmpty = false := by
  rw [ByteArray.toList_eq, ← Bool.not_eq_true, List.isEmpty_iff]; exact h
theorem ext0L (s : ByteArray) (k : Nat) : (s.extract 0 k).data.toList = s.data.toList.take k := by
  rw [ByteArray.data_extract, Array.toList_extract]; simp [List.extract]
theorem str_eqL (a b : ByteArray) : (a.toList == b.toList) = decide (a.data.toList = b.data.toList) := by
  rw [ByteArray.toList_eq, ByteArray.toList_eq, Bool.eq_iff_iff, beq_iff_eq, decide_eq_true_eq]
theorem in_split (s d : ByteArray) (h : d.size < s.size) : d.data.toList ++ [47] <+: s.data.toList ↔ (s.data.toList.take d.size = d.data.toList ∧ s[d.size] = 47) :=
  pre_snoc d.data.toList s.data.toList 47 (by simpa using h)
theorem in_short (s d : ByteArray) (h : ¬ d.size < s.size) : ¬ (d.data.toList ++ [47] <+: s.data.toList) := pre_short _ _ _ (by simpa using h)
theorem byte_eq (b c : UInt8) : ((b.toNat : Int) == (c.toNat : Int)) = decide (b = c) := by
  rw [Bool.eq_iff_iff, beq_iff_eq, decide_eq_true_eq]
  exact ⟨fun e => UInt8.toNat_inj.1 (by omega), fun e => by rw [e]⟩
theorem isNaN_any (x : Int) (w : World) : Calls Tryd.prog 46 #[.int .i64 x] w fun e w' => e = .returned (.bool false) ∧ w = w' := by
  go_enter Tryd.func46, Tryd.ntmps46
  go_wp2
  go_ret
  exact ⟨rfl, rfl⟩
theorem cCompare_any (x y : Int) (w : World) : Calls Tryd.prog 37 #[.int .i64 x, .int .i64 y] w fun e w' => e = .returned (.int .i64 (sgn x y)) ∧ w = w' := by
  by_cases h1 : x < y
  · have hs := Lib.hid (sgn_lt h1)
    go_enter Tryd.func37, Tryd.ntmps37
    go_wp2_with (go_at_call 46; refine (isNaN_any _ _).mono ?_; rintro e w' ⟨rfl, rfl⟩)
    go_ret
    exact ⟨ret_int hs.out.symm, rfl⟩
  · by_cases h2 : y < x
    · have hs := Lib.hid (sgn_gt h2)
      go_enter Tryd.func37, Tryd.ntmps37
      go_wp2_with (go_at_call 46; refine (isNaN_any _ _).mono ?_; rintro e w' ⟨rfl, rfl⟩)
      go_ret
      exact ⟨ret_int hs.out.symm, rfl⟩
    · have hs := Lib.hid (sgn_eq h1 h2)
      go_enter Tryd.func37, Tryd.ntmps37
      go_wp2_with (go_at_call 46; refine (isNaN_any _ _).mono ?_; rintro e w' ⟨rfl, rfl⟩)
      go_ret
      exact ⟨ret_int hs.out.symm, rfl⟩
theorem rank_any (b : UInt8) (w : World) : Calls Tryd.prog 38 #[.int .u8 (b.toNat : Int)] w fun e w' => e = .returned (.int .i64 (rk b)) ∧ w = w' := by
  have hb := u8_lt b
  by_cases h : b = 47
  · subst h
    go_enter Tryd.func38, Tryd.ntmps38
    go_wp2
    go_ret
    exact ⟨rfl, rfl⟩
  · have h' : ((b.toNat : Int) == 47) = false := by
      rw [beq_eq_false_iff_ne]; intro e; exact h (UInt8.toNat_inj.1 (show b.toNat = 47 by omega))
    have hr := Lib.hid (show rk b = (b.toNat : Int) from if_neg h)
    clear h
    go_enter Tryd.func38, Tryd.ntmps38
    go_wp2
    go_ret
    exact ⟨ret_int hr.out.symm, rfl⟩
theorem rank_quiet (b : UInt8) (w : World) (n : Nat) : Calls Tryd.prog 38 #[.int .u8 (b.toNat : Int)] (w.drewN n) fun e w'' => e = .returned (.int .i64 (rk b)) ∧ ∃ m, w'' = w.drewN m :=
  (rank_any b (w.drewN n)).mono fun _ _ ⟨a, b⟩ => ⟨a, n, b.symm⟩
set_option maxHeartbeats 400000 in
theorem Compare_any (a b : ByteArray) (w : World) (ha : a.size ≤ maxLen) (hb : b.size ≤ maxLen) : Calls Tryd.prog 19 #[.string a, .string b] w fun e w' => e = .returned (.int .i64 (pcmp a.data.toList b.data.toList)) ∧ ∃ n, w' = w.drewN n := by
  unfold maxLen at ha hb
  by_cases hm : a.size ≤ b.size
  all_goals
    go_enter Tryd.func19, Tryd.ntmps19
    go_wp2
    go_loopw [11] (fun i wr => ∃ k n : Nat, k ≤ a.size ∧ k ≤ b.size ∧ i = .int .i64 k ∧ Hid (a.data.toList.take k = b.data.toList.take k) ∧ Hid (wr = w.drewN n)) (fun i _ => a.size - (intOf i).toNat)
    case atStart => exact ⟨0, 0, Nat.zero_le _, Nat.zero_le _, rfl, rfl, rfl⟩
    case round =>
      obtain ⟨k, n, hk, hk', rfl, hz, hw⟩ := hrel
      by_cases hlt : k < a.size ∧ k < b.size
      · obtain ⟨h1, h2⟩ := hlt
        have hq := byte_eq a[k] b[k]
        by_cases hc : a[k] = b[k]
        · rw [decide_eq_true hc] at hq
          have hq' : ((a[k].toNat : Int) != (b[k].toNat : Int)) = false := by simp [bne, hq]
          have HN : Hid (a.data.toList.take (k + 1) = b.data.toList.take (k + 1)) := by
            unfold Hid; rw [take_snoc _ _ h1, take_snoc _ _ h2, hz.out, hc]
          clear hc hq
          go_wp2
          go_quiet (fail)
          go_wp2
          go_roundw
          case rel => exact ⟨k + 1, n + nq, by omega, by omega, by go_num, HN, by unfold Hid; rw [hw.out, World.drewN_drewN]⟩
          case measure => simp [intOf]; omega
        · rw [decide_eq_false hc] at hq
          have hq' : ((a[k].toNat : Int) != (b[k].toNat : Int)) = true := by simp [bne, hq]
          have HP := Lib.hid (pcmp_at a.data.toList b.data.toList k hz.out (by simpa using h1) (by simpa using h2) hc)
          clear hc hq
          go_wp2
          go_quiet (fail)
          obtain ⟨w1, hw1⟩ := hid_name (wr.drewN nq)
          rw [hw1.out]
          go_wp2
          go_quiet ((first | (go_at_call 38; exact Calls.quiet_of_same (flip_same (rank_any _ _))) | (go_at_call 37; exact Calls.quiet_of_same (flip_same (cCompare_any _ _ _)))))
          go_wp2
          go_ret
          exact ⟨ret_int HP.out.symm, _, by rw [← hw1.out, hw.out, World.drewN_drewN, World.drewN_drewN]⟩
      · have HP := Lib.hid (pcmp_end a.data.toList b.data.toList k hz.out (by simpa using hk) (by simpa using hk') (by simp; omega))
        go_wp2_with (go_at_call 37; refine (cCompare_any _ _ _).mono ?_; rintro e w' ⟨rfl, rfl⟩)
        go_ret
        exact ⟨ret_int (by rw [HP.out]; simp), _, hw.out⟩
end Go.Proofs.YtoikpnjnljdpaaaDoor
