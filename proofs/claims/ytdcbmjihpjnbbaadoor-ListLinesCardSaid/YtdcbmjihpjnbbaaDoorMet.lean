/- Texts of one kind, in one file: Tim, MetA, MetO. -/
import Derived.Test.YtdcbmjihpjnbbaaDoorMth
import Derived.WalkSmall
import Derived.Test.YtdcbmjihpjnbbaaDoorFld
import Derived.Test.YtdcbmjihpjnbbaaDoorBlk
import Derived.Below
import Derived.Test.YtdcbmjihpjnbbaaDoorArg
/- Package stamp: what times are in range. -/
set_option linter.unusedVariables false
set_option maxRecDepth 100000
namespace Go.Proofs.YtdcbmjihpjnbbaaDoor
open Go.RowKit
open Go.OpenShut
set_option maxHeartbeats 400000 in
theorem tCheck_any (a b : Int) (w : World) : Calls Tryd.prog 73 #[.int .i64 a, .int .i64 b] w fun e w' => e = .returned (.int .i64 (if inT a b = true then 0 else 4)) ∧ w = w' := by
  by_cases h : -1099511627776 ≤ a ∧ a ≤ 1099511627776 ∧ 0 ≤ b ∧ b ≤ 999999999
  · rw [if_pos (inT_mk h)]
    obtain ⟨h1, h2, h3, h4⟩ := h
    go_enter Tryd.func73, Tryd.ntmps73
    go_wp2
    go_ret
    exact ⟨rfl, rfl⟩
  · rw [if_neg (by rw [inT_no h]; decide)]
    rcases (show a < -1099511627776 ∨ (¬ a < -1099511627776 ∧ 1099511627776 < a) ∨ (¬ a < -1099511627776 ∧ ¬ 1099511627776 < a ∧ b < 0) ∨ (¬ a < -1099511627776 ∧ ¬ 1099511627776 < a ∧ ¬ b < 0 ∧ 999999999 < b) by omega) with h1 | ⟨h1, h2⟩ | ⟨h1, h2, h3⟩ | ⟨h1, h2, h3, h4⟩
    all_goals
      clear h
      go_enter Tryd.func73, Tryd.ntmps73
      go_wp2
      go_ret
      exact ⟨rfl, rfl⟩
set_option maxHeartbeats 400000 in
theorem rFault_time (a b : Int) (w : World) : Calls Tryd.prog 81 #[.int .i64 a, .int .i64 b] w fun e w' => e = .returned (.int .i64 (if inT a b = true then 0 else 4)) ∧ w = w' := by
  by_cases h : -1099511627776 ≤ a ∧ a ≤ 1099511627776 ∧ 0 ≤ b ∧ b ≤ 999999999
  · rw [if_pos (inT_mk h)]
    obtain ⟨h1, h2, h3, h4⟩ := h
    go_enter Tryd.func81, Tryd.ntmps81
    go_wp2
    go_ret
    exact ⟨rfl, rfl⟩
  · rw [if_neg (by rw [inT_no h]; decide)]
    rcases (show a < -1099511627776 ∨ (¬ a < -1099511627776 ∧ 1099511627776 < a) ∨ (¬ a < -1099511627776 ∧ ¬ 1099511627776 < a ∧ b < 0) ∨ (¬ a < -1099511627776 ∧ ¬ 1099511627776 < a ∧ ¬ b < 0 ∧ 1000000000 ≤ b) by omega) with h1 | ⟨h1, h2⟩ | ⟨h1, h2, h3⟩ | ⟨h1, h2, h3, h4⟩
    all_goals
      clear h
      go_enter Tryd.func81, Tryd.ntmps81
      go_wp2
      go_ret
      exact ⟨rfl, rfl⟩
end Go.Proofs.YtdcbmjihpjnbbaaDoor
/- Package meta: what is told of a node is checked. -/
set_option linter.unusedVariables false
set_option maxRecDepth 100000
namespace Go.Proofs.YtdcbmjihpjnbbaaDoor
open Go.RowKit
open Go.OpenShut
set_option maxHeartbeats 400000 in
theorem isMode_any (n : Int) (w : World) : Calls Tryd.prog 42 #[.int .i64 n] w fun e w' => e = .returned (.bool (mdB n)) ∧ w = w' := by
  by_cases h0 : 0 ≤ n
  · by_cases h1 : n ≤ 4095
    · rw [mdB_yes ⟨h0, h1⟩]
      go_enter Tryd.func42, Tryd.ntmps42
      go_wp2
      go_ret
      exact ⟨rfl, rfl⟩
    · rw [mdB_no (by omega)]
      go_enter Tryd.func42, Tryd.ntmps42
      go_wp2
      go_ret
      exact ⟨rfl, rfl⟩
  · rw [mdB_no (by omega)]
    go_enter Tryd.func42, Tryd.ntmps42
    go_wp2
    go_ret
    exact ⟨rfl, rfl⟩
set_option maxHeartbeats 400000 in
theorem isID_any (n : Int) (w : World) : Calls Tryd.prog 71 #[.int .i64 n] w fun e w' => e = .returned (.bool (idB n)) ∧ w = w' := by
  by_cases h0 : 0 ≤ n
  · by_cases h1 : n ≤ 1125899906842624
    · rw [idB_yes ⟨h0, h1⟩]
      go_enter Tryd.func71, Tryd.ntmps71
      go_wp2
      go_ret
      exact ⟨rfl, rfl⟩
    · rw [idB_no (by omega)]
      go_enter Tryd.func71, Tryd.ntmps71
      go_wp2
      go_ret
      exact ⟨rfl, rfl⟩
  · rw [idB_no (by omega)]
    go_enter Tryd.func71, Tryd.ntmps71
    go_wp2
    go_ret
    exact ⟨rfl, rfl⟩
set_option maxHeartbeats 400000 in
theorem hasZero_any (s : ByteArray) (w : World) (hs : s.size ≤ maxLen) : Calls Tryd.prog 72 #[.string s] w fun e w' => e = .returned (.bool (hasB 0 s.data.toList)) ∧ w = w' := by
  have hl := pos_le 0 s.data.toList
  rw [show s.data.toList.length = s.size by simp] at hl
  unfold maxLen at hs
  cases hz : hasB 0 s.data.toList
  · have HI := Lib.hid (IndexByte_no s w hz)
    clear hz
    go_enter Tryd.func72, Tryd.ntmps72
    go_wp2_with fail
    refine HI.out.mono ?_; rintro e w' ⟨rfl, rfl⟩
    go_wp2_with fail
    go_ret
    exact ⟨rfl, rfl⟩
  · have HI := Lib.hid (IndexByte_yes s w hz)
    clear hz
    go_enter Tryd.func72, Tryd.ntmps72
    go_wp2_with fail
    refine HI.out.mono ?_; rintro e w' ⟨rfl, rfl⟩
    go_wp2_with fail
    go_ret
    exact ⟨rfl, rfl⟩
def metA (m : MetaV) : Array Value := #[.int .i64 m.mode, .int .i64 m.uid, .int .i64 m.gid, .string (bs m.user), .string (bs m.group), .int .i64 m.second, .int .i64 m.nano]
/-- texts are no longer than memory -/
def MetaV.sz (m : MetaV) : Prop := m.user.length ≤ 140737488351232 ∧ m.group.length ≤ 140737488351232
theorem mtCheck_any (a b : Int) (w : World) : Calls Tryd.prog 73 #[.int .i64 a, .int .i64 b] w fun e w' => e = .returned (.int .i64 (inE a b)) ∧ w = w' := tCheck_any a b w
set_option maxHeartbeats 1000000 in
theorem metCheck_any (m : MetaV) (hm : m.sz) (w : World) : Calls Tryd.prog 46 #[.agg (metA m)] w fun e w' => e = .returned (.int .i64 (metE m)) ∧ Below w.heap.size w w' := by
  obtain ⟨mode, uid, gid, user, group, sec, nano⟩ := m
  obtain ⟨z1, z2⟩ := hm
  simp only at z1 z2
  unfold metA
  simp only
  have s1 := bs_size user
  have s2 := bs_size group
  have i1 := fun W => isMode_any mode W
  have i2 := fun W => isID_any uid W
  have i3 := fun W => isID_any gid W
  have i4 := fun W => hasZero_any (bs user) W (by rw [s1]; unfold maxLen; omega)
  have i5 := fun W => hasZero_any (bs group) W (by rw [s2]; unfold maxLen; omega)
  have I6 := Lib.hid fun W => mtCheck_any sec nano W
  rw [bs_list] at i4 i5
  cases c1 : mdB mode
  · have HX := Lib.hid (metE_range (m := ⟨mode, uid, gid, user, group, sec, nano⟩) (by simp only [c1]; rfl))
    rw [HX.out]
    rw [c1] at i1
    have I1 := Lib.hid i1
    clear i1 i2 i3 i4 i5 c1 HX
    go_enter Tryd.func46, Tryd.ntmps46
    go_wp2_with fail
    refine (I1.out _).mono ?_; rintro e w' ⟨rfl, rfl⟩
    go_wp2_with fail
    go_ret
    exact ⟨rfl, (Below.refl _ _).alloc (Nat.le_refl _) _⟩
  rw [c1] at i1
  have I1 := Lib.hid i1
  cases c2 : idB uid
  · have HX := Lib.hid (metE_range (m := ⟨mode, uid, gid, user, group, sec, nano⟩) (by simp only [c1, c2]; rfl))
    rw [HX.out]
    rw [c2] at i2
    have I2 := Lib.hid i2
    clear i1 i2 i3 i4 i5 c1 c2 HX
    go_enter Tryd.func46, Tryd.ntmps46
    go_wp2_with fail
    refine (I1.out _).mono ?_; rintro e w' ⟨rfl, rfl⟩
    go_wp2_with fail
    refine (I2.out _).mono ?_; rintro e w' ⟨rfl, rfl⟩
    go_wp2_with fail
    go_ret
    exact ⟨rfl, (Below.refl _ _).alloc (Nat.le_refl _) _⟩
  rw [c2] at i2
  have I2 := Lib.hid i2
  cases c3 : idB gid
  · have HX := Lib.hid (metE_range (m := ⟨mode, uid, gid, user, group, sec, nano⟩) (by simp only [c1, c2, c3]; rfl))
    rw [HX.out]
    rw [c3] at i3
    have I3 := Lib.hid i3
    clear i1 i2 i3 i4 i5 c1 c2 c3 HX
    go_enter Tryd.func46, Tryd.ntmps46
    go_wp2_with fail
    refine (I1.out _).mono ?_; rintro e w' ⟨rfl, rfl⟩
    go_wp2_with fail
    refine (I2.out _).mono ?_; rintro e w' ⟨rfl, rfl⟩
    go_wp2_with fail
    refine (I3.out _).mono ?_; rintro e w' ⟨rfl, rfl⟩
    go_wp2_with fail
    go_ret
    exact ⟨rfl, (Below.refl _ _).alloc (Nat.le_refl _) _⟩
  rw [c3] at i3
  have I3 := Lib.hid i3
  have HR := Lib.hid (show (mdB mode && idB uid && idB gid) = true by simp only [c1, c2, c3]; rfl)
  clear i1 i2 i3 c1 c2 c3
  by_cases h1 : 60 < (bs user).size
  · have HX := Lib.hid (metE_size (m := ⟨mode, uid, gid, user, group, sec, nano⟩) HR.out (.inl (by rw [← s1]; exact h1)))
    rw [HX.out]
    clear i4 i5 HX HR s1 s2
    go_enter Tryd.func46, Tryd.ntmps46
    go_wp2_with fail
    refine (I1.out _).mono ?_; rintro e w' ⟨rfl, rfl⟩
    go_wp2_with fail
    refine (I2.out _).mono ?_; rintro e w' ⟨rfl, rfl⟩
    go_wp2_with fail
    refine (I3.out _).mono ?_; rintro e w' ⟨rfl, rfl⟩
    go_wp2_with fail
    go_ret
    exact ⟨rfl, (Below.refl _ _).alloc (Nat.le_refl _) _⟩
  by_cases h2 : 60 < (bs group).size
  · have HX := Lib.hid (metE_size (m := ⟨mode, uid, gid, user, group, sec, nano⟩) HR.out (.inr (by rw [← s2]; exact h2)))
    rw [HX.out]
    clear i4 i5 HX HR s1 s2
    go_enter Tryd.func46, Tryd.ntmps46
    go_wp2_with fail
    refine (I1.out _).mono ?_; rintro e w' ⟨rfl, rfl⟩
    go_wp2_with fail
    refine (I2.out _).mono ?_; rintro e w' ⟨rfl, rfl⟩
    go_wp2_with fail
    refine (I3.out _).mono ?_; rintro e w' ⟨rfl, rfl⟩
    go_wp2_with fail
    go_ret
    exact ⟨rfl, (Below.refl _ _).alloc (Nat.le_refl _) _⟩
  have HS := Lib.hid (show ¬ (60 < user.length ∨ 60 < group.length) by rw [← s1, ← s2]; omega)
  have g1 : (bs user).size ≤ 60 := by omega
  have g2 : (bs group).size ≤ 60 := by omega
  clear s1 s2 h1 h2 z1 z2
  cases c4 : hasB 0 user
  · cases c5 : hasB 0 group
    · have HX := Lib.hid (metE_time (m := ⟨mode, uid, gid, user, group, sec, nano⟩) HR.out HS.out (by simp only [c4, c5]; rfl))
      rw [HX.out]
      rw [c4] at i4
      rw [c5] at i5
      have I4 := Lib.hid i4
      have I5 := Lib.hid i5
      clear i4 i5 c4 c5 HX HR HS
      go_enter Tryd.func46, Tryd.ntmps46
      go_wp2_with fail
      refine (I1.out _).mono ?_; rintro e w' ⟨rfl, rfl⟩
      go_wp2_with fail
      refine (I2.out _).mono ?_; rintro e w' ⟨rfl, rfl⟩
      go_wp2_with fail
      refine (I3.out _).mono ?_; rintro e w' ⟨rfl, rfl⟩
      go_wp2_with fail
      refine (I4.out _).mono ?_; rintro e w' ⟨rfl, rfl⟩
      go_wp2_with fail
      refine (I5.out _).mono ?_; rintro e w' ⟨rfl, rfl⟩
      go_wp2_with fail
      refine (I6.out _).mono ?_; rintro e w' ⟨rfl, rfl⟩
      go_wp2_with fail
      go_ret
      exact ⟨rfl, (Below.refl _ _).alloc (Nat.le_refl _) _⟩
    · have HX := Lib.hid (metE_form (m := ⟨mode, uid, gid, user, group, sec, nano⟩) HR.out HS.out (by simp only [c4, c5]; rfl))
      rw [HX.out]
      rw [c4] at i4
      rw [c5] at i5
      have I4 := Lib.hid i4
      have I5 := Lib.hid i5
      clear i4 i5 c4 c5 HX HR HS
      go_enter Tryd.func46, Tryd.ntmps46
      go_wp2_with fail
      refine (I1.out _).mono ?_; rintro e w' ⟨rfl, rfl⟩
      go_wp2_with fail
      refine (I2.out _).mono ?_; rintro e w' ⟨rfl, rfl⟩
      go_wp2_with fail
      refine (I3.out _).mono ?_; rintro e w' ⟨rfl, rfl⟩
      go_wp2_with fail
      refine (I4.out _).mono ?_; rintro e w' ⟨rfl, rfl⟩
      go_wp2_with fail
      refine (I5.out _).mono ?_; rintro e w' ⟨rfl, rfl⟩
      go_wp2_with fail
      go_ret
      exact ⟨rfl, (Below.refl _ _).alloc (Nat.le_refl _) _⟩
  · have HX := Lib.hid (metE_form (m := ⟨mode, uid, gid, user, group, sec, nano⟩) HR.out HS.out (by simp only [c4]; rfl))
    rw [HX.out]
    rw [c4] at i4
    have I4 := Lib.hid i4
    clear i4 i5 c4 HX HR HS
    go_enter Tryd.func46, Tryd.ntmps46
    go_wp2_with fail
    refine (I1.out _).mono ?_; rintro e w' ⟨rfl, rfl⟩
    go_wp2_with fail
    refine (I2.out _).mono ?_; rintro e w' ⟨rfl, rfl⟩
    go_wp2_with fail
    refine (I3.out _).mono ?_; rintro e w' ⟨rfl, rfl⟩
    go_wp2_with fail
    refine (I4.out _).mono ?_; rintro e w' ⟨rfl, rfl⟩
    go_wp2_with fail
    go_ret
    exact ⟨rfl, (Below.refl _ _).alloc (Nat.le_refl _) _⟩
theorem mrTime_any (a b : Int) (w : World) : Calls Tryd.prog 81 #[.int .i64 a, .int .i64 b] w fun e w' => e = .returned (.int .i64 (inE a b)) ∧ w = w' := rFault_time a b w
set_option maxHeartbeats 1000000 in
theorem rMetaFault_any (m : MetaV) (hm : m.sz) (w : World) : Calls Tryd.prog 57 #[.agg (metA m)] w fun e w' => e = .returned (.int .i64 (metE m)) ∧ Below w.heap.size w w' := by
  obtain ⟨mode, uid, gid, user, group, sec, nano⟩ := m
  obtain ⟨z1, z2⟩ := hm
  simp only at z1 z2
  unfold metA
  simp only
  have s1 := bs_size user
  have s2 := bs_size group
  have i4 := fun W => has_any (bs user) 0 0 W (by rw [s1]; unfold maxLen; omega) rfl
  have i5 := fun W => has_any (bs group) 0 0 W (by rw [s2]; unfold maxLen; omega) rfl
  have I6 := Lib.hid fun W => mrTime_any sec nano W
  rw [bs_list] at i4 i5
  cases c0 : (mdB mode && idB uid && idB gid)
  · have HX := Lib.hid (metE_range (m := ⟨mode, uid, gid, user, group, sec, nano⟩) c0)
    rw [HX.out]
    have d : ¬ (0 ≤ mode ∧ mode ≤ 4095) ∨ ¬ (0 ≤ uid ∧ uid ≤ 1125899906842624) ∨ ¬ (0 ≤ gid ∧ gid ≤ 1125899906842624) := by
      rcases h1 : mdB mode with _ | _
      · exact .inl (mdB_off h1)
      · rcases h2 : idB uid with _ | _
        · exact .inr (.inl (idB_off h2))
        · refine .inr (.inr (idB_off ?_)); rw [h1, h2] at c0; simpa using c0
    clear i4 i5 c0 HX s1 s2
    rcases (show mode < 0 ∨ (¬ mode < 0 ∧ 4096 ≤ mode) ∨ (¬ mode < 0 ∧ ¬ 4096 ≤ mode ∧ uid < 0) ∨ (¬ mode < 0 ∧ ¬ 4096 ≤ mode ∧ ¬ uid < 0 ∧ 1125899906842624 < uid) ∨ (¬ mode < 0 ∧ ¬ 4096 ≤ mode ∧ ¬ uid < 0 ∧ ¬ 1125899906842624 < uid ∧ gid < 0) ∨ (¬ mode < 0 ∧ ¬ 4096 ≤ mode ∧ ¬ uid < 0 ∧ ¬ 1125899906842624 < uid ∧ ¬ gid < 0 ∧ 1125899906842624 < gid) by omega) with h1 | ⟨h1, h2⟩ | ⟨h1, h2, h3⟩ | ⟨h1, h2, h3, h4⟩ | ⟨h1, h2, h3, h4, h5⟩ | ⟨h1, h2, h3, h4, h5, h6⟩
    all_goals
      clear d
      go_enter Tryd.func57, Tryd.ntmps57
      go_wp2_with fail
      go_ret
      exact ⟨rfl, (Below.refl _ _).alloc (Nat.le_refl _) _⟩
  have HR := Lib.hid c0
  rw [Bool.and_eq_true, Bool.and_eq_true] at c0
  obtain ⟨k1, k2⟩ := mdB_of c0.1.1
  obtain ⟨k3, k4⟩ := idB_of c0.1.2
  obtain ⟨k5, k6⟩ := idB_of c0.2
  have j1 : ¬ mode < 0 := by omega
  have j2 : ¬ 4096 ≤ mode := by omega
  have j3 : ¬ uid < 0 := by omega
  have j4 : ¬ 1125899906842624 < uid := by omega
  have j5 : ¬ gid < 0 := by omega
  have j6 : ¬ 1125899906842624 < gid := by omega
  clear c0 k1 k2 k3 k4 k5 k6
  by_cases h1 : 60 < (bs user).size
  · have HX := Lib.hid (metE_size (m := ⟨mode, uid, gid, user, group, sec, nano⟩) HR.out (.inl (by rw [← s1]; exact h1)))
    rw [HX.out]
    clear i4 i5 HX HR s1 s2
    go_enter Tryd.func57, Tryd.ntmps57
    go_wp2_with fail
    go_ret
    exact ⟨rfl, (Below.refl _ _).alloc (Nat.le_refl _) _⟩
  by_cases h2 : 60 < (bs group).size
  · have HX := Lib.hid (metE_size (m := ⟨mode, uid, gid, user, group, sec, nano⟩) HR.out (.inr (by rw [← s2]; exact h2)))
    rw [HX.out]
    clear i4 i5 HX HR s1 s2
    go_enter Tryd.func57, Tryd.ntmps57
    go_wp2_with fail
    go_ret
    exact ⟨rfl, (Below.refl _ _).alloc (Nat.le_refl _) _⟩
  have HS := Lib.hid (show ¬ (60 < user.length ∨ 60 < group.length) by rw [← s1, ← s2]; omega)
  have g1 : (bs user).size ≤ 60 := by omega
  have g2 : (bs group).size ≤ 60 := by omega
  clear s1 s2 h1 h2 z1 z2
  cases c4 : hasB 0 user
  · cases c5 : hasB 0 group
    · have HX := Lib.hid (metE_time (m := ⟨mode, uid, gid, user, group, sec, nano⟩) HR.out HS.out (by simp only [c4, c5]; rfl))
      rw [HX.out]
      rw [c4] at i4
      rw [c5] at i5
      have I4 := Lib.hid i4
      have I5 := Lib.hid i5
      clear i4 i5 c4 c5 HX HR HS
      go_enter Tryd.func57, Tryd.ntmps57
      go_wp2_with fail
      refine (I4.out _).mono ?_; rintro e w' ⟨rfl, rfl⟩
      go_wp2_with fail
      refine (I5.out _).mono ?_; rintro e w' ⟨rfl, rfl⟩
      go_wp2_with fail
      refine (I6.out _).mono ?_; rintro e w' ⟨rfl, rfl⟩
      go_wp2_with fail
      go_ret
      exact ⟨rfl, (Below.refl _ _).alloc (Nat.le_refl _) _⟩
    · have HX := Lib.hid (metE_form (m := ⟨mode, uid, gid, user, group, sec, nano⟩) HR.out HS.out (by simp only [c4, c5]; rfl))
      rw [HX.out]
      rw [c4] at i4
      rw [c5] at i5
      have I4 := Lib.hid i4
      have I5 := Lib.hid i5
      clear i4 i5 c4 c5 HX HR HS
      go_enter Tryd.func57, Tryd.ntmps57
      go_wp2_with fail
      refine (I4.out _).mono ?_; rintro e w' ⟨rfl, rfl⟩
      go_wp2_with fail
      refine (I5.out _).mono ?_; rintro e w' ⟨rfl, rfl⟩
      go_wp2_with fail
      go_ret
      exact ⟨rfl, (Below.refl _ _).alloc (Nat.le_refl _) _⟩
  · have HX := Lib.hid (metE_form (m := ⟨mode, uid, gid, user, group, sec, nano⟩) HR.out HS.out (by simp only [c4]; rfl))
    rw [HX.out]
    rw [c4] at i4
    have I4 := Lib.hid i4
    clear i4 i5 c4 HX HR HS
    go_enter Tryd.func57, Tryd.ntmps57
    go_wp2_with fail
    refine (I4.out _).mono ?_; rintro e w' ⟨rfl, rfl⟩
    go_wp2_with fail
    go_ret
    exact ⟨rfl, (Below.refl _ _).alloc (Nat.le_refl _) _⟩
end Go.Proofs.YtdcbmjihpjnbbaaDoor
/- Arguments that are metadata. -/
set_option linter.unusedVariables false
set_option maxRecDepth 100000
namespace Go.Proofs.YtdcbmjihpjnbbaaDoor
open Go.RowKit
open Go.OpenShut
open Go.ChangeShapes Go.WideShapes Go.Deep
section
variable {H : Type} {enc : TypeId × Value → H} {w : World} {base : Nat} {spare : Nat → Bool} {held : Bool}
def MetaV.wf (m : MetaV) : Prop := m.sz ∧
  (Lit.int .i64 m.mode).wf = true ∧ (Lit.int .i64 m.uid).wf = true ∧ (Lit.int .i64 m.gid).wf = true ∧ (Lit.int .i64 m.second).wf = true ∧ (Lit.int .i64 m.nano).wf = true
theorem meta_flds : ∃ f0 f1 f2 f3 f4 f5 f6 : Field, Tryd.prog.underlying 27 = some (.struct #[f0, f1, f2, f3, f4, f5, f6]) ∧
    (f0.type = 3 ∧ f1.type = 3 ∧ f2.type = 3 ∧ f3.type = 9 ∧ f4.type = 9 ∧ f5.type = 3 ∧ f6.type = 3) ∧ oneCellFields Tryd.prog #[f0, f1, f2, f3, f4, f5, f6] = true :=
  ⟨_, _, _, _, _, _, _, Tryd.underlying27, ⟨rfl, rfl, rfl, rfl, rfl, rfl, rfl⟩, by kernel_rfl⟩
end
end Go.Proofs.YtdcbmjihpjnbbaaDoor
