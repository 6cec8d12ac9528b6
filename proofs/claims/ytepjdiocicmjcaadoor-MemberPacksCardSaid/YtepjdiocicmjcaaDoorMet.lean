/- Texts of one kind, in one file: Tim, MetA, MetO. -/
import Derived.Test.YtepjdiocicmjcaaDoorMth
import Derived.WalkSmall
import Derived.Test.YtepjdiocicmjcaaDoorFld
import Derived.Test.YtepjdiocicmjcaaDoorBlk
import Derived.Below
import Derived.Test.YtepjdiocicmjcaaDoorArg
/- Package stamp: what times are in range. -/
set_option linter.unusedVariables false
set_option maxRecDepth 100000
namespace Go.Proofs.YtepjdiocicmjcaaDoor
open Go.RowKit
open Go.OpenShut
set_option maxHeartbeats 400000 in
theorem tCheck_any (a b : Int) (w : World) : Calls Tryd.prog 25 #[.int .i64 a, .int .i64 b] w fun e w' => e = .returned (.int .i64 (if inT a b = true then 0 else 4)) ∧ w = w' := by
  by_cases h : -1099511627776 ≤ a ∧ a ≤ 1099511627776 ∧ 0 ≤ b ∧ b ≤ 999999999
  · rw [if_pos (inT_mk h)]
    obtain ⟨h1, h2, h3, h4⟩ := h
    go_enter Tryd.func25, Tryd.ntmps25
    go_wp2
    go_ret
    exact ⟨rfl, rfl⟩
  · rw [if_neg (by rw [inT_no h]; decide)]
    rcases (show a < -1099511627776 ∨ (¬ a < -1099511627776 ∧ 1099511627776 < a) ∨ (¬ a < -1099511627776 ∧ ¬ 1099511627776 < a ∧ b < 0) ∨ (¬ a < -1099511627776 ∧ ¬ 1099511627776 < a ∧ ¬ b < 0 ∧ 999999999 < b) by omega) with h1 | ⟨h1, h2⟩ | ⟨h1, h2, h3⟩ | ⟨h1, h2, h3, h4⟩
    all_goals
      clear h
      go_enter Tryd.func25, Tryd.ntmps25
      go_wp2
      go_ret
      exact ⟨rfl, rfl⟩
set_option maxHeartbeats 400000 in
theorem rFault_time (a b : Int) (w : World) : Calls Tryd.prog 36 #[.int .i64 a, .int .i64 b] w fun e w' => e = .returned (.int .i64 (if inT a b = true then 0 else 4)) ∧ w = w' := by
  by_cases h : -1099511627776 ≤ a ∧ a ≤ 1099511627776 ∧ 0 ≤ b ∧ b ≤ 999999999
  · rw [if_pos (inT_mk h)]
    obtain ⟨h1, h2, h3, h4⟩ := h
    go_enter Tryd.func36, Tryd.ntmps36
    go_wp2
    go_ret
    exact ⟨rfl, rfl⟩
  · rw [if_neg (by rw [inT_no h]; decide)]
    rcases (show a < -1099511627776 ∨ (¬ a < -1099511627776 ∧ 1099511627776 < a) ∨ (¬ a < -1099511627776 ∧ ¬ 1099511627776 < a ∧ b < 0) ∨ (¬ a < -1099511627776 ∧ ¬ 1099511627776 < a ∧ ¬ b < 0 ∧ 1000000000 ≤ b) by omega) with h1 | ⟨h1, h2⟩ | ⟨h1, h2, h3⟩ | ⟨h1, h2, h3, h4⟩
    all_goals
      clear h
      go_enter Tryd.func36, Tryd.ntmps36
      go_wp2
      go_ret
      exact ⟨rfl, rfl⟩
end Go.Proofs.YtepjdiocicmjcaaDoor
/- Package meta: what is told of a node is checked. -/
set_option linter.unusedVariables false
set_option maxRecDepth 100000
namespace Go.Proofs.YtepjdiocicmjcaaDoor
open Go.RowKit
open Go.OpenShut
set_option maxHeartbeats 400000 in
theorem isMode_any (n : Int) (w : World) : Calls Tryd.prog 39 #[.int .i64 n] w fun e w' => e = .returned (.bool (mdB n)) ∧ w = w' := by
  by_cases h0 : 0 ≤ n
  · by_cases h1 : n ≤ 4095
    · rw [mdB_yes ⟨h0, h1⟩]
      go_enter Tryd.func39, Tryd.ntmps39
      go_wp2
      go_ret
      exact ⟨rfl, rfl⟩
    · rw [mdB_no (by omega)]
      go_enter Tryd.func39, Tryd.ntmps39
      go_wp2
      go_ret
      exact ⟨rfl, rfl⟩
  · rw [mdB_no (by omega)]
    go_enter Tryd.func39, Tryd.ntmps39
    go_wp2
    go_ret
    exact ⟨rfl, rfl⟩
set_option maxHeartbeats 400000 in
theorem isID_any (n : Int) (w : World) : Calls Tryd.prog 40 #[.int .i64 n] w fun e w' => e = .returned (.bool (idB n)) ∧ w = w' := by
  by_cases h0 : 0 ≤ n
  · by_cases h1 : n ≤ 1125899906842624
    · rw [idB_yes ⟨h0, h1⟩]
      go_enter Tryd.func40, Tryd.ntmps40
      go_wp2
      go_ret
      exact ⟨rfl, rfl⟩
    · rw [idB_no (by omega)]
      go_enter Tryd.func40, Tryd.ntmps40
      go_wp2
      go_ret
      exact ⟨rfl, rfl⟩
  · rw [idB_no (by omega)]
    go_enter Tryd.func40, Tryd.ntmps40
    go_wp2
    go_ret
    exact ⟨rfl, rfl⟩
set_option maxHeartbeats 400000 in
theorem hasZero_any (s : ByteArray) (w : World) (hs : s.size ≤ maxLen) : Calls Tryd.prog 41 #[.string s] w fun e w' => e = .returned (.bool (hasB 0 s.data.toList)) ∧ w = w' := by
  have hl := pos_le 0 s.data.toList
  rw [show s.data.toList.length = s.size by simp] at hl
  unfold maxLen at hs
  cases hz : hasB 0 s.data.toList
  · have HI := Lib.hid (IndexByte_no s w hz)
    clear hz
    go_enter Tryd.func41, Tryd.ntmps41
    go_wp2_with fail
    refine HI.out.mono ?_; rintro e w' ⟨rfl, rfl⟩
    go_wp2_with fail
    go_ret
    exact ⟨rfl, rfl⟩
  · have HI := Lib.hid (IndexByte_yes s w hz)
    clear hz
    go_enter Tryd.func41, Tryd.ntmps41
    go_wp2_with fail
    refine HI.out.mono ?_; rintro e w' ⟨rfl, rfl⟩
    go_wp2_with fail
    go_ret
    exact ⟨rfl, rfl⟩
def metA (m : MetaV) : Array Value := #[.int .i64 m.mode, .int .i64 m.uid, .int .i64 m.gid, .string (bs m.user), .string (bs m.group), .int .i64 m.second, .int .i64 m.nano]
/-- texts are no longer than memory -/
def MetaV.sz (m : MetaV) : Prop := m.user.length ≤ 140737488351232 ∧ m.group.length ≤ 140737488351232
theorem mtCheck_any (a b : Int) (w : World) : Calls Tryd.prog 25 #[.int .i64 a, .int .i64 b] w fun e w' => e = .returned (.int .i64 (inE a b)) ∧ w = w' := tCheck_any a b w
set_option maxHeartbeats 1000000 in
theorem metCheck_any (m : MetaV) (hm : m.sz) (w : World) : Calls Tryd.prog 23 #[.agg (metA m)] w fun e w' => e = .returned (.int .i64 (metE m)) ∧ Below w.heap.size w w' := by
  obtain ⟨mode, uid, gid, user, group, sec, nano⟩ := m
  obtain ⟨z1, z2⟩ := hm
  simp only at z1 z2
  unfold metA
  simp only
  have s1 := bs_size user
  have s2 := bs_size group
  have i1 := fun W => isMode_any mode W
  have i2 := fun W => isID_any uid W
  have i3 := fun W => isID_any gid W
  have i4 := fun W => hasZero_any (bs user) W (by rw [s1]; unfold maxLen; omega)
  have i5 := fun W => hasZero_any (bs group) W (by rw [s2]; unfold maxLen; omega)
  have I6 := Lib.hid fun W => mtCheck_any sec nano W
  rw [bs_list] at i4 i5
  cases c1 : mdB mode
  · have HX := Lib.hid (metE_range (m := ⟨mode, uid, gid, user, group, sec, nano⟩) (by simp only [c1]; rfl))
    rw [HX.out]
    rw [c1] at i1
    have I1 := Lib.hid i1
    clear i1 i2 i3 i4 i5 c1 HX
    go_enter Tryd.func23, Tryd.ntmps23
    go_wp2_with fail
    refine (I1.out _).mono ?_; rintro e w' ⟨rfl, rfl⟩
    go_wp2_with fail
    go_ret
    exact ⟨rfl, (Below.refl _ _).alloc (Nat.le_refl _) _⟩
  rw [c1] at i1
  have I1 := Lib.hid i1
  cases c2 : idB uid
  · have HX := Lib.hid (metE_range (m := ⟨mode, uid, gid, user, group, sec, nano⟩) (by simp only [c1, c2]; rfl))
    rw [HX.out]
    rw [c2] at i2
    have I2 := Lib.hid i2
    clear i1 i2 i3 i4 i5 c1 c2 HX
    go_enter Tryd.func23, Tryd.ntmps23
    go_wp2_with fail
    refine (I1.out _).mono ?_; rintro e w' ⟨rfl, rfl⟩
    go_wp2_with fail
    refine (I2.out _).mono ?_; rintro e w' ⟨rfl, rfl⟩
    go_wp2_with fail
    go_ret
    exact ⟨rfl, (Below.refl _ _).alloc (Nat.le_refl _) _⟩
  rw [c2] at i2
  have I2 := Lib.hid i2
  cases c3 : idB gid
  · have HX := Lib.hid (metE_range (m := ⟨mode, uid, gid, user, group, sec, nano⟩) (by simp only [c1, c2, c3]; rfl))
    rw [HX.out]
    rw [c3] at i3
    have I3 := Lib.hid i3
    clear i1 i2 i3 i4 i5 c1 c2 c3 HX
    go_enter Tryd.func23, Tryd.ntmps23
    go_wp2_with fail
    refine (I1.out _).mono ?_; rintro e w' ⟨rfl, rfl⟩
    go_wp2_with fail
    refine (I2.out _).mono ?_; rintro e w' ⟨rfl, rfl⟩
    go_wp2_with fail
    refine (I3.out _).mono ?_; rintro e w' ⟨rfl, rfl⟩
    go_wp2_with fail
    go_ret
    exact ⟨rfl, (Below.refl _ _).alloc (Nat.le_refl _) _⟩
  rw [c3] at i3
  have I3 := Lib.hid i3
  have HR := Lib.hid (show (mdB mode && idB uid && idB gid) = true by simp only [c1, c2, c3]; rfl)
  clear i1 i2 i3 c1 c2 c3
  by_cases h1 : 60 < (bs user).size
  · have HX := Lib.hid (metE_size (m := ⟨mode, uid, gid, user, group, sec, nano⟩) HR.out (.inl (by rw [← s1]; exact h1)))
    rw [HX.out]
    clear i4 i5 HX HR s1 s2
    go_enter Tryd.func23, Tryd.ntmps23
    go_wp2_with fail
    refine (I1.out _).mono ?_; rintro e w' ⟨rfl, rfl⟩
    go_wp2_with fail
    refine (I2.out _).mono ?_; rintro e w' ⟨rfl, rfl⟩
    go_wp2_with fail
    refine (I3.out _).mono ?_; rintro e w' ⟨rfl, rfl⟩
    go_wp2_with fail
    go_ret
    exact ⟨rfl, (Below.refl _ _).alloc (Nat.le_refl _) _⟩
  by_cases h2 : 60 < (bs group).size
  · have HX := Lib.hid (metE_size (m := ⟨mode, uid, gid, user, group, sec, nano⟩) HR.out (.inr (by rw [← s2]; exact h2)))
    rw [HX.out]
    clear i4 i5 HX HR s1 s2
    go_enter Tryd.func23, Tryd.ntmps23
    go_wp2_with fail
    refine (I1.out _).mono ?_; rintro e w' ⟨rfl, rfl⟩
    go_wp2_with fail
    refine (I2.out _).mono ?_; rintro e w' ⟨rfl, rfl⟩
    go_wp2_with fail
    refine (I3.out _).mono ?_; rintro e w' ⟨rfl, rfl⟩
    go_wp2_with fail
    go_ret
    exact ⟨rfl, (Below.refl _ _).alloc (Nat.le_refl _) _⟩
  have HS := Lib.hid (show ¬ (60 < user.length ∨ 60 < group.length) by rw [← s1, ← s2]; omega)
  have g1 : (bs user).size ≤ 60 := by omega
  have g2 : (bs group).size ≤ 60 := by omega
  clear s1 s2 h1 h2 z1 z2
  cases c4 : hasB 0 user
  · cases c5 : hasB 0 group
    · have HX := Lib.hid (metE_time (m := ⟨mode, uid, gid, user, group, sec, nano⟩) HR.out HS.out (by simp only [c4, c5]; rfl))
      rw [HX.out]
      rw [c4] at i4
      rw [c5] at i5
      have I4 := Lib.hid i4
      have I5 := Lib.hid i5
      clear i4 i5 c4 c5 HX HR HS
      go_enter Tryd.func23, Tryd.ntmps23
      go_wp2_with fail
      refine (I1.out _).mono ?_; rintro e w' ⟨rfl, rfl⟩
      go_wp2_with fail
      refine (I2.out _).mono ?_; rintro e w' ⟨rfl, rfl⟩
      go_wp2_with fail
      refine (I3.out _).mono ?_; rintro e w' ⟨rfl, rfl⟩
      go_wp2_with fail
      refine (I4.out _).mono ?_; rintro e w' ⟨rfl, rfl⟩
      go_wp2_with fail
      refine (I5.out _).mono ?_; rintro e w' ⟨rfl, rfl⟩
      go_wp2_with fail
      refine (I6.out _).mono ?_; rintro e w' ⟨rfl, rfl⟩
      go_wp2_with fail
      go_ret
      exact ⟨rfl, (Below.refl _ _).alloc (Nat.le_refl _) _⟩
    · have HX := Lib.hid (metE_form (m := ⟨mode, uid, gid, user, group, sec, nano⟩) HR.out HS.out (by simp only [c4, c5]; rfl))
      rw [HX.out]
      rw [c4] at i4
      rw [c5] at i5
      have I4 := Lib.hid i4
      have I5 := Lib.hid i5
      clear i4 i5 c4 c5 HX HR HS
      go_enter Tryd.func23, Tryd.ntmps23
      go_wp2_with fail
      refine (I1.out _).mono ?_; rintro e w' ⟨rfl, rfl⟩
      go_wp2_with fail
      refine (I2.out _).mono ?_; rintro e w' ⟨rfl, rfl⟩
      go_wp2_with fail
      refine (I3.out _).mono ?_; rintro e w' ⟨rfl, rfl⟩
      go_wp2_with fail
      refine (I4.out _).mono ?_; rintro e w' ⟨rfl, rfl⟩
      go_wp2_with fail
      refine (I5.out _).mono ?_; rintro e w' ⟨rfl, rfl⟩
      go_wp2_with fail
      go_ret
      exact ⟨rfl, (Below.refl _ _).alloc (Nat.le_refl _) _⟩
  · have HX := Lib.hid (metE_form (m := ⟨mode, uid, gid, user, group, sec, nano⟩) HR.out HS.out (by simp only [c4]; rfl))
    rw [HX.out]
    rw [c4] at i4
    have I4 := Lib.hid i4
    clear i4 i5 c4 HX HR HS
    go_enter Tryd.func23, Tryd.ntmps23
    go_wp2_with fail
    refine (I1.out _).mono ?_; rintro e w' ⟨rfl, rfl⟩
    go_wp2_with fail
    refine (I2.out _).mono ?_; rintro e w' ⟨rfl, rfl⟩
    go_wp2_with fail
    refine (I3.out _).mono ?_; rintro e w' ⟨rfl, rfl⟩
    go_wp2_with fail
    refine (I4.out _).mono ?_; rintro e w' ⟨rfl, rfl⟩
    go_wp2_with fail
    go_ret
    exact ⟨rfl, (Below.refl _ _).alloc (Nat.le_refl _) _⟩
theorem mrTime_any (a b : Int) (w : World) : Calls Tryd.prog 36 #[.int .i64 a, .int .i64 b] w fun e w' => e = .returned (.int .i64 (inE a b)) ∧ w = w' := rFault_time a b w
set_option maxHeartbeats 1000000 in
theorem rMetaFault_any (m : MetaV) (hm : m.sz) (w : World) : Calls Tryd.prog 34 #[.agg (metA m)] w fun e w' => e = .returned (.int .i64 (metE m)) ∧ Below w.heap.size w w' := by
  obtain ⟨mode, uid, gid, user, group, sec, nano⟩ := m
  obtain ⟨z1, z2⟩ := hm
  simp only at z1 z2
  unfold metA
  simp only
  have s1 := bs_size user
  have s2 := bs_size group
  have i4 := fun W => has_any (bs user) 0 0 W (by rw [s1]; unfold maxLen; omega) rfl
  have i5 := fun W => has_any (bs group) 0 0 W (by rw [s2]; unfold maxLen; omega) rfl
  have I6 := Lib.hid fun W => mrTime_any sec nano W
  rw [bs_list] at i4 i5
  cases c0 : (mdB mode && idB uid && idB gid)
  · have HX := Lib.hid (metE_range (m := ⟨mode, uid, gid, user, group, sec, nano⟩) c0)
    rw [HX.out]
    have d : ¬ (0 ≤ mode ∧ mode ≤ 4095) ∨ ¬ (0 ≤ uid ∧ uid ≤ 1125899906842624) ∨ ¬ (0 ≤ gid ∧ gid ≤ 1125899906842624) := by
      rcases h1 : mdB mode with _ | _
      · exact .inl (mdB_off h1)
      · rcases h2 : idB uid with _ | _
        · exact .inr (.inl (idB_off h2))
        · refine .inr (.inr (idB_off ?_)); rw [h1, h2] at c0; simpa using c0
    clear i4 i5 c0 HX s1 s2
    rcases (show mode < 0 ∨ (¬ mode < 0 ∧ 4096 ≤ mode) ∨ (¬ mode < 0 ∧ ¬ 4096 ≤ mode ∧ uid < 0) ∨ (¬ mode < 0 ∧ ¬ 4096 ≤ mode ∧ ¬ uid < 0 ∧ 1125899906842624 < uid) ∨ (¬ mode < 0 ∧ ¬ 4096 ≤ mode ∧ ¬ uid < 0 ∧ ¬ 1125899906842624 < uid ∧ gid < 0) ∨ (¬ mode < 0 ∧ ¬ 4096 ≤ mode ∧ ¬ uid < 0 ∧ ¬ 1125899906842624 < uid ∧ ¬ gid < 0 ∧ 1125899906842624 < gid) by omega) with h1 | ⟨h1, h2⟩ | ⟨h1, h2, h3⟩ | ⟨h1, h2, h3, h4⟩ | ⟨h1, h2, h3, h4, h5⟩ | ⟨h1, h2, h3, h4, h5, h6⟩
    all_goals
      clear d
      go_enter Tryd.func34, Tryd.ntmps34
      go_wp2_with fail
      go_ret
      exact ⟨rfl, (Below.refl _ _).alloc (Nat.le_refl _) _⟩
  have HR := Lib.hid c0
  rw [Bool.and_eq_true, Bool.and_eq_true] at c0
  obtain ⟨k1, k2⟩ := mdB_of c0.1.1
  obtain ⟨k3, k4⟩ := idB_of c0.1.2
  obtain ⟨k5, k6⟩ := idB_of c0.2
  have j1 : ¬ mode < 0 := by omega
  have j2 : ¬ 4096 ≤ mode := by omega
  have j3 : ¬ uid < 0 := by omega
  have j4 : ¬ 1125899906842624 < uid := by omega
  have j5 : ¬ gid < 0 := by omega
  have j6 : ¬ 1125899906842624 < gid := by omega
  clear c0 k1 k2 k3 k4 k5 k6
  by_cases h1 : 60 < (bs user).size
  · have HX := Lib.hid (metE_size (m := ⟨mode, uid, gid, user, group, sec, nano⟩) HR.out (.inl (by rw [← s1]; exact h1)))
    rw [HX.out]
    clear i4 i5 HX HR s1 s2
    go_enter Tryd.func34, Tryd.ntmps34
    go_wp2_with fail
    go_ret
    exact ⟨rfl, (Below.refl _ _).alloc (Nat.le_refl _) _⟩
  by_cases h2 : 60 < (bs group).size
  · have HX := Lib.hid (metE_size (m := ⟨mode, uid, gid, user, group, sec, nano⟩) HR.out (.inr (by rw [← s2]; exact h2)))
    rw [HX.out]
    clear i4 i5 HX HR s1 s2
    go_enter Tryd.func34, Tryd.ntmps34
    go_wp2_with fail
    go_ret
    exact ⟨rfl, (Below.refl _ _).alloc (Nat.le_refl _) _⟩
  have HS := Lib.hid (show ¬ (60 < user.length ∨ 60 < group.length) by rw [← s1, ← s2]; omega)
  have g1 : (bs user).size ≤ 60 := by omega
  have g2 : (bs group).size ≤ 60 := by omega
  clear s1 s2 h1 h2 z1 z2
  cases c4 : hasB 0 user
  · cases c5 : hasB 0 group
    · have HX := Lib.hid (metE_time (m := ⟨mode, uid, gid, user, group, sec, nano⟩) HR.out HS.out (by simp only [c4, c5]; rfl))
      rw [HX.out]
      rw [c4] at i4
      rw [c5] at i5
      have I4 := Lib.hid i4
      have I5 := Lib.hid i5
      clear i4 i5 c4 c5 HX HR HS
      go_enter Tryd.func34, Tryd.ntmps34
      go_wp2_with fail
      refine (I4.out _).mono ?_; rintro e w' ⟨rfl, rfl⟩
      go_wp2_with fail
      refine (I5.out _).mono ?_; rintro e w' ⟨rfl, rfl⟩
      go_wp2_with fail
      refine (I6.out _).mono ?_; rintro e w' ⟨rfl, rfl⟩
      go_wp2_with fail
      go_ret
      exact ⟨rfl, (Below.refl _ _).alloc (Nat.le_refl _) _⟩
    · have HX := Lib.hid (metE_form (m := ⟨mode, uid, gid, user, group, sec, nano⟩) HR.out HS.out (by simp only [c4, c5]; rfl))
      rw [HX.out]
      rw [c4] at i4
      rw [c5] at i5
      have I4 := Lib.hid i4
      have I5 := Lib.hid i5
      clear i4 i5 c4 c5 HX HR HS
      go_enter Tryd.func34, Tryd.ntmps34
      go_wp2_with fail
      refine (I4.out _).mono ?_; rintro e w' ⟨rfl, rfl⟩
      go_wp2_with fail
      refine (I5.out _).mono ?_; rintro e w' ⟨rfl, rfl⟩
      go_wp2_with fail
      go_ret
      exact ⟨rfl, (Below.refl _ _).alloc (Nat.le_refl _) _⟩
  · have HX := Lib.hid (metE_form (m := ⟨mode, uid, gid, user, group, sec, nano⟩) HR.out HS.out (by simp only [c4]; rfl))
    rw [HX.out]
    rw [c4] at i4
    have I4 := Lib.hid i4
    clear i4 i5 c4 HX HR HS
    go_enter Tryd.func34, Tryd.ntmps34
    go_wp2_with fail
    refine (I4.out _).mono ?_; rintro e w' ⟨rfl, rfl⟩
    go_wp2_with fail
    go_ret
    exact ⟨rfl, (Below.refl _ _).alloc (Nat.le_refl _) _⟩
end Go.Proofs.YtepjdiocicmjcaaDoor
/- Arguments that are metadata. -/
set_option linter.unusedVariables false
set_option maxRecDepth 100000
namespace Go.Proofs.YtepjdiocicmjcaaDoor
open Go.RowKit
open Go.OpenShut
open Go.ChangeShapes Go.WideShapes Go.Deep
theorem array7 {α : Type} {cs : Array α} (h : cs.size = 7) : ∃ c0 c1 c2 c3 c4 c5 c6, cs = #[c0, c1, c2, c3, c4, c5, c6] := by
  obtain ⟨l⟩ := cs
  match l, h with
  | [c0, c1, c2, c3, c4, c5, c6], _ => exact ⟨c0, c1, c2, c3, c4, c5, c6, rfl⟩
section
variable {H : Type} {enc : TypeId × Value → H} {w : World} {base : Nat} {spare : Nat → Bool} {held : Bool}
def MetaV.wf (m : MetaV) : Prop := m.sz ∧
  (Lit.int .i64 m.mode).wf = true ∧ (Lit.int .i64 m.uid).wf = true ∧ (Lit.int .i64 m.gid).wf = true ∧ (Lit.int .i64 m.second).wf = true ∧ (Lit.int .i64 m.nano).wf = true
theorem meta_flds : ∃ f0 f1 f2 f3 f4 f5 f6 : Field, Tryd.prog.underlying 23 = some (.struct #[f0, f1, f2, f3, f4, f5, f6]) ∧
    (f0.type = 3 ∧ f1.type = 3 ∧ f2.type = 3 ∧ f3.type = 9 ∧ f4.type = 9 ∧ f5.type = 3 ∧ f6.type = 3) ∧ oneCellFields Tryd.prog #[f0, f1, f2, f3, f4, f5, f6] = true :=
  ⟨_, _, _, _, _, _, _, Tryd.underlying23, ⟨rfl, rfl, rfl, rfl, rfl, rfl, rfl⟩, by kernel_rfl⟩
theorem open_meta {r : Reach} {b0 : Nat} {v : Value} {d : DataW H} {p : List MemPlace} (hv : Value.okWide Tryd.prog w r b0 23 v) (h : DataW.Trod enc Tryd.prog w base spare held 23 v d p) (hwt : ∀ x ∈ d.weights Tryd.prog 23, x ≤ reachBytes) :
    ∃ a : MetaV, v = .agg (metA a) ∧ a.wf := by
  obtain ⟨f0, f1, f2, f3, f4, f5, f6, he, ⟨t0, t1, t2, t3, t4, t5, t6⟩, hone⟩ := meta_flds
  obtain ⟨cs, ys, n, rfl, hcs, hd, hyl, hf⟩ := open_aggN he hone (by kernel_rfl) hv h
  have hr4 : reachBytes = 140737488351232 := rfl
  obtain ⟨c0, c1, c2, c3, c4, c5, c6, rfl⟩ := array7 hcs
  obtain ⟨_, y0, e0, z0, h0⟩ := hf 0 f0 rfl
  obtain ⟨_, y1, e1, z1, h1⟩ := hf 1 f1 rfl
  obtain ⟨_, y2, e2, z2, h2⟩ := hf 2 f2 rfl
  obtain ⟨_, y3, e3, z3, h3⟩ := hf 3 f3 rfl
  obtain ⟨_, y4, e4, z4, h4⟩ := hf 4 f4 rfl
  obtain ⟨_, y5, e5, z5, h5⟩ := hf 5 f5 rfl
  obtain ⟨_, y6, e6, z6, h6⟩ := hf 6 f6 rfl
  cases e0; cases e1; cases e2; cases e3; cases e4; cases e5; cases e6
  rw [t0] at h0
  rw [t1] at h1
  rw [t2] at h2
  rw [t3] at h3
  rw [t4] at h4
  rw [t5] at h5
  rw [t6] at h6
  have W : ∀ (j : Nat) (f : Field) (y : DataW H × List MemPlace) (s : ByteArray), (#[f0, f1, f2, f3, f4, f5, f6] : Array Field)[j]? = some f → ys[j]? = some y → y.1 = .lit (.string s.data.toList) → s.data.toList.length ≤ 140737488351232 := by
    intro j f y s hj hy hx
    have hm : s.data.toList.length ∈ d.weights Tryd.prog 23 := by
      rw [hd]
      exact weights_fld he (j := j) (f := f) (d := y.1) hj (by rw [List.getElem?_map, hy]; rfl) _ (by rw [hx]; exact reach_str)
    have := hwt _ hm
    rw [hr4] at this; exact this
  obtain ⟨n0, q0, x0, w0⟩ := DataW.trod_int Tryd.underlying3 h0
  obtain ⟨n1, q1, x1, w1⟩ := DataW.trod_int Tryd.underlying3 h1
  obtain ⟨n2, q2, x2, w2⟩ := DataW.trod_int Tryd.underlying3 h2
  obtain ⟨s3, q3, x3, -⟩ := DataW.trod_string Tryd.underlying9 h3
  obtain ⟨s4, q4, x4, -⟩ := DataW.trod_string Tryd.underlying9 h4
  obtain ⟨n5, q5, x5, w5⟩ := DataW.trod_int Tryd.underlying3 h5
  obtain ⟨n6, q6, x6, w6⟩ := DataW.trod_int Tryd.underlying3 h6
  simp only [List.cons.injEq, and_true] at q0 q1 q2 q3 q4 q5 q6
  subst q0 q1 q2 q3 q4 q5 q6
  refine ⟨⟨n0, n1, n2, s3.data.toList, s4.data.toList, n5, n6⟩, ?_, ⟨W 3 f3 y3 s3 rfl z3 (by rw [x3]), W 4 f4 y4 s4 rfl z4 (by rw [x4])⟩, w0, w1, w2, w5, w6⟩
  unfold metA
  simp only [bs_of]
end
end Go.Proofs.YtepjdiocicmjcaaDoor
