/- The reference's reading of a string field. -/
import Derived.Test.YtjklgadigcobcaaFldB
import Derived.IntWalk
set_option linter.unusedVariables false
namespace Go.Proofs.Ytjklgadigcobcaa
open Go.RowKit
open Go.OpenShut
theorem frOf_range (s : ByteArray) (wh : Bool) (w : World) (hs : s.size ≤ maxLen) (h : s.size < 1 ∨ 512 < s.size) : Calls Try.prog 27 #[.string s, .bool wh] w fun e w' => e = .returned (.tuple #[.string ⟨#[]⟩, .int .i64 4]) ∧ Below w.heap.size w w' := by
  unfold maxLen at hs
  rcases h with h | h
  · have hs0 : s.toList = [] := by
      have : s.data.toList.length = s.size := by simp
      rw [ByteArray.toList_eq]; exact List.eq_nil_of_length_eq_zero (by omega)
    go_enter Try.func27, Try.ntmps27
    go_wp2_with fail
    go_ret2
    exact ⟨rfl, Below.refl _ _⟩
  · have hs0 : s.toList.isEmpty = false := by
      rw [ByteArray.toList_eq, ← Bool.not_eq_true, List.isEmpty_iff]; intro e
      have : s.data.toList.length = s.size := by simp
      rw [e] at this; simp at this; omega
    go_enter Try.func27, Try.ntmps27
    go_wp2_with fail
    go_ret2
    exact ⟨rfl, Below.refl _ _⟩
theorem take_extract (s : ByteArray) (k : Nat) : s.extract 0 k = ⟨(s.data.toList.take k).toArray⟩ := by
  apply ByteArray.ext; apply Array.toList_inj.1
  rw [ByteArray.data_extract, Array.toList_extract]; simp [List.extract]
theorem cmp_zeros (s : ByteArray) (k : Nat) (h : k ≤ s.size) : ((s.extract k s.size).toList == (zer (s.size - k)).toList) = allZ (s.data.toList.drop k) := by
  rw [str_eq, allZ_rep, decide_eq_decide]
  have hl : (s.data.toList.drop k).length = s.size - k := by simp
  rw [hl]
  have he : (s.extract k s.size).data.toList = s.data.toList.drop k := by
    rw [ByteArray.data_extract, Array.toList_extract]; simp [List.extract]
    rw [List.take_of_length_le (by simp)]
  constructor
  · intro e; rw [← he, e]; rfl
  · intro e; apply ByteArray.ext; apply Array.toList_inj.1; rw [he, e]; rfl
set_option maxHeartbeats 800000 in
theorem frOf_in (s : ByteArray) (wh : Bool) (w : World) (h1 : 1 ≤ s.size) (h2 : s.size ≤ 512) : Calls Try.prog 27 #[.string s, .bool wh] w fun e w' => e = .returned (.tuple #[.string (fldR s.data.toList wh).1, .int .i64 (fldR s.data.toList wh).2]) ∧ Below w.heap.size w w' := by
  have hs0 : s.toList.isEmpty = false := by
    rw [ByteArray.toList_eq, ← Bool.not_eq_true, List.isEmpty_iff]; intro e
    have : s.data.toList.length = s.size := by simp
    rw [e] at this; simp at this; omega
  have hl : s.data.toList.length = s.size := by simp
  have HL := Lib.hid hl
  clear hl
  go_enter Try.func27, Try.ntmps27
  go_wp2
  clear hs0
  go_loop [6] (fun i => ∃ k : Nat, k ≤ s.size ∧ i = .int .i64 k ∧ k ≤ pos 0 s.data.toList) (fun i => s.size - (intOf i).toNat)
  case atStart => exact ⟨0, Nat.zero_le _, rfl, Nat.zero_le _⟩
  case round =>
    obtain ⟨k, hk, rfl, hz⟩ := hrel
    by_cases hlt : k < s.size
    · by_cases hc : s[k] = 0
      · have hp := Lib.hid (pos_stop 0 _ k hz (by simpa using hlt) hc)
        have hc' : ((s[k].toNat : Int) != 0) = false := by simp [hc]
        have hcz := cmp_zeros s k hk
        have hne : ((k : Int) == (s.size : Int)) = false := by rw [beq_eq_false_iff_ne]; omega
        have s1 : IntKind.i64.wrap ((s.size : Int) - k) = (s.size : Int) - k := IntWalk.i64_in _ (by omega)
        clear hc hz
        cases hA : allZ (s.data.toList.drop k)
        all_goals
          rw [hA] at hcz
          have HA := Lib.hid hA
          clear hA
          go_wp2
          go_quiet ((go_at_call 23; exact Calls.quiet_of_same (flip_same (zeros_any _ (s.size - k) _ (by omega) (by omega)))))
          go_wp2
          go_ret2
          first
            | exact ⟨ret_strint2 (by rw [fldR_form (by rw [HL.out]; omega) (.inr (by rw [hp.out]; exact HA.out))]) (by rw [fldR_form (by rw [HL.out]; omega) (.inr (by rw [hp.out]; exact HA.out))]), below_drewN (Below.refl _ _) _⟩
            | exact ⟨ret_strint2 (by rw [fldR_ok (by rw [HL.out]; omega) (by rw [hp.out, HL.out]; omega) (by rw [hp.out]; exact HA.out), hp.out]; exact take_extract s k) (by rw [fldR_ok (by rw [HL.out]; omega) (by rw [hp.out, HL.out]; omega) (by rw [hp.out]; exact HA.out)]), below_drewN (Below.refl _ _) _⟩
      · have hf := pos_step 0 _ k hz (by simpa using hlt) hc
        have hc' : ((s[k].toNat : Int) != 0) = true := by
          simp only [bne_iff_ne, ne_eq]
          intro h; exact hc (UInt8.toNat_inj.1 (by simpa using h))
        clear hc
        go_wp2
        go_round
        case rel => exact ⟨k + 1, by omega, by go_num, hf⟩
        case measure => simp [intOf]; omega
    · obtain rfl : k = s.size := by omega
      have hp := Lib.hid (show pos 0 s.data.toList = s.size from Nat.le_antisymm (by have := pos_le 0 s.data.toList; rwa [HL.out] at this) hz)
      have s1 : IntKind.i64.wrap ((s.size : Int) - s.size) = 0 := by rw [Int.sub_self]; rfl
      have hz0 : (zer 0).toList = [] := by rw [ByteArray.toList_eq]; rfl
      clear hz
      cases wh
      all_goals
        go_wp2
        go_quiet ((go_at_call 23; exact Calls.quiet_of_same (flip_same (zeros_any _ (s.size - s.size) _ (by omega) (by omega)))))
        go_wp2
        go_ret2
        first
          | exact ⟨ret_strint2 (by rw [fldR_form (by rw [HL.out]; omega) (.inl ⟨rfl, by rw [hp.out, HL.out]⟩)]) (by rw [fldR_form (by rw [HL.out]; omega) (.inl ⟨rfl, by rw [hp.out, HL.out]⟩)]), below_drewN (Below.refl _ _) _⟩
          | exact ⟨ret_strint2 (by rw [fldR_ok (by rw [HL.out]; omega) (by simp) (by rw [hp.out, List.drop_of_length_le (by rw [HL.out]; exact Nat.le_refl _)]; rfl), hp.out, List.take_of_length_le (by rw [HL.out]; exact Nat.le_refl _)]) (by rw [fldR_ok (by rw [HL.out]; omega) (by simp) (by rw [hp.out, List.drop_of_length_le (by rw [HL.out]; exact Nat.le_refl _)]; rfl)]), below_drewN (Below.refl _ _) _⟩
theorem frOf_any (s : ByteArray) (wh : Bool) (w : World) (hs : s.size ≤ maxLen) : Calls Try.prog 27 #[.string s, .bool wh] w fun e w' => e = .returned (.tuple #[.string (fldR s.data.toList wh).1, .int .i64 (fldR s.data.toList wh).2]) ∧ Below w.heap.size w w' := by
  have hl : s.data.toList.length = s.size := by simp
  by_cases h : s.size < 1 ∨ 512 < s.size
  · rw [fldR_range (by rw [hl]; exact h)]; exact frOf_range s wh w hs h
  · exact frOf_in s wh w (by omega) (by omega)
end Go.Proofs.Ytjklgadigcobcaa
