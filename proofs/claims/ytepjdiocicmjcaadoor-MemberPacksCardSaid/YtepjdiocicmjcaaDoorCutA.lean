/- Contracts of the cutting of paths. -/
import Derived.Test.YtepjdiocicmjcaaDoorMth
import Derived.Test.YtepjdiocicmjcaaDoorFld
set_option linter.unusedVariables false
set_option maxRecDepth 100000
namespace Go.Proofs.YtepjdiocicmjcaaDoor
open Go.RowKit
open Go.OpenShut
theorem getD_is (s : ByteArray) (k : Nat) (h : k < s.size) : s.data.toList.getD k 0 = s[k] := getD_byte s k h 0
set_option maxHeartbeats 400000 in
theorem firstSlash_any (s : ByteArray) (w : World) (hs : s.size ≤ maxLen) (h1 : 100 < s.size) : Calls Tryd.prog 29 #[.string s] w fun e w' => e = .returned (.int .i64 (slashV s.data.toList)) ∧ w = w' := by
  unfold maxLen at hs
  have HL := Lib.hid (show s.data.toList.length = s.size by simp)
  rcases (show s.size ≤ 102 ∨ (¬ s.size ≤ 102 ∧ s.size < 157) ∨ (157 ≤ s.size ∧ ¬ s.size ≤ 102) by omega) with hm | ⟨hm, hm2⟩ | ⟨hm2, hm⟩
  all_goals
    skip
    all_goals
      go_enter Tryd.func29, Tryd.ntmps29
      go_wp2
      go_loop [3] (fun i => ∃ k : Nat, 1 ≤ k ∧ s.size ≤ k + 101 ∧ (k ≤ 156 ∨ k + 101 = s.size) ∧ (k + 1 ≤ s.size) ∧ i = .int .i64 k ∧ Hid (noFit s.data.toList k)) (fun i => s.size - (intOf i).toNat)
      case atStart =>
        refine ⟨if s.size ≤ 102 then 1 else s.size - 101, ?_, ?_, ?_, ?_, ?_, ?_⟩
        · split <;> omega
        · split <;> omega
        · split <;> omega
        · split <;> omega
        · first
            | (rw [if_pos hm]; first | rfl | (congr 1; omega))
            | (rw [if_neg hm]; congr 1; omega)
        · intro j hj
          refine fits_no ?_
          rw [HL.out]
          split at hj <;> omega
      case round =>
        obtain ⟨k, hk1, hk2, hk3, hk4, rfl, hz⟩ := hrel
        by_cases hlt : k ≤ 155 ∧ k + 2 ≤ s.size
        · obtain ⟨hA, hB⟩ := hlt
          have hk : k < s.size := by omega
          have hg := getD_is s k hk
          by_cases hc : s[k] = 47
          · have hc' : ((s[k].toNat : Int) == 47) = true := by rw [hc]; rfl
            have HF := Lib.hid (show slashV s.data.toList = (k : Int) by
              rw [slashV, cutAt_some hz.out (fits_mk (by rw [HL.out]; omega) (by rw [hg, hc]))])
            clear hc hg
            go_wp2
            go_ret
            exact ⟨ret_int HF.out.symm, rfl⟩
          · have hc' : ((s[k].toNat : Int) == 47) = false := by
              rw [beq_eq_false_iff_ne]; intro h; exact hc (UInt8.toNat_inj.1 (show s[k].toNat = 47 by omega))
            have HF : Hid (noFit s.data.toList (k + 1)) := noFit_succ hz.out (fits_ne (by rw [hg]; exact hc))
            clear hc hg
            go_wp2
            go_round
            case rel => exact ⟨k + 1, by omega, by omega, by omega, by omega, by go_num, HF⟩
            case measure => simp [intOf]; omega
        · have HF := Lib.hid (show slashV s.data.toList = -1 by
            rw [slashV, cutAt_none hz.out (by rw [HL.out]; omega)])
          by_cases hA : k ≤ 155
          · have hB : ¬ k + 2 ≤ s.size := fun h => hlt ⟨hA, h⟩
            clear hlt
            first
              | (exfalso; omega)
              | (go_wp2
                 go_ret
                 exact ⟨ret_int HF.out.symm, rfl⟩)
          · clear hlt
            first
              | (exfalso; omega)
              | (go_wp2
                 go_ret
                 exact ⟨ret_int HF.out.symm, rfl⟩)
set_option maxHeartbeats 400000 in
theorem rTwo_short (s : ByteArray) (w : World) (hs : s.size ≤ 100) : Calls Tryd.prog 20 #[.string s] w fun e w' => e = .returned (.tuple #[.string (bs (cutV s.data.toList).1), .string (bs (cutV s.data.toList).2.1), .int .i64 (cutV s.data.toList).2.2]) ∧ w = w' := by
  have HL := Lib.hid (show s.data.toList.length = s.size by simp)
  have hm : s.size ≤ maxLen := by unfold maxLen; omega
  by_cases h0 : s.data.toList = []
  · have HF := Lib.hid (cutV_form (.inl h0))
    have e0 : s.toList = [] := by rw [ByteArray.toList_eq]; exact h0
    clear h0
    go_enter Tryd.func20, Tryd.ntmps20
    go_wp2_with fail
    go_ret3
    exact ⟨by rw [HF.out]; rfl, rfl⟩
  · have e0 : s.toList.isEmpty = false := by rw [ByteArray.toList_eq, ← Bool.not_eq_true, List.isEmpty_iff]; exact h0
    cases hz : hasB 0 s.data.toList
    · have HF := Lib.hid (cutV_short h0 hz (by rw [HL.out]; exact hs))
      have HZ := Lib.hid hz
      clear h0 hz
      go_enter Tryd.func20, Tryd.ntmps20
      go_wp2_with fail
      refine (has_any s 0 0 _ hm rfl).mono ?_; rintro e w' ⟨rfl, rfl⟩
      rw [HZ.out]
      go_wp2_with fail
      go_ret3
      exact ⟨by rw [HF.out, bs_of]; rfl, rfl⟩
    · have HF := Lib.hid (cutV_form (.inr hz))
      have HZ := Lib.hid hz
      clear h0 hz
      go_enter Tryd.func20, Tryd.ntmps20
      go_wp2_with fail
      refine (has_any s 0 0 _ hm rfl).mono ?_; rintro e w' ⟨rfl, rfl⟩
      rw [HZ.out]
      go_wp2_with fail
      go_ret3
      exact ⟨by rw [HF.out]; rfl, rfl⟩
theorem extract_bs (s : ByteArray) (k : Nat) : s.extract 0 k = bs (s.data.toList.take k) ∧ s.extract (k + 1) s.size = bs (s.data.toList.drop (k + 1)) := by
  constructor
  · apply ByteArray.ext; apply Array.toList_inj.1
    rw [ByteArray.data_extract, Array.toList_extract, bs_list]; simp [List.extract]
  · apply ByteArray.ext; apply Array.toList_inj.1
    rw [ByteArray.data_extract, Array.toList_extract, bs_list]; simp [List.extract]
    rw [List.take_of_length_le (by simp)]
set_option maxHeartbeats 800000 in
theorem rTwo_long (s : ByteArray) (w : World) (hs : s.size ≤ maxLen) (h1 : 100 < s.size) : Calls Tryd.prog 20 #[.string s] w fun e w' => e = .returned (.tuple #[.string (bs (cutV s.data.toList).1), .string (bs (cutV s.data.toList).2.1), .int .i64 (cutV s.data.toList).2.2]) ∧ ∃ n, w' = w.drewN n := by
  have HL := Lib.hid (show s.data.toList.length = s.size by simp)
  have hm : s.size ≤ maxLen := hs
  unfold maxLen at hs
  have e0 : s.toList.isEmpty = false := by
    rw [ByteArray.toList_eq, ← Bool.not_eq_true, List.isEmpty_iff]; intro a
    have := HL.out; rw [a] at this; simp at this; omega
  cases hz : hasB 0 s.data.toList
  · have HZ := Lib.hid hz
    clear hz
    go_enter Tryd.func20, Tryd.ntmps20
    go_wp2_with fail
    refine (has_any s 0 0 _ hm rfl).mono ?_; rintro e w' ⟨rfl, rfl⟩
    rw [HZ.out]
    go_wp2_with fail
    go_loop [5] (fun i => ∃ k : Nat, 1 ≤ k ∧ k ≤ 156 ∧ k + 1 ≤ s.size ∧ i = .int .i64 k ∧ Hid (noFit s.data.toList k)) (fun i => s.size - (intOf i).toNat)
    case atStart => exact ⟨1, by omega, by omega, by omega, rfl, fun j hj => fits_no (by omega)⟩
    case round =>
      obtain ⟨k, hk1, hk2, hk4, rfl, hz⟩ := hrel
      by_cases hlt : k ≤ 155 ∧ k + 2 ≤ s.size
      · obtain ⟨hA, hB⟩ := hlt
        have hk : k < s.size := by omega
        have hg := getD_is s k hk
        by_cases hc : s[k] = 47
        · have hc' : ((s[k].toNat : Int) == 47) = true := by rw [hc]; rfl
          by_cases hd : s.size ≤ k + 101
          · have HC := cutAt_some hz.out (fits_mk (by rw [HL.out]; omega) (by rw [hg, hc]))
            have HF := Lib.hid (cutV_some HZ.out (by rw [HL.out]; exact h1) HC)
            have HE := Lib.hid (extract_bs s k)
            clear hc hg HC
            go_wp2_with fail
            go_region
            go_wp2_with fail
            go_ret3
            exact ⟨by rw [HF.out, HE.out.1, HE.out.2]; rfl, 1, rfl⟩
          · have HF : Hid (noFit s.data.toList (k + 1)) := noFit_succ hz.out (fits_no (by rw [HL.out]; omega))
            clear hc hg
            go_wp2_with fail
            go_round
            case rel => exact ⟨k + 1, by omega, by omega, by omega, by go_num, HF⟩
            case measure => simp [intOf]; omega
        · have hc' : ((s[k].toNat : Int) == 47) = false := by
            rw [beq_eq_false_iff_ne]; intro h; exact hc (UInt8.toNat_inj.1 (show s[k].toNat = 47 by omega))
          have HF : Hid (noFit s.data.toList (k + 1)) := noFit_succ hz.out (fits_ne (by rw [hg]; exact hc))
          clear hc hg
          go_wp2_with fail
          go_round
          case rel => exact ⟨k + 1, by omega, by omega, by omega, by go_num, HF⟩
          case measure => simp [intOf]; omega
      · have HF := Lib.hid (cutV_none HZ.out (by rw [HL.out]; exact h1) (cutAt_none hz.out (by rw [HL.out]; omega)))
        by_cases hB : k + 2 ≤ s.size
        · have hA : ¬ k ≤ 155 := fun h => hlt ⟨h, hB⟩
          clear hlt
          go_wp2_with fail
          go_ret3
          exact ⟨by rw [HF.out]; rfl, 0, rfl⟩
        · clear hlt
          go_wp2_with fail
          go_ret3
          exact ⟨by rw [HF.out]; rfl, 0, rfl⟩
  · have HF := Lib.hid (cutV_form (.inr hz))
    have HZ := Lib.hid hz
    clear hz
    go_enter Tryd.func20, Tryd.ntmps20
    go_wp2_with fail
    refine (has_any s 0 0 _ hm rfl).mono ?_; rintro e w' ⟨rfl, rfl⟩
    rw [HZ.out]
    go_wp2_with fail
    go_ret3
    exact ⟨by rw [HF.out]; rfl, 0, rfl⟩
theorem rTwo_any (s : ByteArray) (w : World) (hs : s.size ≤ maxLen) : Calls Tryd.prog 20 #[.string s] w fun e w' => e = .returned (.tuple #[.string (bs (cutV s.data.toList).1), .string (bs (cutV s.data.toList).2.1), .int .i64 (cutV s.data.toList).2.2]) ∧ ∃ n, w' = w.drewN n := by
  by_cases h : s.size ≤ 100
  · exact (rTwo_short s w h).mono fun _ _ ⟨a, b⟩ => ⟨a, 0, b.symm⟩
  · exact rTwo_long s w hs (by omega)
end Go.Proofs.YtepjdiocicmjcaaDoor
