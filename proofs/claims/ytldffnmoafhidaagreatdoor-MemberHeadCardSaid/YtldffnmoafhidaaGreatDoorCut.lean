/- Texts of one kind, in one file: CutA, CutB. -/
import Derived.Test.YtldffnmoafhidaaGreatDoorMth
import Derived.Test.YtldffnmoafhidaaGreatDoorFld
import Derived.Test.YtldffnmoafhidaaGreatDoorPth
import Derived.Deep.RegionWith
import Derived.IntWalk
/- Contracts of the cutting of paths. -/
set_option linter.unusedVariables false
set_option maxRecDepth 100000
namespace Go.Proofs.YtldffnmoafhidaaGreatDoor
open Go.RowKit
open Go.OpenShut
theorem getD_is (s : ByteArray) (k : Nat) (h : k < s.size) : s.data.toList.getD k 0 = s[k] := getD_byte s k h 0
set_option maxHeartbeats 400000 in
theorem firstSlash_any (s : ByteArray) (w : World) (hs : s.size ≤ maxLen) (h1 : 100 < s.size) : Calls Tryz.prog 100 #[.string s] w fun e w' => e = .returned (.int .i64 (slashV s.data.toList)) ∧ w = w' := by
  unfold maxLen at hs
  have HL := Lib.hid (show s.data.toList.length = s.size by simp)
  rcases (show s.size ≤ 102 ∨ (¬ s.size ≤ 102 ∧ s.size < 157) ∨ (157 ≤ s.size ∧ ¬ s.size ≤ 102) by omega) with hm | ⟨hm, hm2⟩ | ⟨hm2, hm⟩
  all_goals
    skip
    all_goals
      go_enter Tryz.func100, Tryz.ntmps100
      go_wp2
      go_loop [3] (fun i => ∃ k : Nat, 1 ≤ k ∧ s.size ≤ k + 101 ∧ (k ≤ 156 ∨ k + 101 = s.size) ∧ (k + 1 ≤ s.size) ∧ i = .int .i64 k ∧ Hid (noFit s.data.toList k)) (fun i => s.size - (intOf i).toNat)
      case atStart =>
        refine ⟨if s.size ≤ 102 then 1 else s.size - 101, ?_, ?_, ?_, ?_, ?_, ?_⟩
        · split <;> omega
        · split <;> omega
        · split <;> omega
        · split <;> omega
        · first
            | (rw [if_pos hm]; first | rfl | (congr 1; omega))
            | (rw [if_neg hm]; congr 1; omega)
        · intro j hj
          refine fits_no ?_
          rw [HL.out]
          split at hj <;> omega
      case round =>
        obtain ⟨k, hk1, hk2, hk3, hk4, rfl, hz⟩ := hrel
        by_cases hlt : k ≤ 155 ∧ k + 2 ≤ s.size
        · obtain ⟨hA, hB⟩ := hlt
          have hk : k < s.size := by omega
          have hg := getD_is s k hk
          by_cases hc : s[k] = 47
          · have hc' : ((s[k].toNat : Int) == 47) = true := by rw [hc]; rfl
            have HF := Lib.hid (show slashV s.data.toList = (k : Int) by
              rw [slashV, cutAt_some hz.out (fits_mk (by rw [HL.out]; omega) (by rw [hg, hc]))])
            clear hc hg
            go_wp2
            go_ret
            exact ⟨ret_int HF.out.symm, rfl⟩
          · have hc' : ((s[k].toNat : Int) == 47) = false := by
              rw [beq_eq_false_iff_ne]; intro h; exact hc (UInt8.toNat_inj.1 (show s[k].toNat = 47 by omega))
            have HF : Hid (noFit s.data.toList (k + 1)) := noFit_succ hz.out (fits_ne (by rw [hg]; exact hc))
            clear hc hg
            go_wp2
            go_round
            case rel => exact ⟨k + 1, by omega, by omega, by omega, by omega, by go_num, HF⟩
            case measure => simp [intOf]; omega
        · have HF := Lib.hid (show slashV s.data.toList = -1 by
            rw [slashV, cutAt_none hz.out (by rw [HL.out]; omega)])
          by_cases hA : k ≤ 155
          · have hB : ¬ k + 2 ≤ s.size := fun h => hlt ⟨hA, h⟩
            clear hlt
            first
              | (exfalso; omega)
              | (go_wp2
                 go_ret
                 exact ⟨ret_int HF.out.symm, rfl⟩)
          · clear hlt
            first
              | (exfalso; omega)
              | (go_wp2
                 go_ret
                 exact ⟨ret_int HF.out.symm, rfl⟩)
theorem extract_bs (s : ByteArray) (k : Nat) : s.extract 0 k = bs (s.data.toList.take k) ∧ s.extract (k + 1) s.size = bs (s.data.toList.drop (k + 1)) := by
  constructor
  · apply ByteArray.ext; apply Array.toList_inj.1
    rw [ByteArray.data_extract, Array.toList_extract, bs_list]; simp [List.extract]
  · apply ByteArray.ext; apply Array.toList_inj.1
    rw [ByteArray.data_extract, Array.toList_extract, bs_list]; simp [List.extract]
    rw [List.take_of_length_le (by simp)]
end Go.Proofs.YtldffnmoafhidaaGreatDoor
/- Contracts of package cut. -/
set_option linter.unusedVariables false
set_option maxRecDepth 100000
namespace Go.Proofs.YtldffnmoafhidaaGreatDoor
open Go.RowKit
open Go.OpenShut
set_option maxHeartbeats 1600000 in
theorem Two_short (s : ByteArray) (w : World) (hs : s.size ≤ maxLen) (hs' : s.size ≤ 281474976710656) (hx : s.size ≤ 100 ∨ hasB 0 s.data.toList = true) : Calls Tryz.prog 45 #[.string s] w fun e w' => e = .returned (.tuple #[.string (bs (cutV s.data.toList).1), .string (bs (cutV s.data.toList).2.1), .int .i64 (cutV s.data.toList).2.2]) ∧ Below w.heap.size w w' := by
  have HL := Lib.hid (show s.data.toList.length = s.size by simp)
  have hm : s.size ≤ maxLen := hs
  unfold maxLen at hs
  by_cases h0 : s.data.toList = []
  · have HF := Lib.hid (cutV_form (.inl h0))
    have e0 : s.toList = [] := by rw [ByteArray.toList_eq]; exact h0
    clear h0
    go_enter Tryz.func45, Tryz.ntmps45
    go_wp2_with fail
    go_ret3
    exact ⟨by rw [HF.out]; rfl, Below.refl _ _⟩
  · have e0 : s.toList.isEmpty = false := by rw [ByteArray.toList_eq, ← Bool.not_eq_true, List.isEmpty_iff]; exact h0
    cases hz : hasB 0 s.data.toList
    · have h1 : s.size ≤ 100 := by
        rcases hx with h | h
        · exact h
        · rw [hz] at h; cases h
      have HF := Lib.hid (cutV_short h0 hz (by rw [HL.out]; exact h1))
      have HZ := Lib.hid hz
      clear h0 hz hx
      go_enter Tryz.func45, Tryz.ntmps45
      go_wp2_with fail
      refine (IndexByte_no s _ HZ.out).mono ?_; rintro e w' ⟨rfl, rfl⟩
      go_wp2_with fail
      refine (Clone_any _ _ (by omega)).mono ?_; rintro e w1 ⟨rfl, hb⟩
      go_wp2_with fail
      go_ret3
      exact ⟨by rw [HF.out, bs_of]; rfl, hb⟩
    · have HF := Lib.hid (cutV_form (.inr hz))
      have HZ := Lib.hid hz
      clear h0 hz hx
      go_enter Tryz.func45, Tryz.ntmps45
      go_wp2_with fail
      refine (IndexByte_yes s _ HZ.out).mono ?_; rintro e w' ⟨rfl, rfl⟩
      go_wp2_with fail
      go_ret3
      exact ⟨by rw [HF.out]; rfl, Below.refl _ _⟩
set_option maxHeartbeats 4000000 in
theorem Two_long (s : ByteArray) (w : World) (hs : s.size ≤ maxLen) (hs' : s.size ≤ 281474976710656) (h1 : 100 < s.size) (hz : hasB 0 s.data.toList = false) : Calls Tryz.prog 45 #[.string s] w fun e w' => e = .returned (.tuple #[.string (bs (cutV s.data.toList).1), .string (bs (cutV s.data.toList).2.1), .int .i64 (cutV s.data.toList).2.2]) ∧ Below w.heap.size w w' := by
  have HL := Lib.hid (show s.data.toList.length = s.size by simp)
  have hm : s.size ≤ maxLen := hs
  unfold maxLen at hs
  have e0 : s.toList.isEmpty = false := by
    rw [ByteArray.toList_eq, ← Bool.not_eq_true, List.isEmpty_iff]; intro a
    have := HL.out; rw [a] at this; simp at this; omega
  have HZ := Lib.hid hz
  clear hz
  cases hc : cutAt s.data.toList with
  | none =>
    have HF := Lib.hid (cutV_none HZ.out (by rw [HL.out]; exact h1) hc)
    have HS := Lib.hid (show slashV s.data.toList = -1 by rw [slashV, hc])
    clear hc
    go_enter Tryz.func45, Tryz.ntmps45
    go_wp2_with fail
    refine (IndexByte_no s _ HZ.out).mono ?_; rintro e w' ⟨rfl, rfl⟩
    go_wp2_with fail
    refine (firstSlash_any s _ hm h1).mono ?_; rintro e w' ⟨rfl, rfl⟩
    rw [HS.out]
    go_wp2_with fail
    go_ret3
    exact ⟨by rw [HF.out]; rfl, Below.refl _ _⟩
  | some k =>
    have HF := Lib.hid (cutV_some HZ.out (by rw [HL.out]; exact h1) hc)
    have HS := Lib.hid (show slashV s.data.toList = (k : Int) by rw [slashV, hc])
    have hb := fits_bd (cutAt_bd hc)
    rw [HL.out] at hb
    obtain ⟨b1, b2, b3, b4⟩ := hb
    have HE := Lib.hid (extract_bs s k)
    have z1 : (bs (s.data.toList.take k)).size ≤ 281474976710656 := by rw [bs_size, List.length_take]; omega
    have z2 : (bs (s.data.toList.drop (k + 1))).size ≤ 281474976710656 := by rw [bs_size, List.length_drop, HL.out]; omega
    clear hc
    obtain ⟨p, Hp⟩ := hid_name (bs (s.data.toList.take k))
    obtain ⟨n, Hn⟩ := hid_name (bs (s.data.toList.drop (k + 1)))
    rw [Hp.out] at z1
    rw [Hn.out] at z2
    have y0 : (0 : Int) ≤ (k : Int) := by omega
    have y1 : (k : Int) ≤ (s.size : Int) := by omega
    have y3 : k < s.size := by omega
    have y7 : (0 : Int) ≤ (k : Int) + 1 := by omega
    have ya : ((k : Int) + 1).toNat = k + 1 := by omega
    have yb : IntKind.i64.wrap ((k : Int) + 1) = (k : Int) + 1 := IntWalk.i64_in _ (by omega)
    have y2 : (k : Int) + 1 ≤ (s.size : Int) := by omega
    have x1 := Lib.hid (show s.extract 0 k = p from HE.out.1.trans Hp.out)
    have x2 := Lib.hid (show s.extract (k + 1) s.size = n from HE.out.2.trans Hn.out)
    clear hs'
    have w1 : (s.extract 0 k).size ≤ 281474976710656 := by rw [x1.out]; exact z1
    have w2 : (s.extract (k + 1) s.size).size ≤ 281474976710656 := by rw [x2.out]; exact z2
    go_enter Tryz.func45, Tryz.ntmps45
    go_wp2_with fail
    refine (IndexByte_no s _ HZ.out).mono ?_; rintro e w' ⟨rfl, rfl⟩
    go_wp2_with fail
    refine (firstSlash_any s _ hm h1).mono ?_; rintro e w' ⟨rfl, rfl⟩
    rw [HS.out]
    go_wp2_with fail
    go_upto_region 8 with fail
    go_region_with
      (first
        | (go_at_call 44; (have F1 := hb1); refine (Clone_any _ _ (by assumption)).mono ?_; rintro e w2 ⟨rfl, hb2⟩)
        | (go_at_call 44; refine (Clone_any _ _ (by assumption)).mono ?_; rintro e w1 ⟨rfl, hb1⟩))
    all_goals
      go_wp2_with fail
      go_ret3
      exact ⟨by rw [HF.out, ← HE.out.1, ← HE.out.2]; rfl, ((Below.refl w.heap.size w).drew.trans (show Below w.heap.size w.drew w1 from hb1)).trans (hb2.mono (show w.heap.size ≤ w1.heap.size from hb1.size))⟩
theorem Two_any (s : ByteArray) (w : World) (hs : s.size ≤ maxLen) (hs' : s.size ≤ 281474976710656) : Calls Tryz.prog 45 #[.string s] w fun e w' => e = .returned (.tuple #[.string (bs (cutV s.data.toList).1), .string (bs (cutV s.data.toList).2.1), .int .i64 (cutV s.data.toList).2.2]) ∧ Below w.heap.size w w' := by
  by_cases h : s.size ≤ 100 ∨ hasB 0 s.data.toList = true
  · exact Two_short s w hs hs' h
  · exact Two_long s w hs hs' (by omega) (by rw [← Bool.not_eq_true]; exact fun a => h (.inr a))
end Go.Proofs.YtldffnmoafhidaaGreatDoor
