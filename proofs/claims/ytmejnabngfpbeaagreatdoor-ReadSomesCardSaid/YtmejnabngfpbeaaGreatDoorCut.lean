/- Texts of one kind, in one file: CutA, CutB. -/
import Derived.Test.YtmejnabngfpbeaaGreatDoorMth
import Derived.Test.YtmejnabngfpbeaaGreatDoorFld
import Derived.Test.YtmejnabngfpbeaaGreatDoorPth
import Derived.Deep.RegionWith
import Derived.IntWalk
import Derived.Deep.DeepCutAuto
import Derived.Deep.CutBlock
import Derived.Deep.Cut
import Derived.Deep.LoopGhost
set_option linter.unusedVariables false
set_option maxRecDepth 100000
namespace Go.Proofs.YtmejnabngfpbeaaGreatDoor
open Go.RowKit
open Go.OpenShut
theorem getD_is (s : ByteArray) (k : Nat) (h : k < s.size) : s.data.toList.getD k 0 = s[k] := getD_byte s k h 0
set_option maxHeartbeats 400000 in
theorem firstSlash_any (s : ByteArray) (w : World) (hs : s.size ≤ maxLen) (h1 : 100 < s.size) : Calls Tryz.prog 215 #[.string s] w fun e w' => e = .returned (.int .i64 (slashV s.data.toList)) ∧ w = w' := by
  unfold maxLen at hs
  have HL := Lib.hid (show s.data.toList.length = s.size by simp)
  rcases (show s.size ≤ 102 ∨ (¬ s.size ≤ 102 ∧ s.size < 157) ∨ (157 ≤ s.size ∧ ¬ s.size ≤ 102) by omega) with hm | ⟨hm, hm2⟩ | ⟨hm2, hm⟩
  all_goals
    skip
    all_goals
      go_enter Tryz.func215, Tryz.ntmps215
      go_wp2
      go_loop [3] (fun i => ∃ k : Nat, 1 ≤ k ∧ s.size ≤ k + 101 ∧ (k ≤ 156 ∨ k + 101 = s.size) ∧ (k + 1 ≤ s.size) ∧ i = .int .i64 k ∧ Hid (noFit s.data.toList k)) (fun i => s.size - (intOf i).toNat)
      case atStart =>
        refine ⟨if s.size ≤ 102 then 1 else s.size - 101, ?_, ?_, ?_, ?_, ?_, ?_⟩
        · split <;> omega
        · split <;> omega
        · split <;> omega
        · split <;> omega
        · first
            | (rw [if_pos hm]; first | rfl | (congr 1; omega))
            | (rw [if_neg hm]; congr 1; omega)
        · intro j hj
          refine fits_no ?_
          rw [HL.out]
          split at hj <;> omega
      case round =>
        obtain ⟨k, hk1, hk2, hk3, hk4, rfl, hz⟩ := hrel
        by_cases hlt : k ≤ 155 ∧ k + 2 ≤ s.size
        · obtain ⟨hA, hB⟩ := hlt
          have hk : k < s.size := by omega
          have hg := getD_is s k hk
          by_cases hc : s[k] = 47
          · have hc' : ((s[k].toNat : Int) == 47) = true := by rw [hc]; rfl
            have HF := Lib.hid (show slashV s.data.toList = (k : Int) by
              rw [slashV, cutAt_some hz.out (fits_mk (by rw [HL.out]; omega) (by rw [hg, hc]))])
            clear hc hg
            go_wp2
            go_ret
            exact ⟨ret_int HF.out.symm, rfl⟩
          · have hc' : ((s[k].toNat : Int) == 47) = false := by
              rw [beq_eq_false_iff_ne]; intro h; exact hc (UInt8.toNat_inj.1 (show s[k].toNat = 47 by omega))
            have HF : Hid (noFit s.data.toList (k + 1)) := noFit_succ hz.out (fits_ne (by rw [hg]; exact hc))
            clear hc hg
            go_wp2
            go_round
            case rel => exact ⟨k + 1, by omega, by omega, by omega, by omega, by go_num, HF⟩
            case measure => simp [intOf]; omega
        · have HF := Lib.hid (show slashV s.data.toList = -1 by
            rw [slashV, cutAt_none hz.out (by rw [HL.out]; omega)])
          by_cases hA : k ≤ 155
          · have hB : ¬ k + 2 ≤ s.size := fun h => hlt ⟨hA, h⟩
            clear hlt
            first
              | (exfalso; omega)
              | (go_wp2
                 go_ret
                 exact ⟨ret_int HF.out.symm, rfl⟩)
          · clear hlt
            first
              | (exfalso; omega)
              | (go_wp2
                 go_ret
                 exact ⟨ret_int HF.out.symm, rfl⟩)
set_option maxHeartbeats 400000 in
theorem rTwo_short (s : ByteArray) (w : World) (hs : s.size ≤ 100) : Calls Tryz.prog 100 #[.string s] w fun e w' => e = .returned (.tuple #[.string (bs (cutV s.data.toList).1), .string (bs (cutV s.data.toList).2.1), .int .i64 (cutV s.data.toList).2.2]) ∧ w = w' := by
  have HL := Lib.hid (show s.data.toList.length = s.size by simp)
  have hm : s.size ≤ maxLen := by unfold maxLen; omega
  by_cases h0 : s.data.toList = []
  · have HF := Lib.hid (cutV_form (.inl h0))
    have e0 : s.toList = [] := by rw [ByteArray.toList_eq]; exact h0
    clear h0
    go_enter Tryz.func100, Tryz.ntmps100
    go_wp2_with fail
    go_ret3
    exact ⟨by rw [HF.out]; rfl, rfl⟩
  · have e0 : s.toList.isEmpty = false := by rw [ByteArray.toList_eq, ← Bool.not_eq_true, List.isEmpty_iff]; exact h0
    cases hz : hasB 0 s.data.toList
    · have HF := Lib.hid (cutV_short h0 hz (by rw [HL.out]; exact hs))
      have HZ := Lib.hid hz
      clear h0 hz
      go_enter Tryz.func100, Tryz.ntmps100
      go_wp2_with fail
      refine (has_any s 0 0 _ hm rfl).mono ?_; rintro e w' ⟨rfl, rfl⟩
      rw [HZ.out]
      go_wp2_with fail
      go_ret3
      exact ⟨by rw [HF.out, bs_of]; rfl, rfl⟩
    · have HF := Lib.hid (cutV_form (.inr hz))
      have HZ := Lib.hid hz
      clear h0 hz
      go_enter Tryz.func100, Tryz.ntmps100
      go_wp2_with fail
      refine (has_any s 0 0 _ hm rfl).mono ?_; rintro e w' ⟨rfl, rfl⟩
      rw [HZ.out]
      go_wp2_with fail
      go_ret3
      exact ⟨by rw [HF.out]; rfl, rfl⟩
theorem extract_bs (s : ByteArray) (k : Nat) : s.extract 0 k = bs (s.data.toList.take k) ∧ s.extract (k + 1) s.size = bs (s.data.toList.drop (k + 1)) := by
  constructor
  · apply ByteArray.ext; apply Array.toList_inj.1
    rw [ByteArray.data_extract, Array.toList_extract, bs_list]; simp [List.extract]
  · apply ByteArray.ext; apply Array.toList_inj.1
    rw [ByteArray.data_extract, Array.toList_extract, bs_list]; simp [List.extract]
    rw [List.take_of_length_le (by simp)]
set_option maxHeartbeats 800000 in
theorem rTwo_long (s : ByteArray) (w : World) (hs : s.size ≤ maxLen) (h1 : 100 < s.size) : Calls Tryz.prog 100 #[.string s] w fun e w' => e = .returned (.tuple #[.string (bs (cutV s.data.toList).1), .string (bs (cutV s.data.toList).2.1), .int .i64 (cutV s.data.toList).2.2]) ∧ ∃ n, w' = w.drewN n := by
  have HL := Lib.hid (show s.data.toList.length = s.size by simp)
  have hm : s.size ≤ maxLen := hs
  unfold maxLen at hs
  have e0 : s.toList.isEmpty = false := by
    rw [ByteArray.toList_eq, ← Bool.not_eq_true, List.isEmpty_iff]; intro a
    have := HL.out; rw [a] at this; simp at this; omega
  cases hz : hasB 0 s.data.toList
  · have HZ := Lib.hid hz
    clear hz
    go_enter Tryz.func100, Tryz.ntmps100
    go_wp2_with fail
    refine (has_any s 0 0 _ hm rfl).mono ?_; rintro e w' ⟨rfl, rfl⟩
    rw [HZ.out]
    go_wp2_with fail
    go_loop [5] (fun i => ∃ k : Nat, 1 ≤ k ∧ k ≤ 156 ∧ k + 1 ≤ s.size ∧ i = .int .i64 k ∧ Hid (noFit s.data.toList k)) (fun i => s.size - (intOf i).toNat)
    case atStart => exact ⟨1, by omega, by omega, by omega, rfl, fun j hj => fits_no (by omega)⟩
    case round =>
      obtain ⟨k, hk1, hk2, hk4, rfl, hz⟩ := hrel
      by_cases hlt : k ≤ 155 ∧ k + 2 ≤ s.size
      · obtain ⟨hA, hB⟩ := hlt
        have hk : k < s.size := by omega
        have hg := getD_is s k hk
        by_cases hc : s[k] = 47
        · have hc' : ((s[k].toNat : Int) == 47) = true := by rw [hc]; rfl
          by_cases hd : s.size ≤ k + 101
          · have HC := cutAt_some hz.out (fits_mk (by rw [HL.out]; omega) (by rw [hg, hc]))
            have HF := Lib.hid (cutV_some HZ.out (by rw [HL.out]; exact h1) HC)
            have HE := Lib.hid (extract_bs s k)
            clear hc hg HC
            go_wp2_with fail
            go_region
            go_wp2_with fail
            go_ret3
            exact ⟨by rw [HF.out, HE.out.1, HE.out.2]; rfl, 1, rfl⟩
          · have HF : Hid (noFit s.data.toList (k + 1)) := noFit_succ hz.out (fits_no (by rw [HL.out]; omega))
            clear hc hg
            go_wp2_with fail
            go_round
            case rel => exact ⟨k + 1, by omega, by omega, by omega, by go_num, HF⟩
            case measure => simp [intOf]; omega
        · have hc' : ((s[k].toNat : Int) == 47) = false := by
            rw [beq_eq_false_iff_ne]; intro h; exact hc (UInt8.toNat_inj.1 (show s[k].toNat = 47 by omega))
          have HF : Hid (noFit s.data.toList (k + 1)) := noFit_succ hz.out (fits_ne (by rw [hg]; exact hc))
          clear hc hg
          go_wp2_with fail
          go_round
          case rel => exact ⟨k + 1, by omega, by omega, by omega, by go_num, HF⟩
          case measure => simp [intOf]; omega
      · have HF := Lib.hid (cutV_none HZ.out (by rw [HL.out]; exact h1) (cutAt_none hz.out (by rw [HL.out]; omega)))
        by_cases hB : k + 2 ≤ s.size
        · have hA : ¬ k ≤ 155 := fun h => hlt ⟨h, hB⟩
          clear hlt
          go_wp2_with fail
          go_ret3
          exact ⟨by rw [HF.out]; rfl, 0, rfl⟩
        · clear hlt
          go_wp2_with fail
          go_ret3
          exact ⟨by rw [HF.out]; rfl, 0, rfl⟩
  · have HF := Lib.hid (cutV_form (.inr hz))
    have HZ := Lib.hid hz
    clear hz
    go_enter Tryz.func100, Tryz.ntmps100
    go_wp2_with fail
    refine (has_any s 0 0 _ hm rfl).mono ?_; rintro e w' ⟨rfl, rfl⟩
    rw [HZ.out]
    go_wp2_with fail
    go_ret3
    exact ⟨by rw [HF.out]; rfl, 0, rfl⟩
theorem rTwo_any (s : ByteArray) (w : World) (hs : s.size ≤ maxLen) : Calls Tryz.prog 100 #[.string s] w fun e w' => e = .returned (.tuple #[.string (bs (cutV s.data.toList).1), .string (bs (cutV s.data.toList).2.1), .int .i64 (cutV s.data.toList).2.2]) ∧ ∃ n, w' = w.drewN n := by
  by_cases h : s.size ≤ 100
  · exact (rTwo_short s w h).mono fun _ _ ⟨a, b⟩ => ⟨a, 0, b.symm⟩
  · exact rTwo_long s w hs (by omega)
set_option maxHeartbeats 1600000 in
theorem Two_short (s : ByteArray) (w : World) (hs : s.size ≤ maxLen) (hs' : s.size ≤ 281474976710656) (hx : s.size ≤ 100 ∨ hasB 0 s.data.toList = true) : Calls Tryz.prog 143 #[.string s] w fun e w' => e = .returned (.tuple #[.string (bs (cutV s.data.toList).1), .string (bs (cutV s.data.toList).2.1), .int .i64 (cutV s.data.toList).2.2]) ∧ Below w.heap.size w w' := by
  have HL := Lib.hid (show s.data.toList.length = s.size by simp)
  have hm : s.size ≤ maxLen := hs
  unfold maxLen at hs
  by_cases h0 : s.data.toList = []
  · have HF := Lib.hid (cutV_form (.inl h0))
    have e0 : s.toList = [] := by rw [ByteArray.toList_eq]; exact h0
    clear h0
    go_enter Tryz.func143, Tryz.ntmps143
    go_wp2_with fail
    go_ret3
    exact ⟨by rw [HF.out]; rfl, Below.refl _ _⟩
  · have e0 : s.toList.isEmpty = false := by rw [ByteArray.toList_eq, ← Bool.not_eq_true, List.isEmpty_iff]; exact h0
    cases hz : hasB 0 s.data.toList
    · have h1 : s.size ≤ 100 := by
        rcases hx with h | h
        · exact h
        · rw [hz] at h; cases h
      have HF := Lib.hid (cutV_short h0 hz (by rw [HL.out]; exact h1))
      have HZ := Lib.hid hz
      clear h0 hz hx
      go_enter Tryz.func143, Tryz.ntmps143
      go_wp2_with fail
      refine (IndexByte_no s _ HZ.out).mono ?_; rintro e w' ⟨rfl, rfl⟩
      go_wp2_with fail
      refine (Clone_any _ _ (by omega)).mono ?_; rintro e w1 ⟨rfl, hb⟩
      go_wp2_with fail
      go_ret3
      exact ⟨by rw [HF.out, bs_of]; rfl, hb⟩
    · have HF := Lib.hid (cutV_form (.inr hz))
      have HZ := Lib.hid hz
      clear h0 hz hx
      go_enter Tryz.func143, Tryz.ntmps143
      go_wp2_with fail
      refine (IndexByte_yes s _ HZ.out).mono ?_; rintro e w' ⟨rfl, rfl⟩
      go_wp2_with fail
      go_ret3
      exact ⟨by rw [HF.out]; rfl, Below.refl _ _⟩
set_option maxHeartbeats 4000000 in
theorem Two_long (s : ByteArray) (w : World) (hs : s.size ≤ maxLen) (hs' : s.size ≤ 281474976710656) (h1 : 100 < s.size) (hz : hasB 0 s.data.toList = false) : Calls Tryz.prog 143 #[.string s] w fun e w' => e = .returned (.tuple #[.string (bs (cutV s.data.toList).1), .string (bs (cutV s.data.toList).2.1), .int .i64 (cutV s.data.toList).2.2]) ∧ Below w.heap.size w w' := by
  have HL := Lib.hid (show s.data.toList.length = s.size by simp)
  have hm : s.size ≤ maxLen := hs
  unfold maxLen at hs
  have e0 : s.toList.isEmpty = false := by
    rw [ByteArray.toList_eq, ← Bool.not_eq_true, List.isEmpty_iff]; intro a
    have := HL.out; rw [a] at this; simp at this; omega
  have HZ := Lib.hid hz
  clear hz
  cases hc : cutAt s.data.toList with
  | none =>
    have HF := Lib.hid (cutV_none HZ.out (by rw [HL.out]; exact h1) hc)
    have HS := Lib.hid (show slashV s.data.toList = -1 by rw [slashV, hc])
    clear hc
    go_enter Tryz.func143, Tryz.ntmps143
    go_wp2_with fail
    refine (IndexByte_no s _ HZ.out).mono ?_; rintro e w' ⟨rfl, rfl⟩
    go_wp2_with fail
    refine (firstSlash_any s _ hm h1).mono ?_; rintro e w' ⟨rfl, rfl⟩
    rw [HS.out]
    go_wp2_with fail
    go_ret3
    exact ⟨by rw [HF.out]; rfl, Below.refl _ _⟩
  | some k =>
    have HF := Lib.hid (cutV_some HZ.out (by rw [HL.out]; exact h1) hc)
    have HS := Lib.hid (show slashV s.data.toList = (k : Int) by rw [slashV, hc])
    have hb := fits_bd (cutAt_bd hc)
    rw [HL.out] at hb
    obtain ⟨b1, b2, b3, b4⟩ := hb
    have HE := Lib.hid (extract_bs s k)
    have z1 : (bs (s.data.toList.take k)).size ≤ 281474976710656 := by rw [bs_size, List.length_take]; omega
    have z2 : (bs (s.data.toList.drop (k + 1))).size ≤ 281474976710656 := by rw [bs_size, List.length_drop, HL.out]; omega
    clear hc
    obtain ⟨p, Hp⟩ := hid_name (bs (s.data.toList.take k))
    obtain ⟨n, Hn⟩ := hid_name (bs (s.data.toList.drop (k + 1)))
    rw [Hp.out] at z1
    rw [Hn.out] at z2
    have y0 : (0 : Int) ≤ (k : Int) := by omega
    have y1 : (k : Int) ≤ (s.size : Int) := by omega
    have y3 : k < s.size := by omega
    have y7 : (0 : Int) ≤ (k : Int) + 1 := by omega
    have ya : ((k : Int) + 1).toNat = k + 1 := by omega
    have yb : IntKind.i64.wrap ((k : Int) + 1) = (k : Int) + 1 := IntWalk.i64_in _ (by omega)
    have y2 : (k : Int) + 1 ≤ (s.size : Int) := by omega
    have x1 := Lib.hid (show s.extract 0 k = p from HE.out.1.trans Hp.out)
    have x2 := Lib.hid (show s.extract (k + 1) s.size = n from HE.out.2.trans Hn.out)
    clear hs'
    have w1 : (s.extract 0 k).size ≤ 281474976710656 := by rw [x1.out]; exact z1
    have w2 : (s.extract (k + 1) s.size).size ≤ 281474976710656 := by rw [x2.out]; exact z2
    go_enter Tryz.func143, Tryz.ntmps143
    go_wp2_with fail
    refine (IndexByte_no s _ HZ.out).mono ?_; rintro e w' ⟨rfl, rfl⟩
    go_wp2_with fail
    refine (firstSlash_any s _ hm h1).mono ?_; rintro e w' ⟨rfl, rfl⟩
    rw [HS.out]
    go_wp2_with fail
    go_upto_region 8 with fail
    go_region_with
      (first
        | (go_at_call 131; (have F1 := hb1); refine (Clone_any _ _ (by assumption)).mono ?_; rintro e w2 ⟨rfl, hb2⟩)
        | (go_at_call 131; refine (Clone_any _ _ (by assumption)).mono ?_; rintro e w1 ⟨rfl, hb1⟩))
    all_goals
      go_wp2_with fail
      go_ret3
      exact ⟨by rw [HF.out, ← HE.out.1, ← HE.out.2]; rfl, ((Below.refl w.heap.size w).drew.trans (show Below w.heap.size w.drew w1 from hb1)).trans (hb2.mono (show w.heap.size ≤ w1.heap.size from hb1.size))⟩
theorem Two_any (s : ByteArray) (w : World) (hs : s.size ≤ maxLen) (hs' : s.size ≤ 281474976710656) : Calls Tryz.prog 143 #[.string s] w fun e w' => e = .returned (.tuple #[.string (bs (cutV s.data.toList).1), .string (bs (cutV s.data.toList).2.1), .int .i64 (cutV s.data.toList).2.2]) ∧ Below w.heap.size w w' := by
  by_cases h : s.size ≤ 100 ∨ hasB 0 s.data.toList = true
  · exact Two_short s w hs hs' h
  · exact Two_long s w hs hs' (by omega) (by rw [← Bool.not_eq_true]; exact fun a => h (.inr a))
theorem join_bs (p n : ByteArray) : p ++ ⟨#[47]⟩ ++ n = bs (p.data.toList ++ [47] ++ n.data.toList) := by
  apply ByteArray.ext; apply Array.toList_inj.1
  simp [bs, ByteArray.data_append]
theorem bs_joinE {p n : ByteArray} (h : p.data.toList = []) : bs (joinP p.data.toList n.data.toList) = n := by rw [joinP, if_pos h, bs_of]
theorem bs_joinN {p n : ByteArray} (h : p.data.toList ≠ []) : p ++ ⟨#[47]⟩ ++ n = bs (joinP p.data.toList n.data.toList) := by rw [joinP, if_neg h, join_bs]
theorem join_le (p n : ByteArray) (hp : p.size ≤ 155) (hn : n.size ≤ 100) : (bs (joinP p.data.toList n.data.toList)).size ≤ 256 := by
  rw [bs_size, joinP]; split
  · have : n.data.toList.length = n.size := by simp
    omega
  · simp; omega
theorem one_no {p n : List UInt8} {q m : ByteArray} {f : Int} (h : ¬ (n.length < 1 ∨ 100 < n.length ∨ 155 < p.length)) (hq : bs (cutV (joinP p n)).1 = q) (hm : bs (cutV (joinP p n)).2.1 = m) (hf : (cutV (joinP p n)).2.2 = f)
    (hx : f ≠ 0 ∨ q.data.toList ≠ p ∨ m.data.toList ≠ n) : oneV p n = ([], 3) := by
  refine oneV_form h fun e => ?_
  rw [e] at hq hm hf
  subst hq hm hf
  rcases hx with a | a | a
  · exact a rfl
  · exact a rfl
  · exact a rfl
theorem one_yes {p n : List UInt8} {q m : ByteArray} {f : Int} (h : ¬ (n.length < 1 ∨ 100 < n.length ∨ 155 < p.length)) (hq : bs (cutV (joinP p n)).1 = q) (hm : bs (cutV (joinP p n)).2.1 = m) (hf : (cutV (joinP p n)).2.2 = f)
    (h1 : f = 0) (h2 : q.data.toList = p) (h3 : m.data.toList = n) : oneV p n = (joinP p n, 0) := by
  refine oneV_ok h ?_
  rw [← hq] at h2
  rw [← hm] at h3
  exact Prod.ext h2 (Prod.ext h3 (hf.trans h1))
theorem join_any (p n : ByteArray) (w : World) (hp : p.size ≤ 155) (hn : n.size ≤ 100) : Calls Tryz.prog 142 #[.string p, .string n] w fun e w' => e = .returned (.string (bs (joinP p.data.toList n.data.toList))) ∧ Below w.heap.size w w' := by
  by_cases h0 : p.data.toList = []
  · have e0 : p.toList = [] := by rw [ByteArray.toList_eq]; exact h0
    have HJ := Lib.hid (bs_joinE (n := n) h0)
    clear h0
    go_enter Tryz.func142, Tryz.ntmps142
    go_wp2_with fail
    refine (Clone_any _ _ (by omega)).mono ?_; rintro e w1 ⟨rfl, hb⟩
    go_wp2_with fail
    go_ret
    exact ⟨by rw [HJ.out]; rfl, hb⟩
  · have e0 : p.toList.isEmpty = false := by rw [ByteArray.toList_eq, ← Bool.not_eq_true, List.isEmpty_iff]; exact h0
    have HJ := Lib.hid (bs_joinN (n := n) h0)
    clear h0
    go_enter Tryz.func142, Tryz.ntmps142
    go_wp2_with fail
    go_ret
    exact ⟨by rw [← HJ.out]; rfl, Below.refl _ _⟩
set_option maxHeartbeats 800000 in
theorem rOne_any (p n : ByteArray) (w : World) (hp : p.size ≤ maxLen) (hn : n.size ≤ maxLen) : Calls Tryz.prog 56 #[.string p, .string n] w fun e w' => e = .returned (.tuple #[.string (bs (oneV p.data.toList n.data.toList).1), .int .i64 (oneV p.data.toList n.data.toList).2]) ∧ ∃ k, w' = w.drewN k := by
  have HP := Lib.hid (show p.data.toList.length = p.size by simp)
  have HN := Lib.hid (show n.data.toList.length = n.size by simp)
  unfold maxLen at hp hn
  by_cases h0 : n.data.toList = []
  · have HF := Lib.hid (oneV_size (p := p.data.toList) (n := n.data.toList) (.inl (by rw [h0]; decide)))
    have e0 : n.toList = [] := by rw [ByteArray.toList_eq]; exact h0
    clear h0
    go_enter Tryz.func56, Tryz.ntmps56
    go_wp2_with fail
    go_ret2
    exact ⟨by rw [HF.out]; rfl, 0, rfl⟩
  · have hn1 : 1 ≤ n.size := by rw [← HN.out]; exact List.length_pos_iff.2 h0
    have e0 : n.toList.isEmpty = false := by rw [ByteArray.toList_eq, ← Bool.not_eq_true, List.isEmpty_iff]; exact h0
    clear h0
    by_cases h1 : 100 < n.size
    · have HF := Lib.hid (oneV_size (p := p.data.toList) (n := n.data.toList) (.inr (.inl (by rw [HN.out]; exact h1))))
      go_enter Tryz.func56, Tryz.ntmps56
      go_wp2_with fail
      go_ret2
      exact ⟨by rw [HF.out]; rfl, 0, rfl⟩
    · by_cases h2 : 155 < p.size
      · have HF := Lib.hid (oneV_size (p := p.data.toList) (n := n.data.toList) (.inr (.inr (by rw [HP.out]; exact h2))))
        go_enter Tryz.func56, Tryz.ntmps56
        go_wp2_with fail
        go_ret2
        exact ⟨by rw [HF.out]; rfl, 0, rfl⟩
      · have hz : ¬ (n.data.toList.length < 1 ∨ 100 < n.data.toList.length ∨ 155 < p.data.toList.length) := by rw [HN.out, HP.out]; omega
        have HZ := Lib.hid hz
        clear hz
        have hjl := join_le p n (by omega) (by omega)
        obtain ⟨q, Hq⟩ := hid_name (bs (cutV (joinP p.data.toList n.data.toList)).1)
        obtain ⟨m, Hm⟩ := hid_name (bs (cutV (joinP p.data.toList n.data.toList)).2.1)
        obtain ⟨f, Hf⟩ := hid_name (cutV (joinP p.data.toList n.data.toList)).2.2
        have HC : Hid (∀ W, Calls Tryz.prog 100 #[.string (bs (joinP p.data.toList n.data.toList))] W fun e w' => e = .returned (.tuple #[.string q, .string m, .int .i64 f]) ∧ ∃ k, w' = W.drewN k) := fun W => by
          rw [← Hq.out, ← Hm.out, ← Hf.out]
          exact rTwo_any _ W (by unfold maxLen; omega)
        obtain ⟨S, HS⟩ := hid_name (bs (joinP p.data.toList n.data.toList))
        rw [HS.out] at HC hjl
        have t1 := str_eqL q p
        have t2 := str_eqL m n
        have HE := Lib.hid fun h => bs_joinE (p := p) (n := n) h
        have HJ := Lib.hid fun h => bs_joinN (p := p) (n := n) h
        have hpp : (p ++ ⟨#[47]⟩).size ≤ 156 := by rw [ByteArray.size_append]; show p.size + 1 ≤ 156; omega
        go_enter Tryz.func56, Tryz.ntmps56
        go_upto_if 27 with fail
        go_cut [6] (fun s6 wx => s6 = .string S ∧ wx = w)
        case first =>
          by_cases h0 : p.data.toList = []
          · have e1 : p.toList.isEmpty = true := by rw [ByteArray.toList_eq, List.isEmpty_iff]; exact h0
            have HE1 := Lib.hid ((HE.out h0).symm.trans HS.out)
            clear h0
            rw [e1]
            go_wp2_with fail
            go_meet
            exact ⟨by rw [HE1.out], rfl⟩
          · have e1 : p.toList.isEmpty = false := by rw [ByteArray.toList_eq, ← Bool.not_eq_true, List.isEmpty_iff]; exact h0
            have HE1 := Lib.hid ((HJ.out h0).trans HS.out)
            clear h0
            rw [e1]
            go_wp2_with fail
            go_meet
            exact ⟨by rw [HE1.out], rfl⟩
        case rest =>
          obtain ⟨rfl, rfl⟩ := hcut
          clear e0
          go_wp2_with fail
          refine (HC.out _).mono ?_; rintro e w' ⟨rfl, k, hw1⟩
          by_cases hf : f = 0
          · have hf' : (f != 0) = false := by simp [hf]
            by_cases hq : q.data.toList = p.data.toList
            · rw [decide_eq_true hq] at t1
              by_cases hm : m.data.toList = n.data.toList
              · rw [decide_eq_true hm] at t2
                have HF := Lib.hid (one_yes HZ.out Hq.out Hm.out Hf.out hf hq hm)
                clear hf hq hm
                go_wp2_with fail
                go_ret2
                exact ⟨by rw [HF.out, HS.out]; rfl, k, by first | exact hw1 | rfl⟩
              · rw [decide_eq_false hm] at t2
                have HF := Lib.hid (one_no HZ.out Hq.out Hm.out Hf.out (.inr (.inr hm)))
                clear hf hq hm
                go_wp2_with fail
                go_ret2
                exact ⟨by rw [HF.out]; rfl, k, by first | exact hw1 | rfl⟩
            · rw [decide_eq_false hq] at t1
              have HF := Lib.hid (one_no HZ.out Hq.out Hm.out Hf.out (.inr (.inl hq)))
              clear hf hq t2
              go_wp2_with fail
              go_ret2
              exact ⟨by rw [HF.out]; rfl, k, by first | exact hw1 | rfl⟩
          · have hf' : (f != 0) = true := by simp [hf]
            have HF := Lib.hid (one_no HZ.out Hq.out Hm.out Hf.out (.inl hf))
            clear hf t1 t2
            go_wp2_with fail
            go_ret2
            exact ⟨by rw [HF.out]; rfl, k, by first | exact hw1 | rfl⟩
set_option maxHeartbeats 1600000 in
theorem One_any (p n : ByteArray) (w : World) (hp : p.size ≤ maxLen) (hn : n.size ≤ maxLen) : Calls Tryz.prog 89 #[.string p, .string n] w fun e w' => e = .returned (.tuple #[.string (bs (oneV p.data.toList n.data.toList).1), .int .i64 (oneV p.data.toList n.data.toList).2]) ∧ Below w.heap.size w w' := by
  have HP := Lib.hid (show p.data.toList.length = p.size by simp)
  have HN := Lib.hid (show n.data.toList.length = n.size by simp)
  unfold maxLen at hp hn
  by_cases h0 : n.size < 1
  · have HF := Lib.hid (oneV_size (p := p.data.toList) (n := n.data.toList) (.inl (by rw [HN.out]; exact h0)))
    go_enter Tryz.func89, Tryz.ntmps89
    go_wp2_with fail
    go_ret2
    exact ⟨by rw [HF.out]; rfl, Below.refl _ _⟩
  · by_cases h1 : 100 < n.size
    · have HF := Lib.hid (oneV_size (p := p.data.toList) (n := n.data.toList) (.inr (.inl (by rw [HN.out]; exact h1))))
      go_enter Tryz.func89, Tryz.ntmps89
      go_wp2_with fail
      go_ret2
      exact ⟨by rw [HF.out]; rfl, Below.refl _ _⟩
    · by_cases h2 : 155 < p.size
      · have HF := Lib.hid (oneV_size (p := p.data.toList) (n := n.data.toList) (.inr (.inr (by rw [HP.out]; exact h2))))
        go_enter Tryz.func89, Tryz.ntmps89
        go_wp2_with fail
        go_ret2
        exact ⟨by rw [HF.out]; rfl, Below.refl _ _⟩
      · have hz : ¬ (n.data.toList.length < 1 ∨ 100 < n.data.toList.length ∨ 155 < p.data.toList.length) := by rw [HN.out, HP.out]; omega
        have HZ := Lib.hid hz
        clear hz
        have hjl := join_le p n (by omega) (by omega)
        obtain ⟨q, Hq⟩ := hid_name (bs (cutV (joinP p.data.toList n.data.toList)).1)
        obtain ⟨m, Hm⟩ := hid_name (bs (cutV (joinP p.data.toList n.data.toList)).2.1)
        obtain ⟨f, Hf⟩ := hid_name (cutV (joinP p.data.toList n.data.toList)).2.2
        have HC : Hid (∀ W, Calls Tryz.prog 143 #[.string (bs (joinP p.data.toList n.data.toList))] W fun e w' => e = .returned (.tuple #[.string q, .string m, .int .i64 f]) ∧ Below W.heap.size W w') := fun W => by
          rw [← Hq.out, ← Hm.out, ← Hf.out]
          exact Two_any _ W (by unfold maxLen; omega) (by omega)
        obtain ⟨S, HS⟩ := hid_name (bs (joinP p.data.toList n.data.toList))
        rw [HS.out] at HC hjl
        have t1 := str_eqL q p
        have t2 := str_eqL m n
        go_enter Tryz.func89, Tryz.ntmps89
        go_wp2_with fail
        refine (join_any p n _ (by omega) (by omega)).mono ?_; rintro e w1 ⟨rfl, hb1⟩
        have HB1 := Lib.hid hb1
        clear hb1
        rw [HS.out]
        go_wp2_with fail
        refine (HC.out _).mono ?_; rintro e w2 ⟨rfl, hb2⟩
        have HB2 := Lib.hid (HB1.out.trans (hb2.mono HB1.out.size))
        clear hb2
        by_cases hf : f = 0
        · have hf' : (f != 0) = false := by simp [hf]
          by_cases hq : q.data.toList = p.data.toList
          · rw [decide_eq_true hq] at t1
            by_cases hm : m.data.toList = n.data.toList
            · rw [decide_eq_true hm] at t2
              have HF := Lib.hid (one_yes HZ.out Hq.out Hm.out Hf.out hf hq hm)
              clear hf hq hm
              go_wp2_with fail
              go_ret2
              exact ⟨by rw [HF.out, HS.out]; rfl, HB2.out⟩
            · rw [decide_eq_false hm] at t2
              have HF := Lib.hid (one_no HZ.out Hq.out Hm.out Hf.out (.inr (.inr hm)))
              clear hf hq hm
              go_wp2_with fail
              go_ret2
              exact ⟨by rw [HF.out]; rfl, HB2.out⟩
          · rw [decide_eq_false hq] at t1
            have HF := Lib.hid (one_no HZ.out Hq.out Hm.out Hf.out (.inr (.inl hq)))
            clear hf hq t2
            go_wp2_with fail
            go_ret2
            exact ⟨by rw [HF.out]; rfl, HB2.out⟩
        · have hf' : (f != 0) = true := by simp [hf]
          have HF := Lib.hid (one_no HZ.out Hq.out Hm.out Hf.out (.inl hf))
          clear hf t1 t2
          go_wp2_with fail
          go_ret2
          exact ⟨by rw [HF.out]; rfl, HB2.out⟩
end Go.Proofs.YtmejnabngfpbeaaGreatDoor
