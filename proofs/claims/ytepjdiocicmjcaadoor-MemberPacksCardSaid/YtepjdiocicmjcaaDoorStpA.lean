/- Package stamp: numerals, the text of a time. -/
import Derived.Test.YtepjdiocicmjcaaDoorMth
import Derived.Test.YtepjdiocicmjcaaDoorMet
import Derived.Test.YtepjdiocicmjcaaDoorVar
import Derived.Test.YtepjdiocicmjcaaDoorShelf
import Derived.LaidLaws
import Derived.Stop.LaidErr
import Derived.Lib.LaidTab
import Derived.IntWalk
import Derived.WalkSmall
set_option linter.unusedVariables false
set_option maxRecDepth 100000
namespace Go.Proofs.YtepjdiocicmjcaaDoor
open Go.RowKit
open Go.OpenShut
open Go.Sort (grow)
theorem below_grow (w : World) (q : Nat) (os : Array Obj) : Below w.heap.size w (grow (w.drewN q) os) :=
  ⟨rfl, rfl, rfl, by simp [grow], fun i hi => by
    show ((w.drewN q).heap ++ os)[i]? = _
    rw [Array.getElem?_append_left (by show i < w.heap.size; exact hi)]
    rfl⟩
theorem bs_cat (a b : List UInt8) : bs a ++ bs b = bs (a ++ b) := by
  apply ByteArray.ext; simp [bs, ByteArray.data_append]
theorem bs_ext {s : ByteArray} {l : List UInt8} (h : s.data.toList = l) : s = bs l := by rw [← h, bs_of]
theorem extract_tail (s : ByteArray) (k : Nat) : (s.extract k s.size).data.toList = s.data.toList.drop k := by
  rw [ByteArray.data_extract, Array.toList_extract]; simp [List.extract]
  rw [List.take_of_length_le (by simp)]
theorem size_list (s : ByteArray) : s.data.toList.length = s.size := by simp
/-- the table that Itoa reads holds the powers of ten -/
def Tab (w : World) : Prop := Lib.TabIs Tryd.prog w "internal/strconv.uint64pow10" .u64 Lib.pow10Tab
theorem gPow_is : Tryd.prog.globalNamed "internal/strconv.uint64pow10" = some 1 := by kernel_rfl
theorem Tab.below {w w' : World} (h : Tab w) (hb : Below w.heap.size w w') : Tab w' := var_below gPow_is h hb
theorem Itoa_any (n : Int) (w : World) (T : Tab w) (h0 : -9223372036854775808 ≤ n) (h1 : n ≤ 9223372036854775807) :
    Calls Tryd.prog 14 #[.int .i64 n] w fun e w' => e = .returned (.string (bs (Lib.itoa n))) ∧ Below w.heap.size w w' := by
  refine (Tryd.strconv_Itoa n h0 h1 w T).mono ?_; rintro e w' ⟨rfl, k, os, rfl⟩
  exact ⟨rfl, below_grow w k os⟩
theorem Itoa_nat (n : Nat) (w : World) (T : Tab w) (h1 : n ≤ 9223372036854775807) :
    Calls Tryd.prog 14 #[.int .i64 (n : Int)] w fun e w' => e = .returned (.string (bs (Lib.decDigits n))) ∧ Below w.heap.size w w' := by
  have h := Itoa_any (n : Int) w T (by omega) (by omega)
  rw [Lib.itoa_nonneg] at h; exact h
set_option maxHeartbeats 400000 in
theorem negate_any (a b : Int) (w : World) (h0 : -9223372036854775808 ≤ a) (h1 : a ≤ 9223372036854775807) (h2 : -1000000000 ≤ b) (h3 : b ≤ 1000000000) :
    Calls Tryd.prog 26 #[.int .i64 a, .int .i64 b] w fun e w' => e = .returned (.tuple #[.int .i64 (negV a b).1, .int .i64 (negV a b).2]) ∧ w = w' := by
  by_cases hb : b = 0
  · subst hb
    by_cases ha : a = -9223372036854775808
    · subst ha
      go_enter Tryd.func26, Tryd.ntmps26
      go_wp2
      go_ret2
      exact ⟨ret_2int (show wrap64 9223372036854775808 = -9223372036854775808 by kernel_rfl) rfl, rfl⟩
    · have HN := Lib.hid (show negV a 0 = (-a, 0) by unfold negV; rw [if_pos rfl, if_neg ha])
      have h4 : -9223372036854775807 ≤ a := by omega
      clear ha h0
      go_enter Tryd.func26, Tryd.ntmps26
      go_wp2
      go_ret2
      exact ⟨ret_2int (by rw [HN.out]; try (show wrap64 (wrap64 9223372036854775808 - 1) = 9223372036854775807; kernel_rfl)) (by rw [HN.out]), rfl⟩
  · have hb' : (b == 0) = false := by simpa using hb
    by_cases ha : a = -9223372036854775808
    · subst ha
      have HN := Lib.hid (show negV (-9223372036854775808) b = (9223372036854775807, 1000000000 - b) by unfold negV; rw [if_neg hb, if_pos rfl])
      clear hb
      go_enter Tryd.func26, Tryd.ntmps26
      go_wp2
      go_ret2
      exact ⟨ret_2int (by rw [HN.out]; try (show wrap64 (wrap64 9223372036854775808 - 1) = 9223372036854775807; kernel_rfl)) (by rw [HN.out]), rfl⟩
    · have HN := Lib.hid (show negV a b = (-a - 1, 1000000000 - b) by unfold negV; rw [if_neg hb, if_neg ha])
      have h4 : -9223372036854775807 ≤ a := by omega
      clear ha h0 hb
      go_enter Tryd.func26, Tryd.ntmps26
      go_wp2
      go_ret2
      exact ⟨ret_2int (by rw [HN.out]; try (show wrap64 (wrap64 9223372036854775808 - 1) = 9223372036854775807; kernel_rfl)) (by rw [HN.out]), rfl⟩
set_option maxHeartbeats 400000 in
theorem fraction_any (n : Nat) (w : World) (T : Tab w) (hn : n < 1000000000) :
    Calls Tryd.prog 27 #[.int .i64 (n : Int)] w fun e w' => e = .returned (.string (bs (fracL n))) ∧ Below w.heap.size w w' := by
  by_cases h0 : n = 0
  · subst h0
    go_enter Tryd.func27, Tryd.ntmps27
    go_wp2
    go_ret
    exact ⟨rfl, Below.refl _ _⟩
  · have h0' : ((n : Int) == 0) = false := by simp [h0]
    have h1 : 1 ≤ n := by omega
    have e9 : (10 : Nat) ^ 9 = 1000000000 := by decide
    have hL := decDigits_lead 9 n (by omega)
    rw [e9] at hL
    obtain ⟨X, HX⟩ := hid_name (bs (Lib.decDigits (1000000000 + n)))
    have HD : Hid (X.data.toList = 49 :: d10 9 n) := by unfold Hid; rw [← HX.out, bs_list, hL]
    have hs : X.size = 10 := by rw [← size_list, HD.out, List.length_cons, d10_length]
    obtain ⟨Y, HY⟩ := hid_name (X.extract 1 X.size)
    have HYd : Hid (Y.data.toList = d10 9 n) := by unfold Hid; rw [← HY.out, extract_tail, HD.out]; rfl
    have hys : Y.size ≤ 10 := by rw [← size_list, HYd.out, d10_length]; omega
    have HF := Lib.hid (show (⟨#[46]⟩ : ByteArray) ++ bs (fr 9 n) = bs (fracL n) by
      rw [show (⟨#[46]⟩ : ByteArray) = bs [46] from rfl, bs_cat]; unfold fracL; rw [if_neg h0]; rfl)
    have hfs : (bs (fr 9 n)).size ≤ 9 := by rw [bs_size]; exact fr_len 9 n
    obtain ⟨Z, HZ⟩ := hid_name (bs (fr 9 n))
    rw [HZ.out] at HF hfs
    have HI : Hid (∀ W, Tab W → Calls Tryd.prog 14 #[.int .i64 (1000000000 + (n : Int))] W fun e w' => e = .returned (.string X) ∧ Below W.heap.size W w') := fun W TW => by
      have h := Itoa_nat (1000000000 + n) W TW (by omega)
      rw [HX.out, Int.natCast_add] at h; exact h
    have HT : Hid (∀ W, Calls Tryd.prog 42 #[.string Y, .string ⟨#[48]⟩] W fun e w' => e = .returned (.string Z) ∧ w' = W) := fun W => by
      have h := Tryd.strings_TrimRight_one Y 48 (by decide) W (by omega)
      rw [HYd.out, trimR_d10 9 n (by omega)] at h
      rw [← HZ.out]; exact h
    rw [← HF.out]
    have hs1 : 1 ≤ X.size := by omega
    have hs2 : X.size ≤ 10 := by omega
    clear hL h0 hs
    go_enter Tryd.func27, Tryd.ntmps27
    go_wp2_with fail
    refine (HI.out _ T).mono ?_; rintro e w1 ⟨rfl, hb1⟩
    have HB := Lib.hid hb1
    clear hb1
    go_wp2_with fail
    rw [HY.out]
    refine (HT.out _).mono ?_; rintro e w2 ⟨rfl, rfl⟩
    go_wp2_with fail
    go_ret
    exact ⟨rfl, HB.out⟩
end Go.Proofs.YtepjdiocicmjcaaDoor
