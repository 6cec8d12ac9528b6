/- Package head: the sum of a block, the types, the first error. -/
import Derived.Test.YtjklgadigcobcaaDoorHedN
import Derived.Test.YtjklgadigcobcaaDoorFldA
import Derived.Test.YtjklgadigcobcaaDoorOctC
import Derived.Test.YtjklgadigcobcaaDoorStr
import Derived.BigQuiet
import Derived.Deep.QuietTactic
import Derived.IntWalk
set_option linter.unusedVariables false
set_option maxRecDepth 100000
namespace Go.Proofs.YtjklgadigcobcaaDoor
open Go.RowKit
open Go.OpenShut
theorem sumB_take_le (l : List UInt8) (k : Nat) : sumB (l.take k) ≤ 255 * l.length := by
  have h := sumB_le (l.take k)
  rw [List.length_take] at h
  omega
theorem bs_ext (l : List UInt8) (a b : Nat) : (bs l).extract a b = bs (sl l a b) := by
  apply ByteArray.ext; apply Array.toList_inj.1
  rw [ByteArray.data_extract, Array.toList_extract]
  simp [List.extract, bs, sl, List.drop_take]
theorem ext_bs (s : ByteArray) (a b : Nat) : s.extract a b = bs (sl s.data.toList a b) := by
  conv => lhs; rw [← bs_of s]
  exact bs_ext _ _ _
set_option maxHeartbeats 400000 in
theorem byteSum_any (s : ByteArray) (w : World) (hs : s.size ≤ 512) : Calls Tryd.prog 19 #[.string s] w fun e w' => e = .returned (.int .i64 (sumB s.data.toList : Nat)) ∧ w = w' := by
  have hle := fun k => sumB_take_le s.data.toList k
  have HL := Lib.hid (show s.data.toList.length = s.size by simp)
  go_enter Tryd.func19, Tryd.ntmps19
  go_wp2
  go_loop [3, 7] (fun o i => ∃ k : Nat, ∃ z : Int, k ≤ s.size ∧ i = .int .i64 k ∧ o = .int .i64 z ∧ Hid (z = (sumB (s.data.toList.take k) : Nat))) (fun _ i => s.size - (intOf i).toNat)
  case atStart => exact ⟨0, 0, Nat.zero_le _, rfl, rfl, rfl⟩
  case round =>
    obtain ⟨k, z, hk, rfl, rfl, hz⟩ := hrel
    have hb := hle k
    rw [HL.out, ← Int.ofNat_le, ← hz.out] at hb
    have hz0 : 0 ≤ z := by rw [hz.out]; omega
    clear hle
    by_cases hlt : k < s.size
    · have Hs := Lib.hid (take_snoc s k hlt)
      have h8 := s[k].toNat_lt
      go_wp2
      go_round
      case rel => exact ⟨k + 1, z + (s[k].toNat : Int), by omega, by go_num, by go_num, by unfold Hid; rw [Hs.out, sumB_app, sumB_cons, sumB_nil, hz.out]; omega⟩
      case measure => simp [intOf]; omega
    · obtain rfl : k = s.size := by omega
      go_wp2
      go_ret
      exact ⟨ret_int (by rw [hz.out, ← HL.out, List.take_length]), rfl⟩
theorem isType_any (c : UInt8) (n : Int) (w : World) (hn : n = (c.toNat : Int)) : Calls Tryd.prog 13 #[.int .u8 n] w fun e w' => e = .returned (.bool (typB c)) ∧ w = w' := by
  subst hn
  have hv := indexByte_pos c [48, 49, 50, 53, 120]
  have hc : ((c.toNat : Int)).toNat.toUInt8 = c := by rw [Int.toNat_natCast]; exact UInt8.ofNat_toNat
  obtain ⟨z, Hz⟩ := hid_name (Lib.indexByte [48, 49, 50, 53, 120] c)
  have HX : Hid (Lib.indexByte (⟨#[48, 49, 50, 53, 120]⟩ : ByteArray).data.toList ((c.toNat : Int)).toNat.toUInt8 = z) := by unfold Hid; rw [hc]; exact Hz.out
  rw [Hz.out] at hv
  have HV := Lib.hid hv
  clear hv hc
  cases ht : typB c
  · have hz : z = -1 := by rw [HV.out]; unfold typB at ht; rw [ht]; rfl
    rw [hz] at HX
    clear hz HV Hz
    go_enter Tryd.func13, Tryd.ntmps13
    go_wp2_with fail
    refine (IndexByte_any _ _ _).mono ?_; rintro e w' ⟨rfl, rfl⟩
    rw [HX.out]
    go_wp2
    go_ret
    exact ⟨rfl, rfl⟩
  · have hz : 0 ≤ z := by rw [HV.out]; unfold typB at ht; rw [ht]; simp
    clear HV Hz
    go_enter Tryd.func13, Tryd.ntmps13
    go_wp2_with fail
    refine (IndexByte_any _ _ _).mono ?_; rintro e w' ⟨rfl, rfl⟩
    rw [HX.out]
    go_wp2
    go_ret
    exact ⟨rfl, rfl⟩
theorem first_any (a b : Int) (w : World) : Calls Tryd.prog 40 #[.int .i64 a, .int .i64 b] w fun e w' => e = .returned (.int .i64 (first1 a b)) ∧ w = w' := by
  by_cases h : a = 0
  · rw [show first1 a b = b from if_pos h]
    subst h
    go_enter Tryd.func40, Tryd.ntmps40
    go_wp2
    go_ret
    exact ⟨rfl, rfl⟩
  · rw [show first1 a b = a from if_neg h]
    have hb : (a != 0) = true := by simpa using h
    clear h
    go_enter Tryd.func40, Tryd.ntmps40
    go_wp2
    go_ret
    exact ⟨rfl, rfl⟩
set_option maxHeartbeats 1000000 in
theorem Sum_any (s : ByteArray) (w : World) (hs : s.size ≤ maxLen) : Calls Tryd.prog 11 #[.string s] w fun e w' => e = .returned (.tuple #[.int .i64 (sumV s.data.toList).1, .int .i64 (sumV s.data.toList).2]) ∧ Below w.heap.size w w' := by
  have hl : s.data.toList.length = s.size := by simp
  by_cases h : s.size = 512
  · have hb := sumH_lt s.data.toList (by omega)
    have e1 := sl_len s.data.toList 0 148 (by omega)
    have e3 := sl_len s.data.toList 156 512 (by omega)
    have b1 := sumB_le (sl s.data.toList 0 148)
    have b3 := sumB_le (sl s.data.toList 156 512)
    rw [sumV_ok (by omega)]
    have HS : Hid (sumH s.data.toList = sumB (sl s.data.toList 0 148) + 256 + sumB (sl s.data.toList 156 512)) := by
      unfold Hid sumH sl
      rw [List.drop_zero, List.take_of_length_le (by omega : s.data.toList.length ≤ 512)]
    have x1 := Lib.hid (ext_bs s 0 148)
    have x3 := Lib.hid (ext_bs s 156 512)
    have l1 : (s.extract 0 148).data.toList = sl s.data.toList 0 148 := by rw [x1.out]; rfl
    have l3 : (s.extract 156 512).data.toList = sl s.data.toList 156 512 := by rw [x3.out]; rfl
    have z1 : (s.extract 0 148).size ≤ 512 := by rw [ByteArray.size_extract]; omega
    have z3 : (s.extract 156 512).size ≤ 512 := by rw [ByteArray.size_extract]; omega
    have c1 := fun W => byteSum_any (s.extract 0 148) W z1
    have c3 := fun W => byteSum_any (s.extract 156 512) W z3
    rw [l1] at c1
    rw [l3] at c3
    obtain ⟨n1, N1⟩ := hid_name (sumB (sl s.data.toList 0 148))
    obtain ⟨n3, N3⟩ := hid_name (sumB (sl s.data.toList 156 512))
    rw [N1.out] at b1 c1
    rw [N3.out] at b3 c3
    rw [N1.out, N3.out] at HS
    rw [HS.out]
    have w1 : IntKind.i64.wrap ((n1 : Int) + 256) = (n1 : Int) + 256 := IntWalk.i64_in _ (by omega)
    have w3 : IntKind.i64.wrap ((n1 : Int) + 256 + (n3 : Int)) = (n1 : Int) + 256 + (n3 : Int) := IntWalk.i64_in _ (by omega)
    have C1 := Lib.hid c1
    have c4 := c3
    rw [← h] at c4
    have C4 := Lib.hid c4
    have CB : Hid (∀ W, Calls Tryd.prog 19 #[.string ⟨#[32, 32, 32, 32, 32, 32, 32, 32]⟩] W fun e w' => e = .returned (.int .i64 256) ∧ W = w') := fun W => byteSum_any ⟨#[32, 32, 32, 32, 32, 32, 32, 32]⟩ W (by decide)
    have C3 := Lib.hid c3
    clear c1 c3 c4 e1 e3 x1 x3 l1 l3 N1 N3 hl hb z1 z3
    go_enter Tryd.func11, Tryd.ntmps11
    go_wp2
    go_quiet (first
      | (go_at_call 19; with_reducible exact Calls.quiet_of_same (flip_same (C1.out _)))
      | (go_at_call 19; with_reducible exact Calls.quiet_of_same (flip_same (C3.out _)))
      | (go_at_call 19; with_reducible exact Calls.quiet_of_same (flip_same (C4.out _)))
      | (go_at_call 19; with_reducible exact Calls.quiet_of_same (flip_same (CB.out _))))
    go_wp2
    go_ret2
    exact ⟨ret_2int (by omega) rfl, below_drewN (Below.refl _ _) _⟩
  · rw [sumV_no (by omega)]
    have hb : ((s.size : Int) != 512) = true := by rw [bne_iff_ne]; omega
    unfold maxLen at hs
    go_enter Tryd.func11, Tryd.ntmps11
    go_wp2
    go_ret2
    exact ⟨rfl, Below.refl _ _⟩
theorem sumField_any (n : Nat) (w : World) (hn : n < 262144) : Calls Tryd.prog 16 #[.int .i64 (n : Int)] w fun e w' => e = .returned (.string (bs (ckL n))) ∧ Below w.heap.size w w' := by
  have hc := Lib.hid (octW_ck n hn)
  obtain ⟨t, T⟩ := hid_name (bs (D n 6 ++ [0]))
  have ht : t.size ≤ 100 := by rw [← T.out, bs_size]; simp
  have hT : t ++ ⟨#[32]⟩ = bs (ckL n) := by rw [← T.out, ckL]; exact str_app _ _
  go_enter Tryd.func16, Tryd.ntmps16
  go_wp2_with fail
  refine (Write_any _ _ _).mono ?_; rintro e w1 ⟨rfl, hb⟩
  rw [hc.out, T.out]
  have Hb := Lib.hid hb
  clear hb
  go_wp2_with fail
  go_ret
  exact ⟨rfl, Hb.out⟩
end Go.Proofs.YtjklgadigcobcaaDoor
