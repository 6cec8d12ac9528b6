/- Package record: the text of a record; the reference's. -/
import Derived.Test.YtilofjaigpngoaaDoorRecA
import Derived.Deep.RegionHeld3
import Derived.Deep.DrawnRows
set_option linter.unusedVariables false
set_option maxRecDepth 100000
namespace Go.Proofs.YtilofjaigpngoaaDoor
open Go.RowKit
open Go.OpenShut
theorem nDig_le3 {n : Nat} (h : n < 1000) : Lib.nDigits n ≤ 3 := by
  by_cases h1 : n < 10
  · rw [nDig1 h1]; omega
  · by_cases h2 : n < 100
    · rw [nDig2 (by omega) h2]; omega
    · rw [nDig3 (by omega) h]; omega
theorem dec_len (n : Nat) : (bs (Lib.decDigits n)).size = Lib.nDigits n := by rw [bs_size, Lib.decDigits_length]
set_option maxHeartbeats 1000000 in
theorem total_any (L : Nat) (w : World) (T : Tab w) (hL : L ≤ 900) : Calls Tryd.prog 32 #[.int .i64 (L : Int)] w fun e w' => e = .returned (.int .i64 (recN L : Int)) ∧ Below w.heap.size w w' := by
  go_enter Tryd.func32, Tryd.ntmps32
  go_wp2_with fail
  go_loopg [3] 3 (fun g s3 wx => ∃ d : Nat, s3 = .int .i64 d ∧ d + g = 4 ∧ 1 ≤ d ∧ d ≤ 3 ∧ Hid (Below w.heap.size w wx) ∧ Hid ((2 ≤ d → 10 ≤ L + 1) ∧ (3 ≤ d → 100 ≤ L + 2)))
  case atStart => exact ⟨1, rfl, rfl, Nat.le_refl _, by omega, Below.refl _ _, by omega, by omega⟩
  case round =>
    obtain ⟨d, rfl, hg, h1, h3, HB, HD⟩ := hrel
    have T' := T.below HB.out
    have HI := Lib.hid (Itoa_nat (L + d) wr T' (by omega))
    rw [Int.natCast_add] at HI
    obtain ⟨D, HDn⟩ := hid_name (bs (Lib.decDigits (L + d)))
    have HDs := Lib.hid (dec_len (L + d))
    rw [HDn.out] at HI HDs
    by_cases hgt : d < Lib.nDigits (L + d)
    · have hD : (d : Int) < (D.size : Int) := by have := HDs.out; omega
      have hds : D.size ≤ 3 := by have := HDs.out; have := nDig_le3 (n := L + d) (by omega); omega
      have hd2 : d ≤ 2 := by have := nDig_le3 (n := L + d) (by omega); omega
      have HD2 := Lib.hid (show (2 ≤ d + 1 → 10 ≤ L + 1) ∧ (3 ≤ d + 1 → 100 ≤ L + 2) by
        constructor
        · intro _
          by_cases hd : d = 1
          · subst hd
            by_cases h10 : L + 1 < 10
            · rw [nDig1 h10] at hgt; omega
            · omega
          · exact HD.out.1 (by omega)
        · intro h
          obtain rfl : d = 2 := by omega
          have h10 := HD.out.1 (by omega)
          by_cases h100 : L + 2 < 100
          · rw [nDig2 (by omega) h100] at hgt; omega
          · omega)
      clear hgt
      go_wp2_with fail
      refine HI.out.mono ?_; rintro e w1 ⟨rfl, hb1⟩
      have HB1 := Lib.hid (HB.out.trans (hb1.mono HB.out.size))
      clear hb1
      go_wp2_with fail
      go_roundg (3 - d)
      case measure => omega
      case rel => exact ⟨d + 1, by go_num, by omega, by omega, by omega, HB1, HD2⟩
    · have hD : ¬ (d : Int) < (D.size : Int) := by have := HDs.out; omega
      have HX : Hid (((L : Int) + (d : Int)) = (recN L : Int)) := by
        unfold Hid recN
        have h2 := HD.out
        by_cases h10 : L + 1 < 10
        · rw [if_pos h10]; omega
        · rw [if_neg h10]
          have hd1 : d ≠ 1 := by
            rintro rfl
            have := nDig2 (n := L + 1) (by omega)
            by_cases h100 : L + 1 < 100
            · rw [nDig2 (by omega) h100] at hgt; omega
            · rw [nDig3 (by omega) (by omega)] at hgt; omega
          by_cases h100 : L + 2 < 100
          · rw [if_pos h100]; omega
          · rw [if_neg h100]
            have hd2 : d ≠ 2 := by
              rintro rfl
              rw [nDig3 (by omega) (by omega)] at hgt; omega
            omega
      clear hgt
      go_wp2_with fail
      refine HI.out.mono ?_; rintro e w1 ⟨rfl, hb1⟩
      have HB1 := Lib.hid (HB.out.trans (hb1.mono HB.out.size))
      clear hb1
      go_wp2_with fail
      go_ret
      exact ⟨ret_int HX.out, HB1.out⟩
theorem recR_cat (k v : ByteArray) : (⟨#[32]⟩ : ByteArray) ++ k ++ ⟨#[61]⟩ ++ v ++ ⟨#[10]⟩ = bs (recT k.data.toList v.data.toList) := by
  apply bs_ext
  simp [ByteArray.data_append, recT]
theorem add_named {a b A : ByteArray} (h : a ++ b = A) (hs : a.size + b.size ≤ 9223372036854775807) : ∀ W : World, (Op.stringOp .add a b).run Tryd.prog W = .ok (.string A) W := fun W => by
  rw [← h]; exact run_string_add_sum (P := Tryd.prog) (w := W) a b hs
/-- a record's text behind its number, sum by sum -/
structure Sums (k v R A1 A2 A3 : ByteArray) : Prop where
  e1 : (⟨#[32]⟩ : ByteArray) ++ k = A1
  e2 : A1 ++ ⟨#[61]⟩ = A2
  e3 : A2 ++ v = A3
  e4 : A3 ++ ⟨#[10]⟩ = R
theorem sums_of (k v : ByteArray) : ∃ A1 A2 A3, Sums k v (bs (recT k.data.toList v.data.toList)) A1 A2 A3 :=
  ⟨_, _, _, rfl, rfl, rfl, recR_cat k v⟩
theorem chkR_le {k v : ByteArray} (h : chkR k.data.toList v.data.toList = 0) : k.size ≤ 60 ∧ v.size ≤ 500 := by
  obtain ⟨-, h1, h2, -⟩ := chkR_of h
  rw [size_list] at h1 h2; exact ⟨h1, h2⟩
set_option maxHeartbeats 1000000 in
theorem rWrite_any (k v : ByteArray) (w : World) (T : Tab w) (hk : k.size ≤ maxLen) (hv : v.size ≤ maxLen) :
    Calls Tryd.prog 19 #[recV k v] w fun e w' => e = .returned (.tuple #[.string (recW k.data.toList v.data.toList).1, .int .i64 (recW k.data.toList v.data.toList).2]) ∧ Below w.heap.size w w' := by
  have HC := Lib.hid fun W => rCheck_any k v W hk hv
  obtain ⟨c, hc⟩ : ∃ c, chkR k.data.toList v.data.toList = c := ⟨_, rfl⟩
  rw [hc] at HC
  unfold recV at HC ⊢
  unfold maxLen at hk hv
  by_cases h0 : c = 0
  · subst h0
    obtain ⟨hks, hvs⟩ := chkR_le hc
    rw [recW_ok hc]
    obtain ⟨R, HR⟩ := hid_name (bs (recT k.data.toList v.data.toList))
    have HRs : Hid (R.size = k.size + v.size + 3) := by unfold Hid; rw [← HR.out, bs_size, recT_len, size_list, size_list]
    have HTot := Lib.hid fun W (TW : Tab W) => total_any R.size W TW (by have := HRs.out; omega)
    have hb := recN_bd R.size
    have hRs : R.size ≤ 563 := by have := HRs.out; omega
    obtain ⟨N, HN⟩ := hid_name (recN R.size)
    rw [HN.out] at HTot hb
    have HI := Lib.hid fun W (TW : Tab W) => Itoa_nat N W TW (by omega)
    obtain ⟨D, HD⟩ := hid_name (bs (Lib.decDigits N))
    have hDs : D.size ≤ 3 := by rw [← HD.out, dec_len]; exact nDig_le3 (by omega)
    rw [HD.out] at HI
    have HX : Hid (D ++ R = bs (recL k.data.toList v.data.toList)) := by
      unfold Hid
      rw [← HD.out, ← HR.out, bs_cat, recL, ← HN.out, HRs.out, size_list, size_list]
    obtain ⟨A1, A2, A3, hSm⟩ := sums_of k v
    rw [HR.out] at hSm
    have z1 : A1.size = k.size + 1 := by rw [← hSm.e1, ByteArray.size_append]; show 1 + _ = _; omega
    have z2 : A2.size = k.size + 2 := by rw [← hSm.e2, ByteArray.size_append, z1]; rfl
    have z3 : A3.size = k.size + v.size + 2 := by rw [← hSm.e3, ByteArray.size_append, z2]; omega
    have p1 := add_named hSm.e1 (by show 1 + _ ≤ _; omega)
    have p2 := add_named hSm.e2 (by show _ + 1 ≤ _; omega)
    have p3 := add_named hSm.e3 (by omega)
    have p4 := add_named hSm.e4 (by show _ + 1 ≤ _; omega)
    have p5 := add_named HX.out (by omega)
    obtain ⟨X, HXn⟩ := hid_name (bs (recL k.data.toList v.data.toList))
    rw [HXn.out] at p5 ⊢
    clear hc hb z1 z2 z3 hSm HX
    go_enter Tryd.func19, Tryd.ntmps19
    go_wp2_with fail
    refine (HC.out _).mono ?_; rintro e w1 ⟨rfl, hb1⟩
    obtain ⟨⟨c0, c1⟩, -⟩ := blk2 (Blk.below (Blk.new w 35 #[.string k, .string v]) hb1 (by simp))
    have HB := Lib.hid (((Below.refl w.heap.size w).alloc (Nat.le_refl _) _).trans (hb1.mono (by simp)))
    have T1 := T.below HB.out
    clear hb1
    go_wp2_with fail
    refine (HTot.out _ T1).mono ?_; rintro e w2 ⟨rfl, hb2⟩
    have HB2 := Lib.hid (HB.out.trans (hb2.mono HB.out.size))
    have T2 := T.below HB2.out
    clear hb2
    go_wp2_with fail
    refine (HI.out _ T2).mono ?_; rintro e w3 ⟨rfl, hb3⟩
    have HB3 := Lib.hid (HB2.out.trans (hb3.mono HB2.out.size))
    clear hb3
    go_wp2_with fail
    go_ret2
    exact ⟨rfl, HB3.out⟩
  · have hw := recW_no (k := k.data.toList) (v := v.data.toList) (by rw [hc]; exact h0)
    rw [hw, hc]
    have hne : (c != 0) = true := by simpa using h0
    clear hw hc h0
    go_enter Tryd.func19, Tryd.ntmps19
    go_wp2_with fail
    refine (HC.out _).mono ?_; rintro e w1 ⟨rfl, hb1⟩
    have HB := Lib.hid (((Below.refl w.heap.size w).alloc (Nat.le_refl _) _).trans (hb1.mono (by simp)))
    clear hb1
    go_wp2_with fail
    go_ret2
    exact ⟨rfl, HB.out⟩
end Go.Proofs.YtilofjaigpngoaaDoor
