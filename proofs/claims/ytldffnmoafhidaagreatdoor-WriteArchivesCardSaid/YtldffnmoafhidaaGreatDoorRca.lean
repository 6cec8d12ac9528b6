/- Texts of one kind, in one file: RecA, RecB, RecC. -/
import Derived.Test.YtldffnmoafhidaaGreatDoorMth
import Derived.Test.YtldffnmoafhidaaGreatDoorArb
import Derived.Test.YtldffnmoafhidaaGreatDoorAny
import Derived.Test.YtldffnmoafhidaaGreatDoorFld
import Derived.Test.YtldffnmoafhidaaGreatDoorStpC
import Derived.Deep.DeepCutAuto
import Derived.Deep.RegionHeld3
import Derived.Deep.DrawnRows
/- Package record: the check, the text of a record; the reference's. -/
set_option linter.unusedVariables false
set_option maxRecDepth 100000
namespace Go.Proofs.YtldffnmoafhidaaGreatDoor
open Go.RowKit
open Go.OpenShut
theorem ascii_two : asciiL (⟨#[61, 10]⟩ : ByteArray).data.toList := by
  intro j b hb
  match j, hb with
  | 0, hb => cases hb; decide
  | 1, hb => cases hb; decide
  | j + 2, hb => simp at hb
theorem str_none {k : ByteArray} (h : k.size = 0) : k = ⟨#[]⟩ := by
  apply ByteArray.ext; apply Array.toList_inj.1
  have := size_list k
  rw [h] at this
  exact List.eq_nil_of_length_eq_zero this
theorem str_some {k : ByteArray} (h : k.size ≠ 0) : k.toList.isEmpty = false := by
  rw [Lib.toList_data]
  cases e : k.data.toList with
  | nil => have := size_list k; rw [e] at this; exact absurd this.symm h
  | cons _ _ => rfl
/-- a record's value -/
def recV (k v : ByteArray) : Value := .agg #[.string k, .string v]
theorem keyAny (k : ByteArray) (w : World) (hk : k.size ≤ 60) : Calls Tryz.prog 211 #[.string k, .string ⟨#[61, 10]⟩] w fun e w' => e = .returned (.bool (hasB 61 k.data.toList || hasB 10 k.data.toList)) ∧ Below w.heap.size w w' := by
  have h := ContainsAny_any k ⟨#[61, 10]⟩ w (by decide) (by decide) (by omega) ascii_two
  rw [show (⟨#[61, 10]⟩ : ByteArray).data.toList = [61, 10] from rfl, indexAny_two] at h
  exact h
set_option maxHeartbeats 1000000 in
theorem rCheck_any (k v : ByteArray) (w : World) (hk : k.size ≤ maxLen) (hv : v.size ≤ maxLen) :
    Calls Tryz.prog 136 #[recV k v] w fun e w' => e = .returned (.int .i64 (chkR k.data.toList v.data.toList)) ∧ Below w.heap.size w w' := by
  unfold maxLen at hk hv
  unfold recV
  by_cases h0 : k.size = 0
  · obtain rfl := str_none h0
    have HX := Lib.hid (show (1 : Int) = chkR (⟨#[]⟩ : ByteArray).data.toList v.data.toList from (chkR_size (.inl rfl)).symm)
    clear h0
    rw [← HX.out]
    go_enter Tryz.func136, Tryz.ntmps136
    go_wp2_with fail
    go_ret
    exact ⟨rfl, (Below.refl _ _).alloc (Nat.le_refl _) _⟩
  · have hemp := str_some h0
    by_cases h1 : 60 < k.size
    · have HX := Lib.hid (show (1 : Int) = chkR k.data.toList v.data.toList from (chkR_size (.inr (.inl (by rw [size_list]; exact h1)))).symm)
      clear h0
      rw [← HX.out]
      go_enter Tryz.func136, Tryz.ntmps136
      go_wp2_with fail
      go_ret
      exact ⟨rfl, (Below.refl _ _).alloc (Nat.le_refl _) _⟩
    · by_cases h2 : 500 < v.size
      · have HX := Lib.hid (show (1 : Int) = chkR k.data.toList v.data.toList from (chkR_size (.inr (.inr (by rw [size_list]; exact h2)))).symm)
        clear h0
        rw [← HX.out]
        go_enter Tryz.func136, Tryz.ntmps136
        go_wp2_with fail
        go_ret
        exact ⟨rfl, (Below.refl _ _).alloc (Nat.le_refl _) _⟩
      · have hn : ¬ (k.data.toList.length = 0 ∨ 60 < k.data.toList.length ∨ 500 < v.data.toList.length) := by rw [size_list, size_list]; omega
        have HI := Lib.hid fun W => keyAny k W (by omega)
        have HZ := Lib.hid fun W => IndexByte_any v 0 W
        have hk60 : k.size ≤ 60 := by omega
        have hv500 : v.size ≤ 500 := by omega
        clear h0
        cases hc : (hasB 61 k.data.toList || hasB 10 k.data.toList)
        · rw [hc] at HI
          rw [Bool.or_eq_false_iff] at hc
          cases hz : hasB 0 v.data.toList
          · have HX := Lib.hid (show (0 : Int) = chkR k.data.toList v.data.toList from (chkR_ok hn (by rw [hc.1, hc.2, hz]; simp)).symm)
            have HN := Lib.hid fun W => IndexByte_no v W hz
            rw [← HX.out]
            clear hc hz hn
            go_enter Tryz.func136, Tryz.ntmps136
            go_wp2_with fail
            refine (HI.out _).mono ?_; rintro e w1 ⟨rfl, hb1⟩
            obtain ⟨⟨c0, c1⟩, -⟩ := blk2 (Blk.below (Blk.new w 45 #[.string k, .string v]) hb1 (by simp))
            have HB := Lib.hid (((Below.refl w.heap.size w).alloc (Nat.le_refl _) _).trans (hb1.mono (by simp)))
            clear hb1
            go_wp2_with fail
            refine (HN.out _).mono ?_; rintro e w2 ⟨rfl, rfl⟩
            go_wp2_with fail
            go_ret
            exact ⟨rfl, HB.out⟩
          · have HX := Lib.hid (show (3 : Int) = chkR k.data.toList v.data.toList from (chkR_form hn (.inr (.inr hz))).symm)
            have HN := Lib.hid fun W => IndexByte_yes v W hz
            rw [← HX.out]
            clear hc hz hn
            go_enter Tryz.func136, Tryz.ntmps136
            go_wp2_with fail
            refine (HI.out _).mono ?_; rintro e w1 ⟨rfl, hb1⟩
            obtain ⟨⟨c0, c1⟩, -⟩ := blk2 (Blk.below (Blk.new w 45 #[.string k, .string v]) hb1 (by simp))
            have HB := Lib.hid (((Below.refl w.heap.size w).alloc (Nat.le_refl _) _).trans (hb1.mono (by simp)))
            clear hb1
            go_wp2_with fail
            refine (HN.out _).mono ?_; rintro e w2 ⟨rfl, rfl⟩
            go_wp2_with fail
            go_ret
            exact ⟨rfl, HB.out⟩
        · rw [hc] at HI
          have HX := Lib.hid (show (3 : Int) = chkR k.data.toList v.data.toList from (chkR_form hn (by rw [Bool.or_eq_true] at hc; rcases hc with h | h; exact .inl h; exact .inr (.inl h))).symm)
          rw [← HX.out]
          clear hc hn
          go_enter Tryz.func136, Tryz.ntmps136
          go_wp2_with fail
          refine (HI.out _).mono ?_; rintro e w1 ⟨rfl, hb1⟩
          have HB := Lib.hid (((Below.refl w.heap.size w).alloc (Nat.le_refl _) _).trans (hb1.mono (by simp)))
          clear hb1
          go_wp2_with fail
          go_ret
          exact ⟨rfl, HB.out⟩
set_option maxHeartbeats 1000000 in
theorem rRecFault_any (k v : ByteArray) (w : World) (hk : k.size ≤ maxLen) (hv : v.size ≤ maxLen) :
    Calls Tryz.prog 156 #[recV k v] w fun e w' => e = .returned (.int .i64 (chkR k.data.toList v.data.toList)) ∧ Below w.heap.size w w' := by
  have H61 := Lib.hid fun W => has_any k 61 61 W hk rfl
  have H10 := Lib.hid fun W => has_any k 10 10 W hk rfl
  have H0 := Lib.hid fun W => has_any v 0 0 W hv rfl
  unfold maxLen at hk hv
  unfold recV
  by_cases h0 : k.size = 0
  · obtain rfl := str_none h0
    have HX := Lib.hid (show (1 : Int) = chkR (⟨#[]⟩ : ByteArray).data.toList v.data.toList from (chkR_size (.inl rfl)).symm)
    clear h0
    rw [← HX.out]
    go_enter Tryz.func156, Tryz.ntmps156
    go_wp2_with fail
    go_ret
    exact ⟨rfl, (Below.refl _ _).alloc (Nat.le_refl _) _⟩
  · have hemp := str_some h0
    by_cases h1 : 60 < k.size
    · have HX := Lib.hid (show (1 : Int) = chkR k.data.toList v.data.toList from (chkR_size (.inr (.inl (by rw [size_list]; exact h1)))).symm)
      clear h0
      rw [← HX.out]
      go_enter Tryz.func156, Tryz.ntmps156
      go_wp2_with fail
      go_ret
      exact ⟨rfl, (Below.refl _ _).alloc (Nat.le_refl _) _⟩
    · by_cases h2 : 500 < v.size
      · have HX := Lib.hid (show (1 : Int) = chkR k.data.toList v.data.toList from (chkR_size (.inr (.inr (by rw [size_list]; exact h2)))).symm)
        clear h0
        rw [← HX.out]
        go_enter Tryz.func156, Tryz.ntmps156
        go_wp2_with fail
        go_ret
        exact ⟨rfl, (Below.refl _ _).alloc (Nat.le_refl _) _⟩
      · have hn : ¬ (k.data.toList.length = 0 ∨ 60 < k.data.toList.length ∨ 500 < v.data.toList.length) := by rw [size_list, size_list]; omega
        clear h0
        cases hc : hasB 61 k.data.toList
        · rw [hc] at H61
          cases hd : hasB 10 k.data.toList
          · rw [hd] at H10
            cases hz : hasB 0 v.data.toList
            · rw [hz] at H0
              have HX := Lib.hid (show (0 : Int) = chkR k.data.toList v.data.toList from (chkR_ok hn (by rw [hc, hd, hz]; simp)).symm)
              rw [← HX.out]
              clear hc hz hd hn
              go_enter Tryz.func156, Tryz.ntmps156
              go_wp2_with fail
              refine (H61.out _).mono ?_; rintro e w1 ⟨rfl, rfl⟩
              go_wp2_with fail
              refine (H10.out _).mono ?_; rintro e w1 ⟨rfl, rfl⟩
              go_wp2_with fail
              refine (H0.out _).mono ?_; rintro e w1 ⟨rfl, rfl⟩
              go_wp2_with fail
              go_ret
              exact ⟨rfl, (Below.refl _ _).alloc (Nat.le_refl _) _⟩
            · rw [hz] at H0
              have HX := Lib.hid (show (3 : Int) = chkR k.data.toList v.data.toList from (chkR_form hn (.inr (.inr hz))).symm)
              rw [← HX.out]
              clear hc hz hd hn
              go_enter Tryz.func156, Tryz.ntmps156
              go_wp2_with fail
              refine (H61.out _).mono ?_; rintro e w1 ⟨rfl, rfl⟩
              go_wp2_with fail
              refine (H10.out _).mono ?_; rintro e w1 ⟨rfl, rfl⟩
              go_wp2_with fail
              refine (H0.out _).mono ?_; rintro e w1 ⟨rfl, rfl⟩
              go_wp2_with fail
              go_ret
              exact ⟨rfl, (Below.refl _ _).alloc (Nat.le_refl _) _⟩
          · rw [hd] at H10
            have HX := Lib.hid (show (3 : Int) = chkR k.data.toList v.data.toList from (chkR_form hn (.inr (.inl hd))).symm)
            rw [← HX.out]
            clear hc hd hn
            go_enter Tryz.func156, Tryz.ntmps156
            go_wp2_with fail
            refine (H61.out _).mono ?_; rintro e w1 ⟨rfl, rfl⟩
            go_wp2_with fail
            refine (H10.out _).mono ?_; rintro e w1 ⟨rfl, rfl⟩
            go_wp2_with fail
            go_ret
            exact ⟨rfl, (Below.refl _ _).alloc (Nat.le_refl _) _⟩
        · rw [hc] at H61
          have HX := Lib.hid (show (3 : Int) = chkR k.data.toList v.data.toList from (chkR_form hn (.inl hc)).symm)
          rw [← HX.out]
          clear hc hn
          go_enter Tryz.func156, Tryz.ntmps156
          go_wp2_with fail
          refine (H61.out _).mono ?_; rintro e w1 ⟨rfl, rfl⟩
          go_wp2_with fail
          go_ret
          exact ⟨rfl, (Below.refl _ _).alloc (Nat.le_refl _) _⟩
end Go.Proofs.YtldffnmoafhidaaGreatDoor
/- Package record: the text of a record; the reference's. -/
set_option linter.unusedVariables false
set_option maxRecDepth 100000
namespace Go.Proofs.YtldffnmoafhidaaGreatDoor
open Go.RowKit
open Go.OpenShut
theorem nDig_le3 {n : Nat} (h : n < 1000) : Lib.nDigits n ≤ 3 := by
  by_cases h1 : n < 10
  · rw [nDig1 h1]; omega
  · by_cases h2 : n < 100
    · rw [nDig2 (by omega) h2]; omega
    · rw [nDig3 (by omega) h]; omega
theorem dec_len (n : Nat) : (bs (Lib.decDigits n)).size = Lib.nDigits n := by rw [bs_size, Lib.decDigits_length]
set_option maxHeartbeats 1000000 in
theorem total_any (L : Nat) (w : World) (T : Tab w) (hL : L ≤ 900) : Calls Tryz.prog 215 #[.int .i64 (L : Int)] w fun e w' => e = .returned (.int .i64 (recN L : Int)) ∧ Below w.heap.size w w' := by
  go_enter Tryz.func215, Tryz.ntmps215
  go_wp2_with fail
  go_loopg [3] 3 (fun g s3 wx => ∃ d : Nat, s3 = .int .i64 d ∧ d + g = 4 ∧ 1 ≤ d ∧ d ≤ 3 ∧ Hid (Below w.heap.size w wx) ∧ Hid ((2 ≤ d → 10 ≤ L + 1) ∧ (3 ≤ d → 100 ≤ L + 2)))
  case atStart => exact ⟨1, rfl, rfl, Nat.le_refl _, by omega, Below.refl _ _, by omega, by omega⟩
  case round =>
    obtain ⟨d, rfl, hg, h1, h3, HB, HD⟩ := hrel
    have T' := T.below HB.out
    have HI := Lib.hid (Itoa_nat (L + d) wr T' (by omega))
    rw [Int.natCast_add] at HI
    obtain ⟨D, HDn⟩ := hid_name (bs (Lib.decDigits (L + d)))
    have HDs := Lib.hid (dec_len (L + d))
    rw [HDn.out] at HI HDs
    by_cases hgt : d < Lib.nDigits (L + d)
    · have hD : (d : Int) < (D.size : Int) := by have := HDs.out; omega
      have hds : D.size ≤ 3 := by have := HDs.out; have := nDig_le3 (n := L + d) (by omega); omega
      have hd2 : d ≤ 2 := by have := nDig_le3 (n := L + d) (by omega); omega
      have HD2 := Lib.hid (show (2 ≤ d + 1 → 10 ≤ L + 1) ∧ (3 ≤ d + 1 → 100 ≤ L + 2) by
        constructor
        · intro _
          by_cases hd : d = 1
          · subst hd
            by_cases h10 : L + 1 < 10
            · rw [nDig1 h10] at hgt; omega
            · omega
          · exact HD.out.1 (by omega)
        · intro h
          obtain rfl : d = 2 := by omega
          have h10 := HD.out.1 (by omega)
          by_cases h100 : L + 2 < 100
          · rw [nDig2 (by omega) h100] at hgt; omega
          · omega)
      clear hgt
      go_wp2_with fail
      refine HI.out.mono ?_; rintro e w1 ⟨rfl, hb1⟩
      have HB1 := Lib.hid (HB.out.trans (hb1.mono HB.out.size))
      clear hb1
      go_wp2_with fail
      go_roundg (3 - d)
      case measure => omega
      case rel => exact ⟨d + 1, by go_num, by omega, by omega, by omega, HB1, HD2⟩
    · have hD : ¬ (d : Int) < (D.size : Int) := by have := HDs.out; omega
      have HX : Hid (((L : Int) + (d : Int)) = (recN L : Int)) := by
        unfold Hid recN
        have h2 := HD.out
        by_cases h10 : L + 1 < 10
        · rw [if_pos h10]; omega
        · rw [if_neg h10]
          have hd1 : d ≠ 1 := by
            rintro rfl
            have := nDig2 (n := L + 1) (by omega)
            by_cases h100 : L + 1 < 100
            · rw [nDig2 (by omega) h100] at hgt; omega
            · rw [nDig3 (by omega) (by omega)] at hgt; omega
          by_cases h100 : L + 2 < 100
          · rw [if_pos h100]; omega
          · rw [if_neg h100]
            have hd2 : d ≠ 2 := by
              rintro rfl
              rw [nDig3 (by omega) (by omega)] at hgt; omega
            omega
      clear hgt
      go_wp2_with fail
      refine HI.out.mono ?_; rintro e w1 ⟨rfl, hb1⟩
      have HB1 := Lib.hid (HB.out.trans (hb1.mono HB.out.size))
      clear hb1
      go_wp2_with fail
      go_ret
      exact ⟨ret_int HX.out, HB1.out⟩
theorem recR_cat (k v : ByteArray) : (⟨#[32]⟩ : ByteArray) ++ k ++ ⟨#[61]⟩ ++ v ++ ⟨#[10]⟩ = bs (recT k.data.toList v.data.toList) := by
  apply bs_ext
  simp [ByteArray.data_append, recT]
theorem add_named {a b A : ByteArray} (h : a ++ b = A) (hs : a.size + b.size ≤ 9223372036854775807) : ∀ W : World, (Op.stringOp .add a b).run Tryz.prog W = .ok (.string A) W := fun W => by
  rw [← h]; exact run_string_add_sum (P := Tryz.prog) (w := W) a b hs
/-- a record's text behind its number, sum by sum -/
structure Sums (k v R A1 A2 A3 : ByteArray) : Prop where
  e1 : (⟨#[32]⟩ : ByteArray) ++ k = A1
  e2 : A1 ++ ⟨#[61]⟩ = A2
  e3 : A2 ++ v = A3
  e4 : A3 ++ ⟨#[10]⟩ = R
theorem sums_of (k v : ByteArray) : ∃ A1 A2 A3, Sums k v (bs (recT k.data.toList v.data.toList)) A1 A2 A3 :=
  ⟨_, _, _, rfl, rfl, rfl, recR_cat k v⟩
theorem chkR_le {k v : ByteArray} (h : chkR k.data.toList v.data.toList = 0) : k.size ≤ 60 ∧ v.size ≤ 500 := by
  obtain ⟨-, h1, h2, -⟩ := chkR_of h
  rw [size_list] at h1 h2; exact ⟨h1, h2⟩
set_option maxHeartbeats 1000000 in
theorem rWrite_any (k v : ByteArray) (w : World) (T : Tab w) (hk : k.size ≤ maxLen) (hv : v.size ≤ maxLen) :
    Calls Tryz.prog 140 #[recV k v] w fun e w' => e = .returned (.tuple #[.string (recW k.data.toList v.data.toList).1, .int .i64 (recW k.data.toList v.data.toList).2]) ∧ Below w.heap.size w w' := by
  have HC := Lib.hid fun W => rCheck_any k v W hk hv
  obtain ⟨c, hc⟩ : ∃ c, chkR k.data.toList v.data.toList = c := ⟨_, rfl⟩
  rw [hc] at HC
  unfold recV at HC ⊢
  unfold maxLen at hk hv
  by_cases h0 : c = 0
  · subst h0
    obtain ⟨hks, hvs⟩ := chkR_le hc
    rw [recW_ok hc]
    obtain ⟨R, HR⟩ := hid_name (bs (recT k.data.toList v.data.toList))
    have HRs : Hid (R.size = k.size + v.size + 3) := by unfold Hid; rw [← HR.out, bs_size, recT_len, size_list, size_list]
    have HTot := Lib.hid fun W (TW : Tab W) => total_any R.size W TW (by have := HRs.out; omega)
    have hb := recN_bd R.size
    have hRs : R.size ≤ 563 := by have := HRs.out; omega
    obtain ⟨N, HN⟩ := hid_name (recN R.size)
    rw [HN.out] at HTot hb
    have HI := Lib.hid fun W (TW : Tab W) => Itoa_nat N W TW (by omega)
    obtain ⟨D, HD⟩ := hid_name (bs (Lib.decDigits N))
    have hDs : D.size ≤ 3 := by rw [← HD.out, dec_len]; exact nDig_le3 (by omega)
    rw [HD.out] at HI
    have HX : Hid (D ++ R = bs (recL k.data.toList v.data.toList)) := by
      unfold Hid
      rw [← HD.out, ← HR.out, bs_cat, recL, ← HN.out, HRs.out, size_list, size_list]
    obtain ⟨A1, A2, A3, hSm⟩ := sums_of k v
    rw [HR.out] at hSm
    have z1 : A1.size = k.size + 1 := by rw [← hSm.e1, ByteArray.size_append]; show 1 + _ = _; omega
    have z2 : A2.size = k.size + 2 := by rw [← hSm.e2, ByteArray.size_append, z1]; rfl
    have z3 : A3.size = k.size + v.size + 2 := by rw [← hSm.e3, ByteArray.size_append, z2]; omega
    have p1 := add_named hSm.e1 (by show 1 + _ ≤ _; omega)
    have p2 := add_named hSm.e2 (by show _ + 1 ≤ _; omega)
    have p3 := add_named hSm.e3 (by omega)
    have p4 := add_named hSm.e4 (by show _ + 1 ≤ _; omega)
    have p5 := add_named HX.out (by omega)
    obtain ⟨X, HXn⟩ := hid_name (bs (recL k.data.toList v.data.toList))
    rw [HXn.out] at p5 ⊢
    clear hc hb z1 z2 z3 hSm HX
    go_enter Tryz.func140, Tryz.ntmps140
    go_wp2_with fail
    refine (HC.out _).mono ?_; rintro e w1 ⟨rfl, hb1⟩
    obtain ⟨⟨c0, c1⟩, -⟩ := blk2 (Blk.below (Blk.new w 45 #[.string k, .string v]) hb1 (by simp))
    have HB := Lib.hid (((Below.refl w.heap.size w).alloc (Nat.le_refl _) _).trans (hb1.mono (by simp)))
    have T1 := T.below HB.out
    clear hb1
    go_wp2_with fail
    refine (HTot.out _ T1).mono ?_; rintro e w2 ⟨rfl, hb2⟩
    have HB2 := Lib.hid (HB.out.trans (hb2.mono HB.out.size))
    have T2 := T.below HB2.out
    clear hb2
    go_wp2_with fail
    refine (HI.out _ T2).mono ?_; rintro e w3 ⟨rfl, hb3⟩
    have HB3 := Lib.hid (HB2.out.trans (hb3.mono HB2.out.size))
    clear hb3
    go_wp2_with fail
    go_ret2
    exact ⟨rfl, HB3.out⟩
  · have hw := recW_no (k := k.data.toList) (v := v.data.toList) (by rw [hc]; exact h0)
    rw [hw, hc]
    have hne : (c != 0) = true := by simpa using h0
    clear hw hc h0
    go_enter Tryz.func140, Tryz.ntmps140
    go_wp2_with fail
    refine (HC.out _).mono ?_; rintro e w1 ⟨rfl, hb1⟩
    have HB := Lib.hid (((Below.refl w.heap.size w).alloc (Nat.le_refl _) _).trans (hb1.mono (by simp)))
    clear hb1
    go_wp2_with fail
    go_ret2
    exact ⟨rfl, HB.out⟩
end Go.Proofs.YtldffnmoafhidaaGreatDoor
/- The reference's text of a record. -/
set_option linter.unusedVariables false
set_option maxRecDepth 100000
namespace Go.Proofs.YtldffnmoafhidaaGreatDoor
open Go.RowKit
open Go.OpenShut
/-- the record's own block, the table of powers, nothing elder turned -/
def TxS (w : World) (k v : ByteArray) (W : World) : Prop := Blk W w.heap.size 45 #[.string k, .string v] ∧ Tab W ∧ Below w.heap.size w W
theorem TxS.c0 {w W : World} {k v : ByteArray} (h : TxS w k v W) : W.cell? ⟨w.heap.size, 0, none⟩ = some (.string k) := (blk2 h.1).1.1
theorem TxS.c1 {w W : World} {k v : ByteArray} (h : TxS w k v W) : W.cell? ⟨w.heap.size, 1, none⟩ = some (.string v) := (blk2 h.1).1.2
theorem TxS.drew_ {w W : World} {k v : ByteArray} (h : TxS w k v W) : TxS w k v W.drew := ⟨h.1.drew_, h.2.1.below (Below.drew (Below.refl _ _)), h.2.2.drew⟩
theorem TxS.below {w W W' : World} {k v : ByteArray} (h : TxS w k v W) (hb : Below W.heap.size W W') : TxS w k v W' :=
  ⟨h.1.below hb h.1.lt, h.2.1.below hb, h.2.2.trans (hb.mono (Nat.le_of_lt h.1.lt))⟩
theorem rtext_cat (n : Nat) (k v : ByteArray) : bs (Lib.decDigits n) ++ ⟨#[32]⟩ ++ k ++ ⟨#[61]⟩ ++ v ++ ⟨#[10]⟩ = bs (Lib.decDigits n ++ recT k.data.toList v.data.toList) := by
  apply bs_ext
  simp [ByteArray.data_append, recT, bs]
structure Sums5 (D k v R A1 A2 A3 A4 : ByteArray) : Prop where
  e1 : D ++ ⟨#[32]⟩ = A1
  e2 : A1 ++ k = A2
  e3 : A2 ++ ⟨#[61]⟩ = A3
  e4 : A3 ++ v = A4
  e5 : A4 ++ ⟨#[10]⟩ = R
theorem sums5_of (n : Nat) (k v : ByteArray) : ∃ A1 A2 A3 A4, Sums5 (bs (Lib.decDigits n)) k v (bs (Lib.decDigits n ++ recT k.data.toList v.data.toList)) A1 A2 A3 A4 :=
  ⟨_, _, _, _, rfl, rfl, rfl, rfl, rtext_cat n k v⟩
set_option maxHeartbeats 1000000 in
theorem rRecText_any (k v : ByteArray) (w : World) (T : Tab w) (hk : k.size ≤ maxLen) (hv : v.size ≤ maxLen) :
    Calls Tryz.prog 155 #[recV k v] w fun e w' => e = .returned (.tuple #[.string (recW k.data.toList v.data.toList).1, .int .i64 (recW k.data.toList v.data.toList).2]) ∧ Below w.heap.size w w' := by
  have HC := Lib.hid fun W => rRecFault_any k v W hk hv
  obtain ⟨c, hc⟩ : ∃ c, chkR k.data.toList v.data.toList = c := ⟨_, rfl⟩
  rw [hc] at HC
  unfold recV at HC ⊢
  unfold maxLen at hk hv
  by_cases h0 : c = 0
  · subst h0
    obtain ⟨hks, hvs⟩ := chkR_le hc
    rw [recW_ok hc]
    have hb := recN_bd (k.size + v.size + 3)
    have HLst := Lib.hid fun m hm => recN_least (k.size + v.size + 3) m (by omega) hm
    have HLen := Lib.hid (recN_len (k.size + v.size + 3) (by omega))
    obtain ⟨X, HX⟩ := hid_name (bs (recL k.data.toList v.data.toList))
    have HXd : Hid (bs (Lib.decDigits (recN (k.size + v.size + 3)) ++ recT k.data.toList v.data.toList) = X) := by
      unfold Hid; rw [← HX.out, recL, size_list, size_list]
    rw [HX.out]
    obtain ⟨N, HN⟩ := hid_name (recN (k.size + v.size + 3))
    rw [HN.out] at hb HLst HLen HXd
    have hN : N ≤ 600 := by omega
    have hN1 : 1 ≤ N := by omega
    have HRT : Hid ((recT k.data.toList v.data.toList).length = k.size + v.size + 3) := by unfold Hid; rw [recT_len, size_list, size_list]
    clear hc hb
    go_enter Tryz.func155, Tryz.ntmps155
    go_wp2_with fail
    refine (HC.out _).mono ?_; rintro e w1 ⟨rfl, hb1⟩
    have HS : TxS w k v w1 := by
      have h : Below w.heap.size w w1 := (((Below.refl w.heap.size w).alloc (Nat.le_refl _) _).trans (hb1.mono (by simp)))
      exact ⟨Blk.below (Blk.new w 45 #[.string k, .string v]) hb1 (by simp), T.below h, h⟩
    clear hb1
    go_wp2_with fail
    go_loopg [5, 6] (N - 1) (fun g s5 s6 wx => ∃ n : Nat, s5 = .int .i64 n ∧ n + g = N ∧ 1 ≤ n ∧ TxS w k v wx)
    case atStart => exact ⟨1, rfl, by omega, Nat.le_refl _, HS⟩
    case round =>
      obtain ⟨n, rfl, hg, h1, hS⟩ := hrel
      have HI := Lib.hid fun W (hW : TxS w k v W) => Itoa_nat n W hW.2.1 (by omega)
      have hDs : (bs (Lib.decDigits n)).size ≤ 3 := by rw [dec_len]; exact nDig_le3 (by omega)
      have HDl := Lib.hid (dec_len n)
      obtain ⟨A1, A2, A3, A4, hSm⟩ := sums5_of n k v
      obtain ⟨R, HR⟩ := hid_name (bs (Lib.decDigits n ++ recT k.data.toList v.data.toList))
      have HRs : Hid (R.size = Lib.nDigits n + (k.size + v.size + 3)) := by unfold Hid; rw [← HR.out, bs_size, List.length_append, Lib.decDigits_length, HRT.out]
      obtain ⟨D, HD⟩ := hid_name (bs (Lib.decDigits n))
      rw [HD.out] at HI hDs hSm HDl
      rw [HR.out] at hSm
      have z1 : A1.size = D.size + 1 := by rw [← hSm.e1, ByteArray.size_append]; rfl
      have z2 : A2.size = D.size + k.size + 1 := by rw [← hSm.e2, ByteArray.size_append, z1]; omega
      have z3 : A3.size = D.size + k.size + 2 := by rw [← hSm.e3, ByteArray.size_append, z2]; rfl
      have z4 : A4.size = D.size + k.size + v.size + 2 := by rw [← hSm.e4, ByteArray.size_append, z3]; omega
      have p1 := add_named hSm.e1 (by show _ + 1 ≤ _; omega)
      have p2 := add_named hSm.e2 (by omega)
      have p3 := add_named hSm.e3 (by show _ + 1 ≤ _; omega)
      have p4 := add_named hSm.e4 (by omega)
      have p5 := add_named hSm.e5 (by show _ + 1 ≤ _; omega)
      have r0 : ∀ W : World, TxS w k v W → W.cell? ⟨w.heap.size, 0, none⟩ = some (.string k) := fun W h => h.c0
      have r1 : ∀ W : World, TxS w k v W → W.cell? ⟨w.heap.size, 1, none⟩ = some (.string v) := fun W h => h.c1
      have hRl : R.size ≤ 1000 := by have h1 := HRs.out; have h2 := HDl.out; omega
      clear z1 z2 z3 z4 hSm
      go_upto_region 6 with fail
      go_cut [6] (fun s6 wx => s6 = .string R ∧ TxS w k v wx)
      case first =>
        go_region_held3 (fun W => TxS w k v W)
          (first
            | (with_reducible assumption)
            | (with_reducible refine TxS.drew_ ?_; with_reducible assumption)
            | (with_reducible exact TxS.below (by with_reducible assumption) (by with_reducible assumption)))
          (first | (go_at_call 51; refine (HI.out _ (by first | with_reducible assumption | with_reducible exact TxS.drew_ (by with_reducible assumption))).mono ?_; rintro e w2 ⟨rfl, hb2⟩))
        all_goals
          go_wp2_with fail
          go_meet
          refine ⟨rfl, ?_⟩
          first
            | with_reducible assumption
            | with_reducible exact TxS.below (by with_reducible assumption) (by with_reducible assumption)
            | with_reducible exact TxS.below (TxS.drew_ (by with_reducible assumption)) (by with_reducible assumption)
      case rest =>
        obtain ⟨rfl, hS2⟩ := hcut
        clear p1 p2 p3 p4 p5 r0 r1
        by_cases hn : n = N
        · subst hn
          have he : ((R.size : Int) == (n : Int)) = true := by have := HRs.out; have := HLen.out; rw [beq_iff_eq]; omega
          have HRX : Hid (R = X) := by unfold Hid; rw [← HR.out, ← HXd.out]
          go_wp2_with fail
          go_ret2
          exact ⟨ret_strint2 HRX.out rfl, hS2.2.2⟩
        · have he : ((R.size : Int) == (n : Int)) = false := by have h1 := HRs.out; have h2 := HLst.out n (by omega); rw [beq_eq_false_iff_ne]; omega
          go_wp2_with fail
          go_roundg (N - (n + 1))
          case measure => omega
          case rel => exact ⟨n + 1, by go_num, by omega, by omega, hS2⟩
  · have hw := recW_no (k := k.data.toList) (v := v.data.toList) (by rw [hc]; exact h0)
    rw [hw, hc]
    have hne : (c != 0) = true := by simpa using h0
    clear hw hc h0
    go_enter Tryz.func155, Tryz.ntmps155
    go_wp2_with fail
    refine (HC.out _).mono ?_; rintro e w1 ⟨rfl, hb1⟩
    have HB := Lib.hid (((Below.refl w.heap.size w).alloc (Nat.le_refl _) _).trans (hb1.mono (by simp)))
    clear hb1
    go_wp2_with fail
    go_ret2
    exact ⟨rfl, HB.out⟩
end Go.Proofs.YtldffnmoafhidaaGreatDoor
