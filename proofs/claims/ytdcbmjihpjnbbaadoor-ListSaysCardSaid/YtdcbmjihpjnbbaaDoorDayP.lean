/- Package list: Day. -/
import Derived.Test.YtdcbmjihpjnbbaaDoorDayC
set_option linter.unusedVariables false
set_option maxRecDepth 100000
namespace Go.Proofs.YtdcbmjihpjnbbaaDoor
open Go.RowKit
open Go.OpenShut
set_option maxHeartbeats 4000000 in
theorem lDay_yes (s : Int) (h1 : -1099511627776 ≤ s) (h2 : s ≤ 1099511627776) (w : World) (M : Months w) :
    Calls Tryd.prog 8 #[.int .i64 s] w fun e w' => ∃ y m d : Int, e = .returned (.tuple #[.int .i64 y, .int .i64 m, .int .i64 d, .int .i64 0]) ∧ okD y m d ∧ dayN y m d = s / 86400 ∧ Below w.heap.size w w' := by
  have t1 : ¬ s < -1099511627776 := by omega
  have t2 : ¬ 1099511627776 < s := by omega
  have H1 := Lib.hid (divide_day s (by omega) (by omega) w)
  obtain ⟨D, hD⟩ : ∃ D, s / 86400 = D := ⟨_, rfl⟩
  have hDb : -12725830 ≤ D ∧ D ≤ 12725830 := by omega
  rw [hD] at H1 ⊢
  have H2 := Lib.hid fun W => divide_cyc (D + 719528) (by omega) (by omega) W
  have wD : IntKind.i64.wrap (D + 719528) = D + 719528 := by rw [IntKind.wrap_i64]; omega
  obtain ⟨k, hk⟩ : ∃ k, (D + 719528) / 146097 = k := ⟨_, rfl⟩
  have hkb : -100 ≤ k ∧ k ≤ 100 := by omega
  obtain ⟨e0, he0⟩ : ∃ e0 : Nat, (D + 719528) % 146097 = (e0 : Int) := ⟨((D + 719528) % 146097).toNat, by omega⟩
  have heb : e0 < 146097 := by omega
  rw [hk, he0] at H2
  obtain ⟨Y, hY⟩ : ∃ Y, 400 * k = Y := ⟨_, rfl⟩
  have wY : IntKind.i64.wrap (k * 400) = Y := by rw [IntKind.wrap_i64]; omega
  have hYb : -40000 ≤ Y ∧ Y ≤ 40000 := by omega
  have HB0 : Hid (begY Y = 146097 * k - 719528) := by
    unfold Hid
    have h := begY_rounds 0 k
    rw [show (0 : Int) + 400 * k = Y by omega, show begY 0 = -719528 by decide] at h
    omega
  have HS : Hid (begY Y + (e0 : Int) = D) := by unfold Hid; rw [HB0.out]; omega
  have HT : Hid (D < begY (Y + 400)) := by unfold Hid; rw [begY_round, HB0.out]; omega
  obtain ⟨r, hr⟩ := hid_name (s % 86400)
  rw [hr.out] at H1
  have HM := Lib.hid M
  clear h1 h2 hD hk he0 hY hkb HB0 hr M
  go_enter Tryd.func8, Tryd.ntmps8
  go_wp2_with fail
  refine H1.out.mono ?_; rintro e w1 ⟨rfl, hb1⟩
  have HB1 := Lib.hid hb1
  clear hb1 H1
  go_wp2_with fail
  refine (H2.out _).mono ?_; rintro e w2 ⟨rfl, hb2⟩
  have HB2 := Lib.hid (HB1.out.trans (hb2.mono HB1.out.size))
  have HM2 := Lib.hid (HM.out.below HB2.out)
  clear hb2 H2 HB1 HM wD hDb t1 t2
  go_wp2_with fail
  go_loop [6, 9] (fun dv yv => ∃ (y : Int) (d : Nat), yv = .int .i64 y ∧ dv = .int .i64 (d : Int) ∧ Y ≤ y ∧ y < Y + 400 ∧ d < 146097 ∧ Hid (begY y + (d : Int) = D)) (fun dv _ => (intOf dv).toNat)
  case atStart => exact ⟨Y, e0, rfl, rfl, by omega, by omega, heb, HS.out⟩
  case round =>
    obtain ⟨y, d0, rfl, rfl, hy1, hy2, hd0, HI⟩ := hrel
    have HLp := Lib.hid fun W => daysOfYear_any y W
    have HNy : Hid (begY (y + 1) = begY y + 365 + leapN y) := begY_next y
    obtain ⟨n, hn⟩ : ∃ n : Nat, 365 + leapN y = (n : Int) := ⟨(365 + leapN y).toNat, by have := leapN_bd y; omega⟩
    have hn6 : n ≤ 366 ∧ 365 ≤ n := by have := leapN_bd y; omega
    have HNn := Lib.hid hn
    rw [hn] at HLp
    clear hn
    go_wp2_with fail
    refine (HLp.out _).mono ?_; rintro e w' ⟨rfl, rfl⟩
    by_cases hdn : (n : Int) ≤ (d0 : Int)
    · have HI2 : Hid (begY (y + 1) + ((d0 - n : Nat) : Int) = D) := by
        unfold Hid; have h1 := HI.out; have h2 := HNy.out; have h3 := HNn.out; omega
      have hy3 : y + 1 < Y + 400 := by
        apply Classical.byContradiction
        intro h
        have h1 : y + 1 = Y + 400 := by omega
        have h2 := HI2.out
        have h3 := HT.out
        rw [h1] at h2
        omega
      go_wp2_with fail
      refine (HLp.out _).mono ?_; rintro e w' ⟨rfl, rfl⟩
      clear HLp HNy
      go_wp2_with fail
      go_round
      case rel => exact ⟨y + 1, d0 - n, by go_num, by go_num, by omega, hy3, by omega, HI2.out⟩
      case measure => simp [intOf]; omega
    · have hdn' : d0 < n := by omega
      have hd366 : d0 ≤ 366 := by omega
      have HDn : Hid (begM (leapN y) 13 = (n : Int) ∧ d0 < n) := ⟨by rw [begM_end]; exact HNn.out, by omega⟩
      clear HLp HNy
      have HLast : Hid (∀ j d : Nat, j ≤ 11 → begM (leapN y) ((j : Int) + 1) + (d : Int) = (d0 : Int) → ¬ (d : Int) < lenM (leapN y) ((j : Int) + 1) → j ≤ 10) := fun j d h1 h2 h3 => by
        apply Classical.byContradiction
        intro h4
        have h5 : j = 11 := by omega
        subst h5
        have h6 := begM_next (leapN y) (((11 : Nat) : Int) + 1) (by omega) (by omega)
        rw [show (((11 : Nat) : Int) + 1 + 1) = 13 by rfl, HDn.out.1] at h6
        have h7 := HDn.out.2
        omega
      have HNx : Hid (∀ (j d n : Nat), j ≤ 11 → begM (leapN y) ((j : Int) + 1) + (d : Int) = (d0 : Int) → lenM (leapN y) ((j : Int) + 1) = (n : Int) → n ≤ d → begM (leapN y) (((j + 1 : Nat) : Int) + 1) + ((d - n : Nat) : Int) = (d0 : Int)) := fun j d n h1 h2 h3 h4 => by
        have h6 := begM_next (leapN y) ((j : Int) + 1) (by omega) (by omega)
        rw [show ((j + 1 : Nat) : Int) + 1 = (j : Int) + 1 + 1 by omega, h6]
        omega
      have HAt : Hid (∀ (j d : Nat), j ≤ 11 → begM (leapN y) ((j : Int) + 1) + (d : Int) = (d0 : Int) → (d : Int) < lenM (leapN y) ((j : Int) + 1) → okD y ((j : Int) + 1) ((d : Int) + 1) ∧ dayN y ((j : Int) + 1) ((d : Int) + 1) = D) := fun j d h1 h2 h3 => ⟨⟨by omega, by omega, by omega, by omega⟩, by unfold dayN; have := HI.out; omega⟩
      have tdn : ¬ n ≤ d0 := by omega
      have tdn2 : decide (n ≤ d0) = false := decide_eq_false tdn
      have tdn3 : decide ((n : Int) ≤ (d0 : Int)) = false := decide_eq_false hdn
      clear HT HS HNn HDn hdn' hd366 hdn
      go_wp2_with fail
      go_loop [6, 10] (fun dv mv => ∃ j d : Nat, mv = .int .i64 ((j : Int) + 1) ∧ dv = .int .i64 (d : Int) ∧ j ≤ 11 ∧ d ≤ 400 ∧ Hid (begM (leapN y) ((j : Int) + 1) + (d : Int) = (d0 : Int))) (fun dv _ => (intOf dv).toNat)
      case atStart => exact ⟨0, d0, rfl, rfl, by omega, by omega, by unfold Hid; rw [show ((0 : Nat) : Int) + 1 = 1 by rfl, begM_one]; omega⟩
      case round =>
        obtain ⟨j, d, rfl, rfl, hj, hd, HJ⟩ := hrel
        have HMo := Lib.hid (daysOfMonth_any y j (by omega) _ HM2.out)
        obtain ⟨L, hL⟩ : ∃ L : Nat, lenM (leapN y) ((j : Int) + 1) = (L : Int) := ⟨(lenM (leapN y) ((j : Int) + 1)).toNat, by have := lenM_bd (leapN y) ((j : Int) + 1) (leapN_bd _); omega⟩
        have hLb : 28 ≤ L ∧ L ≤ 31 := by have := lenM_bd (leapN y) ((j : Int) + 1) (leapN_bd _); omega
        have HL := Lib.hid hL
        rw [hL] at HMo
        clear hL
        go_wp2_with fail
        refine HMo.out.mono ?_; rintro e w' ⟨rfl, rfl⟩
        by_cases hdl : (L : Int) ≤ (d : Int)
        · have hj10 := HLast.out j d hj HJ.out (by rw [HL.out]; omega)
          have HN1 := Lib.hid (HNx.out j d L hj HJ.out HL.out (by omega))
          go_wp2_with fail
          refine HMo.out.mono ?_; rintro e w' ⟨rfl, rfl⟩
          clear HMo HLast HNx HAt
          go_wp2_with fail
          go_round
          case rel => exact ⟨j + 1, d - L, by go_num, by go_num, by omega, by omega, HN1.out⟩
          case measure => simp [intOf]; omega
        · have HA1 := Lib.hid (HAt.out j d hj HJ.out (by rw [HL.out]; omega))
          clear HMo HLast HNx HAt
          go_wp2_with fail
          refine bodyPost_ret (v := .tuple #[.int .i64 y, .int .i64 ((j : Int) + 1), .int .i64 ((d : Int) + 1), .int .i64 0]) (by simp [results, Tryd.results8, go_sem, *]) rfl ?_
          exact ⟨_, _, _, rfl, HA1.out.1, HA1.out.2, HB2.out⟩
end Go.Proofs.YtdcbmjihpjnbbaaDoor
