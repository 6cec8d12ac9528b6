/- The reference's dates: leap, DayOf. (Stage 20, ahead.) -/
import Derived.Test.YtdcbmjihpjnbbaaDoorMth
import Derived.Test.YtdcbmjihpjnbbaaDoorBlk
import Derived.Deep.DeepCutAuto
import Derived.Deep.CutBlock
import Derived.BigQuiet
set_option linter.unusedVariables false
set_option maxRecDepth 100000
namespace Go.Proofs.YtdcbmjihpjnbbaaDoor
open Go.RowKit
open Go.OpenShut
theorem tmod_pos {x n : Int} (h : 0 ≤ x) : x.tmod n = x % n := Int.tmod_eq_emod_of_nonneg h
theorem tmod_neg {x n : Int} (h : x < 0) : x.tmod n = -((-x) % n) := by rw [← Int.tmod_eq_emod_of_nonneg (by omega), Int.neg_tmod, Int.neg_neg]
theorem tdiv_pos {x n : Int} (h : 0 ≤ x) : x.tdiv n = x / n := Int.tdiv_eq_ediv_of_nonneg h
theorem tdiv_neg {x n : Int} (h : x < 0) : x.tdiv n = -((-x) / n) := by rw [← Int.tdiv_eq_ediv_of_nonneg (by omega), Int.neg_tdiv, Int.neg_neg]
theorem sec_left (x : Int) : (x.tmod 86400 + 86400).tmod 86400 = x % 86400 := by
  by_cases h : 0 ≤ x
  · have h1 := tmod_pos (n := 86400) h
    rw [h1, tmod_pos (by omega)]; omega
  · have h1 := tmod_neg (x := x) (n := 86400) (by omega)
    rw [h1, tmod_pos (by omega)]; omega
theorem sec_day (x : Int) : (x - x % 86400).tdiv 86400 = x / 86400 := by
  by_cases h : 0 ≤ x - x % 86400
  · rw [tdiv_pos h]; omega
  · rw [tdiv_neg (by omega)]; omega
theorem day_rem (D : Int) : (D.tmod 146097 < 0 ∧ D.tdiv 146097 - 1 = D / 146097) ∨ (¬ D.tmod 146097 < 0 ∧ D.tdiv 146097 = D / 146097) := by
  by_cases h : 0 ≤ D
  · rw [tmod_pos h, tdiv_pos h]; omega
  · rw [tmod_neg (by omega), tdiv_neg (by omega)]; omega
theorem rLeap_any (y : Nat) (hy : y ≤ 1000000) (w : World) : Calls Tryd.prog 22 #[.int .i64 (y : Int)] w fun e w' => e = .returned (.bool (leapY (y : Int))) ∧ w = w' := by
  have e4 : Int.tmod (y : Int) 4 = ((y % 4 : Nat) : Int) := by rw [tmod_pos (by omega)]; omega
  have e100 : Int.tmod (y : Int) 100 = ((y % 100 : Nat) : Int) := by rw [tmod_pos (by omega)]; omega
  have e400 : Int.tmod (y : Int) 400 = ((y % 400 : Nat) : Int) := by rw [tmod_pos (by omega)]; omega
  have HV : Hid (leapY (y : Int) = (decide (y % 4 = 0) && (decide (¬ y % 100 = 0) || decide (y % 400 = 0)))) := by
    unfold Hid
    rw [Bool.eq_iff_iff, leapY_iff]
    simp only [Bool.and_eq_true, Bool.or_eq_true, decide_eq_true_eq]
    omega
  obtain ⟨a, ha⟩ : ∃ a, y % 4 = a := ⟨_, rfl⟩
  obtain ⟨b, hb⟩ : ∃ b, y % 100 = b := ⟨_, rfl⟩
  obtain ⟨c, hc⟩ : ∃ c, y % 400 = c := ⟨_, rfl⟩
  rw [ha] at e4 HV
  rw [hb] at e100 HV
  rw [hc] at e400 HV
  clear ha hb hc
  by_cases h4 : a = 0
  · by_cases h100 : b = 0
    · have t1 : ((a : Int) == 0) = true := by simpa using h4
      have t2 : ((b : Int) != 0) = false := by simpa using h100
      have HX : Hid (leapY (y : Int) = ((c : Int) == 0)) := by
        unfold Hid
        rw [HV.out, decide_eq_true h4, decide_eq_false (by simpa using h100), Bool.true_and, Bool.false_or, Bool.eq_iff_iff]
        simp
      clear h4 h100 HV
      go_enter Tryd.func22, Tryd.ntmps22
      go_wp2_with fail
      go_ret
      exact ⟨ret_bool HX.out.symm, rfl⟩
    · have t1 : ((a : Int) == 0) = true := by simpa using h4
      have t2 : ((b : Int) != 0) = true := by simpa using h100
      have HX : Hid (leapY (y : Int) = true) := by
        unfold Hid
        rw [HV.out, decide_eq_true h4, decide_eq_true h100]; rfl
      clear h4 h100 HV
      go_enter Tryd.func22, Tryd.ntmps22
      go_wp2_with fail
      go_ret
      exact ⟨ret_bool HX.out.symm, rfl⟩
  · have t1 : ((a : Int) == 0) = false := by simpa using h4
    have HX : Hid (leapY (y : Int) = false) := by
      unfold Hid
      rw [HV.out, decide_eq_false h4]; rfl
    clear h4 HV
    go_enter Tryd.func22, Tryd.ntmps22
    go_wp2_with fail
    go_ret
    exact ⟨ret_bool HX.out.symm, rfl⟩
theorem begY_rounds (y k : Int) : begY (y + 400 * k) = begY y + 146097 * k := by
  unfold begY
  omega
theorem leapN_rounds (y k : Int) : leapN (y + 400 * k) = leapN y := by
  rcases leapN_cases y with ⟨e, h⟩ | ⟨e, h⟩ <;> rcases leapN_cases (y + 400 * k) with ⟨e2, h2⟩ | ⟨e2, h2⟩ <;> omega
theorem date_at {D y m d k : Int} (h1 : 1 ≤ m) (h2 : m ≤ 12) (h3 : 0 ≤ d) (h4 : d < lenM (leapN y) m) (h : begY y + begM (leapN y) m + d = D - 146097 * k) : okD (y + 400 * k) m (d + 1) ∧ dayN (y + 400 * k) m (d + 1) = D := by
  refine ⟨⟨h1, h2, by omega, by rw [leapN_rounds]; omega⟩, ?_⟩
  unfold dayN
  rw [begY_rounds, leapN_rounds]; omega
set_option maxHeartbeats 8000000 in
theorem rDay_yes (s : Int) (h1 : -1099511627776 ≤ s) (h2 : s ≤ 1099511627776) (w : World) :
    Calls Tryd.prog 9 #[.int .i64 s] w fun e w' => ∃ y m d : Int, e = .returned (.tuple #[.int .i64 y, .int .i64 m, .int .i64 d, .int .i64 0]) ∧ okD y m d ∧ dayN y m d = s / 86400 ∧ Below w.heap.size w w' := by
  have t1 : ¬ s < -1099511627776 := by omega
  have t2 : ¬ 1099511627776 < s := by omega
  -- the day
  obtain ⟨D, hD⟩ : ∃ D, s / 86400 = D := ⟨_, rfl⟩
  have hDb : -12725830 ≤ D ∧ D ≤ 12725830 := by omega
  obtain ⟨r, hr⟩ : ∃ r, s.tmod 86400 = r := ⟨_, rfl⟩
  obtain ⟨l, hl⟩ : ∃ l, (r + 86400).tmod 86400 = l := ⟨_, rfl⟩
  have hrb : -86400 < r ∧ r < 86400 := by
    rw [← hr]
    by_cases h : 0 ≤ s
    · rw [tmod_pos h]; omega
    · rw [tmod_neg (by omega)]; omega
  have hlv : l = s % 86400 := by rw [← hl, ← hr]; exact sec_left s
  have hq : (s - l).tdiv 86400 = D := by rw [hlv, sec_day, hD]
  have hlb : 0 ≤ l ∧ l < 86400 := by rw [hlv]; omega
  have w1 : IntKind.i64.wrap (r + 86400) = r + 86400 := by rw [IntKind.wrap_i64]; omega
  have w2 : IntKind.i64.wrap (s - l) = s - l := by rw [IntKind.wrap_i64]; omega
  -- the rounds
  obtain ⟨k, hk⟩ : ∃ k, D / 146097 = k := ⟨_, rfl⟩
  have hkb : -100 ≤ k ∧ k ≤ 100 := by omega
  obtain ⟨e0, he0⟩ : ∃ e0 : Nat, D - 146097 * k = (e0 : Int) := ⟨(D - 146097 * k).toNat, by omega⟩
  have heb : e0 < 146097 := by omega
  have HE0 := Lib.hid he0
  obtain ⟨K, hK⟩ : ∃ K, 146097 * k = K := ⟨_, rfl⟩
  have w4 : IntKind.i64.wrap (146097 * k) = K := by rw [IntKind.wrap_i64]; omega
  have w5 : IntKind.i64.wrap (D - K) = (e0 : Int) := by rw [IntKind.wrap_i64]; omega
  have wD : IntKind.i64.wrap D = D := by rw [IntKind.wrap_i64]; omega
  have HDv := Lib.hid hD
  have hrem := day_rem D
  obtain ⟨q0, hq0⟩ : ∃ q0, D.tdiv 146097 = q0 := ⟨_, rfl⟩
  obtain ⟨m0, hm0⟩ : ∃ m0, D.tmod 146097 = m0 := ⟨_, rfl⟩
  rw [hq0, hm0, hk] at hrem
  have w3 : IntKind.i64.wrap (q0 - 1) = q0 - 1 := by rw [IntKind.wrap_i64]; omega
  have wq : IntKind.i64.wrap q0 = q0 := by rw [IntKind.wrap_i64]; omega
  have hmul : 400 * k ≤ 40000 ∧ -40000 ≤ 400 * k := by omega
  obtain ⟨bb, hbb⟩ : ∃ bb : Bool, decide (m0 < 0) = bb := ⟨_, rfl⟩
  have HR : Hid ((bb = true → q0 - 1 = k) ∧ (bb = false → q0 = k)) := by
    subst hbb
    refine ⟨fun h => ?_, fun h => ?_⟩
    · have h := of_decide_eq_true h; omega
    · have h := of_decide_eq_false h; omega
  clear hlv hrb hk hD hDb hrem he0 hK
  go_enter Tryd.func9, Tryd.ntmps9
  go_upto_if 29 with fail
  go_cut [7] (fun v wx => v = .int .i64 k ∧ w = wx)
  case first =>
    have h := HR.out
    cases bb with
    | true =>
      have h1 := h.1 rfl
      have w6 : IntKind.i64.wrap (q0 - 1) = k := by rw [w3]; exact h1
      clear h h1 hbb w3
      go_wp2_with fail
      go_meet
      exact ⟨rfl, rfl⟩
    | false =>
      have h1 := h.2 rfl
      clear h hbb
      go_wp2_with fail
      go_meet
      exact ⟨rfl, rfl⟩
  case rest =>
    obtain ⟨rfl, rfl⟩ := hcut
    clear hbb HR w3 wq hq0 hm0 w1 w2 hlb hr hl hq
    go_wp2_with fail
    go_loop [6, 8] (fun dv yv => ∃ y d : Nat, yv = .int .i64 (y : Int) ∧ dv = .int .i64 (d : Int) ∧ 1970 ≤ y ∧ y ≤ 2400 ∧ d < 146097 ∧ Hid (begY (y : Int) + (d : Int) = (e0 : Int))) (fun dv _ => (intOf dv).toNat)
    case atStart => exact ⟨1970, e0, rfl, rfl, by omega, by omega, heb, by unfold Hid; rw [show ((1970 : Nat) : Int) = 1970 by rfl, begY_1970]; omega⟩
    case round =>
      obtain ⟨y, d0, rfl, rfl, hy1, hy2, hd0, HI⟩ := hrel
      have HLp := Lib.hid fun W => rLeap_any y (by omega) W
      obtain ⟨b, hb⟩ : ∃ b, leapY (y : Int) = b := ⟨_, rfl⟩
      have HbE := Lib.hid hb
      rw [hb] at HLp
      have HX : Hid (leapN (y : Int) = if b = true then 1 else 0) := by unfold Hid leapN; rw [hb]
      have HNy : Hid (begY ((y + 1 : Nat) : Int) = begY (y : Int) + 365 + leapN (y : Int)) := by
        unfold Hid; rw [show ((y + 1 : Nat) : Int) = (y : Int) + 1 by omega]; exact begY_next _
      obtain ⟨n, hn⟩ : ∃ n : Nat, 365 + leapN (y : Int) = (n : Int) := ⟨(365 + leapN (y : Int)).toNat, by have := leapN_bd (y : Int); omega⟩
      have hn6 : n ≤ 366 ∧ 365 ≤ n := by have := leapN_bd (y : Int); omega
      have HNn := Lib.hid hn
      clear hb hn
      go_wp2_with fail
      refine (HLp.out _).mono ?_; rintro e w' ⟨rfl, rfl⟩
      go_upto_if 37 with fail
      go_cut [9] (fun nv wx => nv = .int .i64 (n : Int) ∧ w = wx)
      case first =>
        have hx := HX.out
        cases b with
        | true =>
          rw [if_pos rfl] at hx
          have HX1 := Lib.hid hx
          clear hx
          go_wp2_with fail
          go_meet
          exact ⟨by rw [← HNn.out, HX1.out]; rfl, rfl⟩
        | false =>
          rw [if_neg (by simp)] at hx
          have HX1 := Lib.hid hx
          clear hx
          go_wp2_with fail
          go_meet
          exact ⟨by rw [← HNn.out, HX1.out]; rfl, rfl⟩
      case rest =>
        obtain ⟨rfl, rfl⟩ := hcut
        by_cases hdn : (d0 : Int) < (n : Int)
        · have hd366 : d0 ≤ 366 := by omega
          have HDn : Hid (begM (leapN (y : Int)) 13 = (n : Int) ∧ d0 < n) := ⟨by rw [begM_end]; exact HNn.out, by omega⟩
          clear HLp HNy
          have HLast : Hid (∀ j d : Nat, j ≤ 11 → begM (leapN (y : Int)) ((j : Int) + 1) + (d : Int) = (d0 : Int) → ¬ (d : Int) < lenM (leapN (y : Int)) ((j : Int) + 1) → j ≤ 10) := fun j d h1 h2 h3 => by
            apply Classical.byContradiction
            intro h4
            have h5 : j = 11 := by omega
            subst h5
            have h6 := begM_next (leapN (y : Int)) (((11 : Nat) : Int) + 1) (by omega) (by omega)
            rw [show (((11 : Nat) : Int) + 1 + 1) = 13 by rfl, HDn.out.1] at h6
            have h7 := HDn.out.2
            omega
          have HNx : Hid (∀ (j d n : Nat), j ≤ 11 → begM (leapN (y : Int)) ((j : Int) + 1) + (d : Int) = (d0 : Int) → lenM (leapN (y : Int)) ((j : Int) + 1) = (n : Int) → n ≤ d → begM (leapN (y : Int)) (((j + 1 : Nat) : Int) + 1) + ((d - n : Nat) : Int) = (d0 : Int)) := fun j d n h1 h2 h3 h4 => by
            have h6 := begM_next (leapN (y : Int)) ((j : Int) + 1) (by omega) (by omega)
            rw [show ((j + 1 : Nat) : Int) + 1 = (j : Int) + 1 + 1 by omega, h6]
            omega
          have HAt : Hid (∀ (j d : Nat), j ≤ 11 → begM (leapN (y : Int)) ((j : Int) + 1) + (d : Int) = (d0 : Int) → (d : Int) < lenM (leapN (y : Int)) ((j : Int) + 1) → okD ((y : Int) + 400 * k) ((j : Int) + 1) ((d : Int) + 1) ∧ dayN ((y : Int) + 400 * k) ((j : Int) + 1) ((d : Int) + 1) = D) := fun j d h1 h2 h3 => date_at (by omega) (by omega) (by omega) h3 (by have := HI.out; have := HE0.out; omega)
          go_wp2_with fail
          go_loopw [6, 10] (fun dv mv wr => ∃ j d : Nat, mv = .int .i64 ((j : Int) + 1) ∧ dv = .int .i64 (d : Int) ∧ j ≤ 11 ∧ d ≤ 400 ∧ Hid (begM (leapN (y : Int)) ((j : Int) + 1) + (d : Int) = (d0 : Int)) ∧ Hid (Below w.heap.size w wr)) (fun dv _ _ => (intOf dv).toNat)
          case atStart => exact ⟨0, d0, rfl, rfl, by omega, by omega, by unfold Hid; rw [show ((0 : Nat) : Int) + 1 = 1 by rfl, begM_one]; omega, Below.refl _ _⟩
          case round =>
            obtain ⟨j, d, rfl, rfl, hj, hd, HJ, HB⟩ := hrel
            obtain ⟨L, hL⟩ : ∃ L : Nat, lenM (leapN (y : Int)) ((j : Int) + 1) = (L : Int) := ⟨(lenM (leapN (y : Int)) ((j : Int) + 1)).toNat, by have := lenM_bd (leapN (y : Int)) ((j : Int) + 1) (leapN_bd _); omega⟩
            have hLb : 28 ≤ L ∧ L ≤ 31 := by have := lenM_bd (leapN (y : Int)) ((j : Int) + 1) (leapN_bd _); omega
            have HL := Lib.hid hL
            have HLp2 := Lib.hid fun W => rLeap_any y (by omega) W
            rw [HbE.out] at HLp2
            have HXb : Hid (leapN (y : Int) = if b = true then 1 else 0) := HX.out
            obtain ⟨L0, hL0⟩ : ∃ L0 : Nat, lenM 0 ((j : Int) + 1) = (L0 : Int) := ⟨(lenM 0 ((j : Int) + 1)).toNat, by have := lenM_bd 0 ((j : Int) + 1) (by omega); omega⟩
            have hc : (wr.alloc (.cells #[.int .i64 31, .int .i64 28, .int .i64 31, .int .i64 30, .int .i64 31, .int .i64 30, .int .i64 31, .int .i64 31, .int .i64 30, .int .i64 31, .int .i64 30, .int .i64 31] 3)).cell? ⟨wr.heap.size, j, none⟩ = some (.int .i64 (L0 : Int)) := by
              rw [(Blk.new wr 3 #[.int .i64 31, .int .i64 28, .int .i64 31, .int .i64 30, .int .i64 31, .int .i64 30, .int .i64 31, .int .i64 31, .int .i64 30, .int .i64 31, .int .i64 30, .int .i64 31]).cell j, ← hL0]
              rcases (show j = 0 ∨ j = 1 ∨ j = 2 ∨ j = 3 ∨ j = 4 ∨ j = 5 ∨ j = 6 ∨ j = 7 ∨ j = 8 ∨ j = 9 ∨ j = 10 ∨ j = 11 by omega) with rfl | rfl | rfl | rfl | rfl | rfl | rfl | rfl | rfl | rfl | rfl | rfl <;> rfl
            have HBa : Hid (Below w.heap.size w (wr.alloc (.cells #[.int .i64 31, .int .i64 28, .int .i64 31, .int .i64 30, .int .i64 31, .int .i64 30, .int .i64 31, .int .i64 31, .int .i64 30, .int .i64 31, .int .i64 30, .int .i64 31] 3))) := HB.out.alloc HB.out.size _
            have hw1 : IntKind.i64.wrap ((j : Int) + 1 - 1) = (j : Int) := by rw [IntKind.wrap_i64]; omega
            have hst : (L0 : Int) ≤ 31 := by have := lenM_bd 0 ((j : Int) + 1) (by omega); omega
            have HLv : Hid ((L : Int) = if j = 1 then 28 + leapN (y : Int) else (L0 : Int)) := by
              unfold Hid
              rw [← hL, ← hL0]
              by_cases e : j = 1
              · subst e
                rw [if_pos rfl, show ((1 : Nat) : Int) + 1 = 2 by rfl]
                rfl
              · have e2 : ¬ (j : Int) + 1 = 2 := by omega
                rw [if_neg e]
                unfold lenM
                rw [if_neg e2, if_neg e2]
            have HL0 : Hid (j = 1 → (L0 : Int) = 28) := fun e => by rw [← hL0]; subst e; rfl
            clear hL hL0
            go_upto_region 17 with fail
            generalize wr.alloc (.cells #[.int .i64 31, .int .i64 28, .int .i64 31, .int .i64 30, .int .i64 31, .int .i64 30, .int .i64 31, .int .i64 31, .int .i64 30, .int .i64 31, .int .i64 30, .int .i64 31] 3) = wa at HBa ⊢
            by_cases hj1 : j = 1
            · have hj2 : (j : Int) + 1 = 2 := by omega
              have hLx := HLv.out
              rw [if_pos hj1] at hLx
              have hx := HXb.out
              clear HLv
              go_wp2_with fail
              refine (HLp2.out _).mono ?_; rintro e w' ⟨rfl, rfl⟩
              cases b with
              | true =>
                have HN : Hid ((L : Int) = 29) := by unfold Hid; rw [hLx, hx]; rfl
                clear hLx hx HLp2
                by_cases hdl : (d : Int) < (29 : Int)
                · have HA1 := Lib.hid (HAt.out j d hj HJ.out (by rw [HL.out]; have := HN.out; omega))
                  go_wp2_with fail
                  refine bodyPost_ret (v := .tuple #[.int .i64 ((y : Int) + 400 * k), .int .i64 ((j : Int) + 1), .int .i64 ((d : Int) + 1), .int .i64 0]) (by simp [results, Tryd.results9, go_sem, *]) rfl ?_
                  exact ⟨_, _, _, rfl, HA1.out.1, by rw [HA1.out.2, HDv.out], HBa.out⟩
                · have hj10 := HLast.out j d hj HJ.out (by rw [HL.out]; have := HN.out; omega)
                  have HN1 := Lib.hid (HNx.out j d L hj HJ.out HL.out (by have := HN.out; omega))
                  have hLn : (29 : Int) ≤ (d : Int) := by omega
                  have hLL := HN.out
                  go_wp2_with fail
                  go_roundw
                  case rel => exact ⟨j + 1, d - L, by go_num, by first | (subst hLL; go_num) | go_num, by omega, by omega, HN1.out, HBa.out⟩
                  case measure => simp [intOf]; omega
              | false =>
                have HN : Hid ((L : Int) = (L0 : Int)) := by unfold Hid; rw [hLx, hx]; have := HL0.out hj1; simp; omega
                clear hLx hx HLp2
                by_cases hdl : (d : Int) < (L0 : Int)
                · have HA1 := Lib.hid (HAt.out j d hj HJ.out (by rw [HL.out]; have := HN.out; omega))
                  go_wp2_with fail
                  refine bodyPost_ret (v := .tuple #[.int .i64 ((y : Int) + 400 * k), .int .i64 ((j : Int) + 1), .int .i64 ((d : Int) + 1), .int .i64 0]) (by simp [results, Tryd.results9, go_sem, *]) rfl ?_
                  exact ⟨_, _, _, rfl, HA1.out.1, by rw [HA1.out.2, HDv.out], HBa.out⟩
                · have hj10 := HLast.out j d hj HJ.out (by rw [HL.out]; have := HN.out; omega)
                  have HN1 := Lib.hid (HNx.out j d L hj HJ.out HL.out (by have := HN.out; omega))
                  have hLn : (L0 : Int) ≤ (d : Int) := by omega
                  have hLL := HN.out
                  go_wp2_with fail
                  go_roundw
                  case rel => exact ⟨j + 1, d - L, by go_num, by first | (subst hLL; go_num) | go_num, by omega, by omega, HN1.out, HBa.out⟩
                  case measure => simp [intOf]; omega
            · have hj2 : ¬ (j : Int) + 1 = 2 := by omega
              have HN : Hid ((L : Int) = (L0 : Int)) := by
                unfold Hid
                rw [HLv.out, if_neg hj1]
              clear HLv HLp2
              by_cases hdl : (d : Int) < (L0 : Int)
              · have HA1 := Lib.hid (HAt.out j d hj HJ.out (by rw [HL.out]; have := HN.out; omega))
                go_wp2_with fail
                refine bodyPost_ret (v := .tuple #[.int .i64 ((y : Int) + 400 * k), .int .i64 ((j : Int) + 1), .int .i64 ((d : Int) + 1), .int .i64 0]) (by simp [results, Tryd.results9, go_sem, *]) rfl ?_
                exact ⟨_, _, _, rfl, HA1.out.1, by rw [HA1.out.2, HDv.out], HBa.out⟩
              · have hj10 := HLast.out j d hj HJ.out (by rw [HL.out]; have := HN.out; omega)
                have HN1 := Lib.hid (HNx.out j d L hj HJ.out HL.out (by have := HN.out; omega))
                have hLn : (L0 : Int) ≤ (d : Int) := by omega
                have hLL := HN.out
                go_wp2_with fail
                go_roundw
                case rel => exact ⟨j + 1, d - L, by go_num, by first | (subst hLL; go_num) | go_num, by omega, by omega, HN1.out, HBa.out⟩
                case measure => simp [intOf]; omega
        · have hdn' : n ≤ d0 := by omega
          have HI2 : Hid (begY ((y + 1 : Nat) : Int) + ((d0 - n : Nat) : Int) = (e0 : Int)) := by
            unfold Hid; have h1 := HI.out; have h2 := HNy.out; have h3 := HNn.out; omega
          have hy3 : y + 1 ≤ 2400 := by
            have h1 := HI.out
            unfold begY at h1
            omega
          clear HLp HX HNy HDv
          go_wp2_with fail
          go_round
          case rel => exact ⟨y + 1, d0 - n, by go_num, by go_num, by omega, hy3, by omega, HI2.out⟩
          case measure => simp [intOf]; omega
end Go.Proofs.YtdcbmjihpjnbbaaDoor
