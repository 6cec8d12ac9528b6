/- Package list: divide, isLeap, daysOfYear, daysOfMonth. -/
import Derived.Test.YtdcbmjihpjnbbaaDoorDayA
import Derived.Test.YtdcbmjihpjnbbaaDoorVar
import Derived.Lib.LaidTab
import Derived.Stop.LaidErr
import Derived.BigQuiet
import Derived.MakeChecks
set_option linter.unusedVariables false
set_option maxRecDepth 100000
namespace Go.Proofs.YtdcbmjihpjnbbaaDoor
open Go.RowKit
open Go.OpenShut
/-- the days of the months of a year that is no leap year -/
def monL : List Int := [31, 28, 31, 30, 31, 30, 31, 31, 30, 31, 30, 31]
theorem monL_is (j : Nat) (h : j < 12) : monL.getD j 0 = lenM 0 ((j : Int) + 1) := by
  rcases (show j = 0 ∨ j = 1 ∨ j = 2 ∨ j = 3 ∨ j = 4 ∨ j = 5 ∨ j = 6 ∨ j = 7 ∨ j = 8 ∨ j = 9 ∨ j = 10 ∨ j = 11 by omega) with rfl | rfl | rfl | rfl | rfl | rfl | rfl | rfl | rfl | rfl | rfl | rfl <;> rfl
/-- the table of the months' days -/
def Months (w : World) : Prop := Lib.TabIs Tryd.prog w "creel/list.monthDays" .i64 monL
theorem gMon_is : Tryd.prog.globalNamed "creel/list.monthDays" = some 1 := by kernel_rfl
theorem Months.below {w w' : World} (h : Months w) (hb : Below w.heap.size w w') : Months w' := var_below gMon_is h hb
theorem mon_laid : (Rows.laid_creel_list_monthDays : DataW Unit) = Lib.tabData .i64 monL := by kernel_rfl
theorem mon_mem {P : Program} {l : List (String × DataW Unit)} {w : World} {x : String × DataW Unit} (h : laidMet P l w) (hm : x ∈ l) : ∃ r, laidMet P (x :: r) w := by
  induction l with
  | nil => cases hm
  | cons y l ih =>
    rcases List.mem_cons.1 hm with rfl | hm
    · exact ⟨l, h⟩
    · exact ih h.tail hm
theorem mon_of_laid {l : List (String × DataW Unit)} {w : World} (h : laidMetH Tryd.prog l w) (hp : (l.all fun x => x.2.handleName?.isNone) = true) (hm : ("creel/list.monthDays", Rows.laid_creel_list_monthDays) ∈ l) : Months w := by
  rw [MakeChecks.laidMetH_plain _ _ _ hp] at h
  obtain ⟨r, hr⟩ := mon_mem h hm
  rw [mon_laid] at hr
  exact Lib.tabIs_of_head gMon_is (by kernel_rfl) Tryd.underlying61 Tryd.underlying3 (by kernel_rfl) (by kernel_rfl) hr
theorem Months.at {w : World} (h : Months w) (j : Nat) (hj : j < 12) : w.cell? ⟨1, j, none⟩ = some (.int .i64 (lenM 0 ((j : Int) + 1))) := by
  have := Lib.TabIs.cell h gMon_is j (by show j < 12; exact hj)
  rw [this, monL_is j hj]
theorem divide_day (n : Int) (h1 : -10000000000000 ≤ n) (h2 : n ≤ 10000000000000) (w : World) :
    Calls Tryd.prog 19 #[.int .i64 n, .int .i64 86400] w fun e w' => e = .returned (.tuple #[.int .i64 (n / 86400), .int .i64 (n % 86400)]) ∧ Below w.heap.size w w' := by
  obtain ⟨t, ht⟩ : ∃ t, n.tdiv 86400 = t := ⟨_, rfl⟩
  obtain ⟨r, hr⟩ : ∃ r, n.tmod 86400 = r := ⟨_, rfl⟩
  have H : Hid ((r < 0 → t - 1 = n / 86400 ∧ r + 86400 = n % 86400) ∧ (¬ r < 0 → t = n / 86400 ∧ r = n % 86400)) := by
    unfold Hid
    rw [← ht, ← hr]
    by_cases h : 0 ≤ n
    · rw [tmod_pos h, tdiv_pos h]; omega
    · rw [tmod_neg (by omega), tdiv_neg (by omega)]; omega
  have hb : (-10000000000000 ≤ t ∧ t ≤ 10000000000000) ∧ (-86400 < r ∧ r < 86400) := by
    rw [← ht, ← hr]
    by_cases h : 0 ≤ n
    · rw [tmod_pos h, tdiv_pos h]; omega
    · rw [tmod_neg (by omega), tdiv_neg (by omega)]; omega
  obtain ⟨⟨b1, b2⟩, b3, b4⟩ := hb
  have wt : IntKind.i64.wrap t = t := by rw [IntKind.wrap_i64]; omega
  have w1 : IntKind.i64.wrap (t - 1) = t - 1 := by rw [IntKind.wrap_i64]; omega
  have w2 : IntKind.i64.wrap (r + 86400) = r + 86400 := by rw [IntKind.wrap_i64]; omega
  obtain ⟨q, hq⟩ := hid_name (n / 86400)
  obtain ⟨m, hm⟩ := hid_name (n % 86400)
  rw [hq.out, hm.out] at H ⊢
  clear h1 h2 hq hm
  by_cases h : r < 0
  · have HV := Lib.hid (H.out.1 h)
    clear H
    go_enter Tryd.func19, Tryd.ntmps19
    go_wp2_with go_quiet (fail)
    refine bodyPost_ret (v := .tuple #[.int .i64 (t - 1), .int .i64 (r + 86400)]) (by simp [results, Tryd.results19, go_sem, *]) rfl ?_
    exact ⟨by rw [HV.out.1, HV.out.2], below_drewN (Below.refl _ _) _⟩
  · have HV := Lib.hid (H.out.2 h)
    clear H
    go_enter Tryd.func19, Tryd.ntmps19
    go_wp2_with go_quiet (fail)
    refine bodyPost_ret (v := .tuple #[.int .i64 t, .int .i64 r]) (by simp [results, Tryd.results19, go_sem, *]) rfl ?_
    exact ⟨by rw [HV.out.1, HV.out.2], below_drewN (Below.refl _ _) _⟩
theorem divide_cyc (n : Int) (h1 : -10000000000000 ≤ n) (h2 : n ≤ 10000000000000) (w : World) :
    Calls Tryd.prog 19 #[.int .i64 n, .int .i64 146097] w fun e w' => e = .returned (.tuple #[.int .i64 (n / 146097), .int .i64 (n % 146097)]) ∧ Below w.heap.size w w' := by
  obtain ⟨t, ht⟩ : ∃ t, n.tdiv 146097 = t := ⟨_, rfl⟩
  obtain ⟨r, hr⟩ : ∃ r, n.tmod 146097 = r := ⟨_, rfl⟩
  have H : Hid ((r < 0 → t - 1 = n / 146097 ∧ r + 146097 = n % 146097) ∧ (¬ r < 0 → t = n / 146097 ∧ r = n % 146097)) := by
    unfold Hid
    rw [← ht, ← hr]
    by_cases h : 0 ≤ n
    · rw [tmod_pos h, tdiv_pos h]; omega
    · rw [tmod_neg (by omega), tdiv_neg (by omega)]; omega
  have hb : (-10000000000000 ≤ t ∧ t ≤ 10000000000000) ∧ (-146097 < r ∧ r < 146097) := by
    rw [← ht, ← hr]
    by_cases h : 0 ≤ n
    · rw [tmod_pos h, tdiv_pos h]; omega
    · rw [tmod_neg (by omega), tdiv_neg (by omega)]; omega
  obtain ⟨⟨b1, b2⟩, b3, b4⟩ := hb
  have wt : IntKind.i64.wrap t = t := by rw [IntKind.wrap_i64]; omega
  have w1 : IntKind.i64.wrap (t - 1) = t - 1 := by rw [IntKind.wrap_i64]; omega
  have w2 : IntKind.i64.wrap (r + 146097) = r + 146097 := by rw [IntKind.wrap_i64]; omega
  obtain ⟨q, hq⟩ := hid_name (n / 146097)
  obtain ⟨m, hm⟩ := hid_name (n % 146097)
  rw [hq.out, hm.out] at H ⊢
  clear h1 h2 hq hm
  by_cases h : r < 0
  · have HV := Lib.hid (H.out.1 h)
    clear H
    go_enter Tryd.func19, Tryd.ntmps19
    go_wp2_with go_quiet (fail)
    refine bodyPost_ret (v := .tuple #[.int .i64 (t - 1), .int .i64 (r + 146097)]) (by simp [results, Tryd.results19, go_sem, *]) rfl ?_
    exact ⟨by rw [HV.out.1, HV.out.2], below_drewN (Below.refl _ _) _⟩
  · have HV := Lib.hid (H.out.2 h)
    clear H
    go_enter Tryd.func19, Tryd.ntmps19
    go_wp2_with go_quiet (fail)
    refine bodyPost_ret (v := .tuple #[.int .i64 t, .int .i64 r]) (by simp [results, Tryd.results19, go_sem, *]) rfl ?_
    exact ⟨by rw [HV.out.1, HV.out.2], below_drewN (Below.refl _ _) _⟩
theorem mod_zero (y n : Int) : ((y.tmod n == 0) = true) ↔ y % n = 0 := by
  rw [beq_iff_eq]
  constructor
  · intro h; exact Int.emod_eq_zero_of_dvd (Int.dvd_of_tmod_eq_zero h)
  · intro h; exact Int.tmod_eq_zero_of_dvd (Int.dvd_of_emod_eq_zero h)
theorem isLeap_any (y : Int) (w : World) : Calls Tryd.prog 44 #[.int .i64 y] w fun e w' => e = .returned (.bool (leapY y)) ∧ w = w' := by
  have e4 := mod_zero y 4
  have e100 := mod_zero y 100
  have e400 := mod_zero y 400
  have HV := leapY_iff y
  rw [← e4, ← e400] at HV
  obtain ⟨a, ha⟩ : ∃ a, y.tmod 4 = a := ⟨_, rfl⟩
  obtain ⟨b, hb⟩ : ∃ b, y.tmod 100 = b := ⟨_, rfl⟩
  obtain ⟨c, hc⟩ : ∃ c, y.tmod 400 = c := ⟨_, rfl⟩
  rw [ha] at e4 HV
  rw [hb] at e100
  rw [hc] at e400 HV
  obtain ⟨L, HL⟩ := hid_name (leapY y)
  rw [HL.out] at HV ⊢
  clear HL
  cases h4 : (a == 0) with
  | false =>
    rw [h4] at HV
    have HX : Hid (L = false) := by
      unfold Hid
      cases L with
      | false => rfl
      | true => have := (HV.1 rfl).1; cases this
    clear HV e4 e100 e400
    go_enter Tryd.func44, Tryd.ntmps44
    go_wp2_with fail
    go_ret
    exact ⟨ret_bool HX.out.symm, rfl⟩
  | true =>
    cases h100 : (b == 0) with
    | false =>
      have t2 : (b != 0) = true := by rw [bne, h100]; rfl
      have HX : Hid (L = true) := HV.2 ⟨h4, .inl (fun e => by have := e100.2 e; rw [h100] at this; cases this)⟩
      clear HV e4 e100 e400
      go_enter Tryd.func44, Tryd.ntmps44
      go_wp2_with fail
      go_ret
      exact ⟨ret_bool HX.out.symm, rfl⟩
    | true =>
      have t2 : (b != 0) = false := by rw [bne, h100]; rfl
      have h1 := e100.1 h100
      have HX : Hid (L = (c == 0)) := by
        unfold Hid
        rw [Bool.eq_iff_iff, HV]
        exact ⟨fun h => h.2.resolve_left (fun e => e h1), fun h => ⟨h4, .inr h⟩⟩
      clear HV e4 e100 e400 h1
      go_enter Tryd.func44, Tryd.ntmps44
      go_wp2_with fail
      go_ret
      exact ⟨ret_bool HX.out.symm, rfl⟩
theorem daysOfYear_any (y : Int) (w : World) : Calls Tryd.prog 20 #[.int .i64 y] w fun e w' => e = .returned (.int .i64 (365 + leapN y)) ∧ w = w' := by
  have H := Lib.hid (isLeap_any y w)
  have HN : Hid (leapN y = if leapY y = true then 1 else 0) := rfl
  generalize leapN y = N at HN ⊢
  generalize leapY y = L at H HN
  cases L with
  | true =>
    rw [if_pos rfl] at HN
    go_enter Tryd.func20, Tryd.ntmps20
    go_wp2_with fail
    refine H.out.mono ?_; rintro e w1 ⟨rfl, rfl⟩
    go_wp2_with fail
    go_ret
    exact ⟨ret_int (by rw [HN.out]; rfl), rfl⟩
  | false =>
    rw [if_neg (by simp)] at HN
    go_enter Tryd.func20, Tryd.ntmps20
    go_wp2_with fail
    refine H.out.mono ?_; rintro e w1 ⟨rfl, rfl⟩
    go_wp2_with fail
    go_ret
    exact ⟨ret_int (by rw [HN.out]; rfl), rfl⟩
theorem daysOfMonth_any (y : Int) (j : Nat) (hj : j < 12) (w : World) (M : Months w) :
    Calls Tryd.prog 21 #[.int .i64 y, .int .i64 ((j : Int) + 1)] w fun e w' => e = .returned (.int .i64 (lenM (leapN y) ((j : Int) + 1))) ∧ w = w' := by
  have H := Lib.hid (isLeap_any y w)
  have HN : Hid (leapN y = if leapY y = true then 1 else 0) := rfl
  have hc := M.at j hj
  have hb := lenM_bd 0 ((j : Int) + 1) (by omega)
  have hw1 : IntKind.i64.wrap ((j : Int) + 1 - 1) = (j : Int) := by rw [IntKind.wrap_i64]; omega
  have HL : Hid (lenM (leapN y) ((j : Int) + 1) = if j = 1 then 28 + leapN y else lenM 0 ((j : Int) + 1)) := by
    unfold Hid
    by_cases e : j = 1
    · subst e
      rw [if_pos rfl]
      rfl
    · have e2 : ¬ (j : Int) + 1 = 2 := by omega
      rw [if_neg e]
      unfold lenM
      rw [if_neg e2, if_neg e2]
  have HL1 : Hid (j = 1 → lenM 0 ((j : Int) + 1) = 28) := fun e => by subst e; rfl
  clear M
  generalize leapN y = N at HN HL ⊢
  generalize leapY y = L at H HN
  obtain ⟨R, HR⟩ := hid_name (lenM N ((j : Int) + 1))
  rw [HR.out] at HL ⊢
  obtain ⟨l, hl⟩ := hid_name (lenM 0 ((j : Int) + 1))
  rw [hl.out] at HL HL1 hc hb
  clear HR hl
  by_cases hj1 : j = 1
  · have hj2 : (j : Int) + 1 = 2 := by omega
    have HL2 := Lib.hid (HL1.out hj1)
    rw [if_pos hj1] at HL
    clear HL1 hw1 hj
    rw [hj2]
    subst hj1
    clear hj2
    cases L with
    | true =>
      rw [if_pos rfl] at HN
      go_enter Tryd.func21, Tryd.ntmps21
      go_wp2_with fail
      refine H.out.mono ?_; rintro e w1 ⟨rfl, rfl⟩
      go_wp2_with fail
      go_ret
      exact ⟨ret_int (by rw [HL.out, HN.out, HL2.out]), rfl⟩
    | false =>
      rw [if_neg (by simp)] at HN
      go_enter Tryd.func21, Tryd.ntmps21
      go_wp2_with fail
      refine H.out.mono ?_; rintro e w1 ⟨rfl, rfl⟩
      go_wp2_with fail
      go_ret
      exact ⟨ret_int (by rw [HL.out, HN.out, HL2.out]; rfl), rfl⟩
  · have hj2 : ¬ (j : Int) + 1 = 2 := by omega
    rw [if_neg hj1] at HL
    go_enter Tryd.func21, Tryd.ntmps21
    go_wp2_with fail
    go_ret
    exact ⟨ret_int HL.out.symm, rfl⟩
end Go.Proofs.YtdcbmjihpjnbbaaDoor
