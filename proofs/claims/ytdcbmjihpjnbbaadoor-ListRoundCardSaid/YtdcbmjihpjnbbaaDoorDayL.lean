/- The laws ListDays, ListNext, ListRound. (Over list.Day's contract alone.) -/
import Derived.Test.YtdcbmjihpjnbbaaDoorDayP
import Derived.Test.YtdcbmjihpjnbbaaDoorOctA
set_option linter.unusedVariables false
set_option maxRecDepth 100000
namespace Go.Proofs.YtdcbmjihpjnbbaaDoor
open Go.RowKit
open Go.OpenShut
theorem ListDays_walk (a0 : Int) (w0 : (Lit.int .i64 a0).wf = true) (w : World) (hL : laidMetH Tryd.prog Rows.listDaysRow.laid w) :
    Calls Tryd.prog 3 #[.int .i64 a0] w fun e w' => e = .returned (.bool true) ∧ Below w.heap.size w w' := by
  have M : Months w := mon_of_laid hL (by kernel_rfl) (by simp [Rows.listDaysRow])
  clear hL
  by_cases h : a0 < -1099511627776 ∨ 1099511627776 < a0
  · have H1 := Lib.hid (lDay_no a0 w0 h w)
    have H2 := Lib.hid fun W => rDay_no a0 w0 h W
    clear w0 h M
    go_enter Tryd.func3, Tryd.ntmps3
    go_wp2_with fail
    refine H1.out.mono ?_; rintro e x1 ⟨rfl, hb⟩
    have HB1 := Lib.hid hb
    clear hb
    go_wp2_with fail
    refine (H2.out _).mono ?_; rintro e x2 ⟨rfl, rfl⟩
    go_wp2_with fail
    go_ret
    exact ⟨rfl, HB1.out⟩
  · have H1 := Lib.hid (lDay_yes a0 (by omega) (by omega) w M)
    have H2 := Lib.hid fun W => rDay_yes a0 (by omega) (by omega) W
    clear w0 h M
    go_enter Tryd.func3, Tryd.ntmps3
    go_wp2_with fail
    refine H1.out.mono ?_; rintro e x1 ⟨y, m, d, rfl, hok, hd, hb⟩
    have HB1 := Lib.hid hb
    have HO := Lib.hid (And.intro hok hd)
    clear hb hok hd
    go_wp2_with fail
    refine (H2.out _).mono ?_; rintro e x2 ⟨y', m', d', rfl, hok, hd, hb⟩
    obtain ⟨rfl, rfl, rfl⟩ := date_one hok HO.out.1 (hd.trans HO.out.2.symm)
    have HB2 := Lib.hid (HB1.out.trans (hb.mono HB1.out.size))
    clear hb hok hd
    go_wp2_with fail
    go_ret
    exact ⟨rfl, HB2.out⟩
set_option maxHeartbeats 2000000 in
theorem ListNext_walk (a0 : Int) (w0 : (Lit.int .i64 a0).wf = true) (w : World) (hL : laidMetH Tryd.prog Rows.listNextRow.laid w) :
    Calls Tryd.prog 5 #[.int .i64 a0] w fun e w' => e = .returned (.bool true) ∧ Below w.heap.size w w' := by
  have M : Months w := mon_of_laid hL (by kernel_rfl) (by simp [Rows.listNextRow])
  clear hL
  obtain ⟨p1, p2⟩ := pick_bd a0 2199023169152 (by omega)
  have HP := Lib.hid fun W => picked_any a0 2199023169152 W w0 (by omega)
  obtain ⟨p, hp⟩ : ∃ p, pick a0 2199023169152 = p := ⟨_, rfl⟩
  rw [hp] at HP p1 p2
  obtain ⟨s, hs⟩ : ∃ s, p - 1099511627776 = s := ⟨_, rfl⟩
  have w1 : IntKind.i64.wrap (p - 1099511627776) = s := by rw [IntKind.wrap_i64]; omega
  obtain ⟨s2, hs2⟩ : ∃ s2, s + 86400 = s2 := ⟨_, rfl⟩
  have w2 : IntKind.i64.wrap (s + 86400) = s2 := by rw [IntKind.wrap_i64]; omega
  have H1 := Lib.hid fun W TW => lDay_yes s (by omega) (by omega) W TW
  have H2 := Lib.hid fun W TW => lDay_yes s2 (by omega) (by omega) W TW
  have H3 := Lib.hid fun W TW => lDay_yes 0 (by omega) (by omega) W TW
  have HD : Hid (s2 / 86400 = s / 86400 + 1 ∧ -12725830 ≤ s / 86400 ∧ s / 86400 ≤ 12725830) := by unfold Hid; omega
  have HM := Lib.hid M
  clear hp hs hs2 p1 p2 w0 M
  go_enter Tryd.func5, Tryd.ntmps5
  go_wp2_with fail
  refine (HP.out _).mono ?_; rintro e x0 ⟨rfl, rfl⟩
  go_wp2_with fail
  refine (H1.out _ HM.out).mono ?_; rintro e x1 ⟨y, m, d, rfl, hok, hd, hb⟩
  have HB1 := Lib.hid hb
  have HO1 := Lib.hid (And.intro hok hd)
  clear hb hok hd
  go_wp2_with fail
  refine (H2.out _ (HM.out.below HB1.out)).mono ?_; rintro e x2 ⟨y', m', d', rfl, hok, hd, hb⟩
  have HB2 := Lib.hid (HB1.out.trans (hb.mono HB1.out.size))
  have hnx := date_next HO1.out.1 hok (by rw [hd, HO1.out.2]; exact HD.out.1)
  obtain ⟨hy1, hy2⟩ := okD_year HO1.out.1 (by rw [HO1.out.2]; exact HD.out.2.1) (by rw [HO1.out.2]; exact HD.out.2.2)
  obtain ⟨hm1, hm2, hd1, hd2⟩ := okD_bd HO1.out.1
  clear hb hok hd
  go_wp2_with fail
  refine (H3.out _ (HM.out.below HB2.out)).mono ?_; rintro e x3 ⟨z, m3, d3, rfl, hok, hd, hb⟩
  have HB3 := Lib.hid (HB2.out.trans (hb.mono HB2.out.size))
  obtain rfl := okD_zero hok (by rw [hd]; rfl)
  clear hb hok hd H1 H2 H3 HP HB1 HB2 HO1 HD
  rcases hnx with ⟨rfl, rfl, rfl⟩ | ⟨rfl, rfl, rfl, hd28⟩ | ⟨rfl, rfl, rfl, rfl, rfl⟩
  · go_wp2_with fail
    go_ret
    exact ⟨rfl, HB3.out⟩
  · have t1 : (m + 1 == m) = false := by rw [beq_eq_false_iff_ne]; omega
    go_wp2_with fail
    go_ret
    exact ⟨rfl, HB3.out⟩
  · have t1 : (y + 1 == y) = false := by rw [beq_eq_false_iff_ne]; omega
    go_wp2_with fail
    go_ret
    exact ⟨rfl, HB3.out⟩
set_option maxHeartbeats 2000000 in
theorem ListRound_walk (a0 : Int) (w0 : (Lit.int .i64 a0).wf = true) (w : World) (hL : laidMetH Tryd.prog Rows.listRoundRow.laid w) :
    Calls Tryd.prog 6 #[.int .i64 a0] w fun e w' => e = .returned (.bool true) ∧ Below w.heap.size w w' := by
  have M : Months w := mon_of_laid hL (by kernel_rfl) (by simp [Rows.listRoundRow])
  clear hL
  obtain ⟨p1, p2⟩ := pick_bd a0 2186400474752 (by omega)
  have HP := Lib.hid fun W => picked_any a0 2186400474752 W w0 (by omega)
  obtain ⟨p, hp⟩ : ∃ p, pick a0 2186400474752 = p := ⟨_, rfl⟩
  rw [hp] at HP p1 p2
  obtain ⟨s, hs⟩ : ∃ s, p - 1099511627776 = s := ⟨_, rfl⟩
  have w1 : IntKind.i64.wrap (p - 1099511627776) = s := by rw [IntKind.wrap_i64]; omega
  obtain ⟨s2, hs2⟩ : ∃ s2, s + 12622780800 = s2 := ⟨_, rfl⟩
  have w2 : IntKind.i64.wrap (s + 12622780800) = s2 := by rw [IntKind.wrap_i64]; omega
  have H1 := Lib.hid fun W TW => lDay_yes s (by omega) (by omega) W TW
  have H2 := Lib.hid fun W TW => lDay_yes s2 (by omega) (by omega) W TW
  have H3 := Lib.hid fun W TW => lDay_yes 0 (by omega) (by omega) W TW
  have HD : Hid (s2 / 86400 = s / 86400 + 146097 ∧ -12725830 ≤ s / 86400 ∧ s / 86400 ≤ 12725830) := by unfold Hid; omega
  have HM := Lib.hid M
  clear hp hs hs2 p1 p2 w0 M
  go_enter Tryd.func6, Tryd.ntmps6
  go_wp2_with fail
  refine (HP.out _).mono ?_; rintro e x0 ⟨rfl, rfl⟩
  go_wp2_with fail
  refine (H1.out _ HM.out).mono ?_; rintro e x1 ⟨y, m, d, rfl, hok, hd, hb⟩
  have HB1 := Lib.hid hb
  have HO1 := Lib.hid (And.intro hok hd)
  clear hb hok hd
  go_wp2_with fail
  refine (H2.out _ (HM.out.below HB1.out)).mono ?_; rintro e x2 ⟨y', m', d', rfl, hok, hd, hb⟩
  have HB2 := Lib.hid (HB1.out.trans (hb.mono HB1.out.size))
  obtain ⟨rfl, rfl, rfl⟩ := date_round HO1.out.1 hok (by rw [hd, HO1.out.2]; exact HD.out.1)
  obtain ⟨hy1, hy2⟩ := okD_year HO1.out.1 (by rw [HO1.out.2]; exact HD.out.2.1) (by rw [HO1.out.2]; exact HD.out.2.2)
  obtain ⟨hm1, hm2, hd1, hd2⟩ := okD_bd HO1.out.1
  clear hb hok hd
  go_wp2_with fail
  refine (H3.out _ (HM.out.below HB2.out)).mono ?_; rintro e x3 ⟨z, m3, d3, rfl, hok, hd, hb⟩
  have HB3 := Lib.hid (HB2.out.trans (hb.mono HB2.out.size))
  obtain rfl := okD_zero hok (by rw [hd]; rfl)
  clear hb hok hd H1 H2 H3 HP HB1 HB2 HO1 HD
  go_wp2_with fail
  go_ret
  exact ⟨rfl, HB3.out⟩
end Go.Proofs.YtdcbmjihpjnbbaaDoor
