/- Package list: twoDigits, nameOr, owners, date, clock, rights, behind. -/
import Derived.Test.YtdcbmjihpjnbbaaDoorLinC
import Derived.Test.YtdcbmjihpjnbbaaDoorDayP
import Derived.Deep.RegionHeld3
import Derived.BigQuiet
set_option linter.unusedVariables false
set_option maxRecDepth 100000
namespace Go.Proofs.YtdcbmjihpjnbbaaDoor
open Go.RowKit
open Go.OpenShut
theorem two_any (n : Int) (h1 : 0 ≤ n) (h2 : n ≤ 1000000) (w : World) (T : Tab w) :
    Calls Tryd.prog 50 #[.int .i64 n] w fun e w' => e = .returned (.string (bs (twoM n))) ∧ Below w.heap.size w w' := by
  have H := Lib.hid (Itoa_any n w T (by omega) (by omega))
  have hl := itoa_short (n := n) (by omega) (by omega)
  have HV : Hid (bs (twoM n) = if n < 10 then bs (48 :: Lib.itoa n) else bs (Lib.itoa n)) := by unfold Hid twoM; split <;> rfl
  have hadd : (⟨#[48]⟩ : ByteArray) ++ bs (Lib.itoa n) = bs (48 :: Lib.itoa n) := bs_plus [48] (Lib.itoa n)
  obtain ⟨S, HS⟩ := hid_name (bs (Lib.itoa n))
  have hsz : S.size ≤ 19 := by rw [← HS.out, bs_size]; exact hl
  rw [HS.out] at H hadd HV
  obtain ⟨R, HR⟩ := hid_name (bs (48 :: Lib.itoa n))
  rw [HR.out] at hadd HV
  have p1 := lin_add hadd (by show 1 + _ ≤ _; omega)
  clear hl hadd
  by_cases h : n < 10
  · rw [if_pos h] at HV
    go_enter Tryd.func50, Tryd.ntmps50
    go_wp2_with fail
    refine H.out.mono ?_; rintro e w1 ⟨rfl, hb⟩
    have HB := Lib.hid hb
    clear hb H
    go_wp2_with fail
    go_ret
    exact ⟨by rw [HV.out]; rfl, HB.out⟩
  · rw [if_neg h] at HV
    go_enter Tryd.func50, Tryd.ntmps50
    go_wp2_with fail
    refine H.out.mono ?_; rintro e w1 ⟨rfl, hb⟩
    have HB := Lib.hid hb
    clear hb H
    go_wp2_with fail
    go_ret
    exact ⟨by rw [HV.out]; rfl, HB.out⟩
theorem nameOr_any (s : List UInt8) (n : Int) (h1 : 0 ≤ n) (h2 : n ≤ 1125899906842624) (w : World) (T : Tab w) :
    Calls Tryd.prog 48 #[.string (bs s), .int .i64 n] w fun e w' => e = .returned (.string (bs (orN s n))) ∧ Below w.heap.size w w' := by
  have H := Lib.hid (Itoa_any n w T (by omega) (by omega))
  have HV : Hid (bs (orN s n) = if s = [] then bs (Lib.itoa n) else bs s) := by unfold Hid orN; split <;> rfl
  obtain ⟨R, HR⟩ := hid_name (bs (orN s n))
  rw [HR.out] at HV ⊢
  clear HR
  by_cases hs : s = []
  · rw [if_pos hs] at HV
    subst hs
    obtain ⟨S, hS⟩ : ∃ S, bs ([] : List UInt8) = S := ⟨_, rfl⟩
    have hn : S.toList = [] := by rw [← hS, ByteArray.toList_eq]; rfl
    have hn2 : S.toList.isEmpty = true := by rw [hn]; rfl
    rw [hS]
    clear hS
    go_enter Tryd.func48, Tryd.ntmps48
    go_wp2_with fail
    refine H.out.mono ?_; rintro e w1 ⟨rfl, hb⟩
    have HB := Lib.hid hb
    clear hb H
    go_wp2_with fail
    go_ret
    exact ⟨by rw [HV.out]; rfl, HB.out⟩
  · rw [if_neg hs] at HV
    have hne : s.isEmpty = false := by simpa using hs
    obtain ⟨S, hS⟩ : ∃ S, bs s = S := ⟨_, rfl⟩
    have hn : S.toList.isEmpty = false := by rw [← hS, ByteArray.toList_eq]; exact hne
    have hn2 : ¬ S.toList = [] := by intro e; rw [e] at hn; cases hn
    rw [hS] at HV ⊢
    clear hne hs hS
    go_enter Tryd.func48, Tryd.ntmps48
    go_wp2_with fail
    go_ret
    exact ⟨by rw [HV.out]; rfl, Below.refl _ _⟩
set_option maxHeartbeats 2000000 in
theorem owners_any (m : MetaV) (hu : m.user.length ≤ 60) (hg : m.group.length ≤ 60) (h1 : 0 ≤ m.uid ∧ m.uid ≤ 1125899906842624) (h2 : 0 ≤ m.gid ∧ m.gid ≤ 1125899906842624) (w : World) (T : Tab w) :
    Calls Tryd.prog 25 #[.agg #[.int .i64 m.mode, .int .i64 m.uid, .int .i64 m.gid, .string (bs m.user), .string (bs m.group), .int .i64 m.second, .int .i64 m.nano]] w fun e w' => e = .returned (.string (bs (orN m.user m.uid ++ [47] ++ orN m.group m.gid))) ∧ Below w.heap.size w w' := by
  obtain ⟨m0, m1, m2, m3, m4, m5, m6⟩ := m
  simp only at hu hg h1 h2 ⊢
  have sU := orN_short hu h1.1 h1.2
  have sG := orN_short hg h2.1 h2.2
  have HN1 := Lib.hid fun W TW => nameOr_any m3 m1 h1.1 h1.2 W TW
  have HN2 := Lib.hid fun W TW => nameOr_any m4 m2 h2.1 h2.2 W TW
  obtain ⟨U, HU⟩ := hid_name (bs (orN m3 m1))
  obtain ⟨G, HG⟩ := hid_name (bs (orN m4 m2))
  rw [HU.out] at HN1
  rw [HG.out] at HN2
  have hUs : U.size ≤ 60 := by rw [← HU.out, bs_size]; exact sU
  have hGs : G.size ≤ 60 := by rw [← HG.out, bs_size]; exact sG
  obtain ⟨A1, e1⟩ : ∃ A, U ++ ⟨#[47]⟩ = A := ⟨_, rfl⟩
  obtain ⟨A2, e2⟩ : ∃ A, A1 ++ G = A := ⟨_, rfl⟩
  have z1 : A1.size ≤ 61 := by rw [← e1, ByteArray.size_append]; show _ + 1 ≤ _; omega
  have p1 := lin_add e1 (by show _ + 1 ≤ _; omega)
  have p2 := lin_add e2 (by omega)
  have HH : Hid (A2 = bs (orN m3 m1 ++ [47] ++ orN m4 m2)) := by
    unfold Hid
    rw [← e2, ← e1, ← HU.out, ← HG.out]
    show bs (orN m3 m1) ++ bs [47] ++ bs (orN m4 m2) = _
    simp only [bs_plus]
  rw [← HH.out]
  obtain ⟨S3, HS3⟩ := hid_name (bs m3)
  obtain ⟨S4, HS4⟩ := hid_name (bs m4)
  rw [HS3.out] at HN1 ⊢
  rw [HS4.out] at HN2 ⊢
  have HB1 := Lib.hid ((Below.refl w.heap.size w).alloc (Nat.le_refl _) (.cells #[.int .i64 m0, .int .i64 m1, .int .i64 m2, .string S3, .string S4, .int .i64 m5, .int .i64 m6] 27))
  have HE1 := Lib.hid (Blk.new w 27 #[.int .i64 m0, .int .i64 m1, .int .i64 m2, .string S3, .string S4, .int .i64 m5, .int .i64 m6])
  have HT := Lib.hid T
  clear T hu hg h1 h2 e1 e2 z1 hUs hGs sU sG
  go_enter Tryd.func25, Tryd.ntmps25
  go_upto_region 1 with fail
  generalize w.alloc (.cells #[.int .i64 m0, .int .i64 m1, .int .i64 m2, .string S3, .string S4, .int .i64 m5, .int .i64 m6] 27) = x1 at HB1 HE1 ⊢
  have HEr := Lib.hid fun W (h : Below x1.heap.size x1 W) => blk7 (HE1.out.below h HE1.out.lt)
  have HI1 := Lib.hid fun W (h : Below x1.heap.size x1 W) => HN1.out W (HT.out.below (HB1.out.trans (h.mono HB1.out.size)))
  have HI2 := Lib.hid fun W (h : Below x1.heap.size x1 W) => HN2.out W (HT.out.below (HB1.out.trans (h.mono HB1.out.size)))
  go_cut [2] (fun v wx => v = .string A2 ∧ Below x1.heap.size x1 wx)
  case first =>
    have r1 : ∀ W : World, Below x1.heap.size x1 W → W.cell? ⟨w.heap.size, 1, none⟩ = some (.int .i64 m1) := fun W h => (HEr.out W h).1.2.1
    have r2 : ∀ W : World, Below x1.heap.size x1 W → W.cell? ⟨w.heap.size, 2, none⟩ = some (.int .i64 m2) := fun W h => (HEr.out W h).1.2.2.1
    have r3 : ∀ W : World, Below x1.heap.size x1 W → W.cell? ⟨w.heap.size, 3, none⟩ = some (.string S3) := fun W h => (HEr.out W h).1.2.2.2.1
    have r4 : ∀ W : World, Below x1.heap.size x1 W → W.cell? ⟨w.heap.size, 4, none⟩ = some (.string S4) := fun W h => (HEr.out W h).1.2.2.2.2.1
    have hS := Below.refl x1.heap.size x1
    go_region_held3 (fun W => Below x1.heap.size x1 W)
      (first
        | (with_reducible assumption)
        | (with_reducible refine Below.drew ?_; with_reducible assumption)
        | (with_reducible exact lin_below (by with_reducible assumption) (by with_reducible assumption)))
      (first
        | (go_at_call 48; with_reducible refine (HI1.out _ (by first | with_reducible assumption | with_reducible exact Below.drew (Below.refl _ _))).mono ?_; rintro e w7 ⟨rfl, hb7⟩)
        | (go_at_call 48; with_reducible refine (HI2.out _ (by first | with_reducible assumption | with_reducible exact lin_below (by with_reducible assumption) (by with_reducible assumption))).mono ?_; rintro e w8 ⟨rfl, hb8⟩))
    all_goals
      go_wp2_with fail
      go_meet
      exact ⟨rfl, lin_below (lin_below (Below.drew (Below.refl _ _)) hb7) hb8⟩
  case rest =>
    obtain ⟨rfl, hb⟩ := hcut
    rename World => x2
    have HB2 := Lib.hid (HB1.out.trans (hb.mono HB1.out.size))
    clear hb
    go_wp2_with fail
    go_ret
    exact ⟨rfl, HB2.out⟩
set_option maxHeartbeats 2000000 in
theorem date_any (s : Int) (h1 : -1099511627776 ≤ s) (h2 : s ≤ 1099511627776) (w : World) (T : Tab w) (M : Months w) :
    Calls Tryd.prog 27 #[.int .i64 s] w fun e w' => ∃ y m d : Int, e = .returned (.string (bs (Lib.itoa y ++ [45] ++ twoM m ++ [45] ++ twoM d))) ∧ okD y m d ∧ dayN y m d = s / 86400 ∧ Below w.heap.size w w' := by
  have H1 := Lib.hid (lDay_yes s h1 h2 w M)
  have hsd : -12725830 ≤ s / 86400 ∧ s / 86400 ≤ 12725830 := by omega
  have HT := Lib.hid T
  clear T M h1 h2
  go_enter Tryd.func27, Tryd.ntmps27
  go_wp2_with fail
  refine H1.out.mono ?_; rintro e x1 ⟨y, m, d, rfl, hok, hdn, hb⟩
  have HB1 := Lib.hid hb
  have HO := Lib.hid (And.intro hok hdn)
  obtain ⟨hm1, hm2, hd1, hd2⟩ := okD_bd hok
  obtain ⟨hy1, hy2⟩ := okD_year hok (by rw [hdn]; omega) (by rw [hdn]; omega)
  have HI1 := Lib.hid fun W (h : Below x1.heap.size x1 W) => Itoa_any y W (HT.out.below (HB1.out.trans (h.mono HB1.out.size))) (by omega) (by omega)
  have HI2 := Lib.hid fun W (h : Below x1.heap.size x1 W) => two_any m (by omega) (by omega) W (HT.out.below (HB1.out.trans (h.mono HB1.out.size)))
  have HI3 := Lib.hid fun W (h : Below x1.heap.size x1 W) => two_any d (by omega) (by omega) W (HT.out.below (HB1.out.trans (h.mono HB1.out.size)))
  have sY := itoa_short (n := y) (by omega) (by omega)
  have sM := twoM_short (n := m) (by omega) (by omega)
  have sD := twoM_short (n := d) (by omega) (by omega)
  obtain ⟨YS, HYS⟩ := hid_name (bs (Lib.itoa y))
  obtain ⟨MS, HMS⟩ := hid_name (bs (twoM m))
  obtain ⟨DS, HDS⟩ := hid_name (bs (twoM d))
  rw [HYS.out] at HI1
  rw [HMS.out] at HI2
  rw [HDS.out] at HI3
  have tY : YS.size ≤ 19 := by rw [← HYS.out, bs_size]; exact sY
  have tM : MS.size ≤ 20 := by rw [← HMS.out, bs_size]; exact sM
  have tD : DS.size ≤ 20 := by rw [← HDS.out, bs_size]; exact sD
  obtain ⟨B2, e2⟩ : ∃ A, YS ++ ⟨#[45]⟩ = A := ⟨_, rfl⟩
  obtain ⟨B3, e3⟩ : ∃ A, B2 ++ MS = A := ⟨_, rfl⟩
  obtain ⟨B4, e4⟩ : ∃ A, B3 ++ ⟨#[45]⟩ = A := ⟨_, rfl⟩
  obtain ⟨B5, e5⟩ : ∃ A, B4 ++ DS = A := ⟨_, rfl⟩
  have z2 : B2.size ≤ 20 := by rw [← e2, ByteArray.size_append]; show _ + 1 ≤ _; omega
  have z3 : B3.size ≤ 40 := by rw [← e3, ByteArray.size_append]; omega
  have z4 : B4.size ≤ 41 := by rw [← e4, ByteArray.size_append]; show _ + 1 ≤ _; omega
  have p2 := lin_add e2 (by show _ + 1 ≤ _; omega)
  have p3 := lin_add e3 (by omega)
  have p4 := lin_add e4 (by show _ + 1 ≤ _; omega)
  have p5 := lin_add e5 (by omega)
  have HH : Hid (B5 = bs (Lib.itoa y ++ [45] ++ twoM m ++ [45] ++ twoM d)) := by
    unfold Hid
    rw [← e5, ← e4, ← e3, ← e2, ← HYS.out, ← HMS.out, ← HDS.out]
    show bs (Lib.itoa y) ++ bs [45] ++ bs (twoM m) ++ bs [45] ++ bs (twoM d) = _
    simp only [bs_plus]
  clear hb hok hdn H1 hsd sY sM sD e2 e3 e4 e5 z2 z3 z4 tY tM tD hm1 hm2 hd1 hd2 hy1 hy2
  go_wp2_with fail
  refine (HI1.out _ (Below.refl _ _)).mono ?_; rintro e x2 ⟨rfl, hb⟩
  have HB2 := Lib.hid hb
  clear hb
  go_wp2_with fail
  refine (HI2.out _ HB2.out).mono ?_; rintro e x3 ⟨rfl, hb⟩
  have HB3 := Lib.hid (lin_below HB2.out hb)
  clear hb
  go_wp2_with fail
  refine (HI3.out _ HB3.out).mono ?_; rintro e x4 ⟨rfl, hb⟩
  have HB4 := Lib.hid (HB1.out.trans ((lin_below HB3.out hb).mono HB1.out.size))
  clear hb
  go_wp2_with fail
  go_ret
  exact ⟨y, m, d, by rw [HH.out]; rfl, HO.out.1, HO.out.2, HB4.out⟩
theorem dateD_bd {D : Int} (h1 : -12725830 ≤ D) (h2 : D ≤ 12725830) : (-40000 ≤ (dateD D).1 ∧ (dateD D).1 ≤ 40000) ∧ (0 ≤ (dateD D).2.1 ∧ (dateD D).2.1 ≤ 31) ∧ (0 ≤ (dateD D).2.2 ∧ (dateD D).2.2 ≤ 31) := by
  by_cases hx : ∃ p : Int × Int × Int, okD p.1 p.2.1 p.2.2 ∧ dayN p.1 p.2.1 p.2.2 = D
  · obtain ⟨⟨y, m, d⟩, hok, e⟩ := hx
    simp only at hok e
    rw [dateD_eq hok e]
    obtain ⟨b1, b2, b3, b4⟩ := okD_bd hok
    exact ⟨okD_year hok (by show _ ≤ dayN y m d; omega) (by show dayN y m d ≤ _; omega), ⟨by show 0 ≤ m; omega, by show m ≤ 31; omega⟩, ⟨by show 0 ≤ d; omega, b4⟩⟩
  · have e : dateD D = (0, 0, 0) := by unfold dateD; rw [dif_neg hx]
    rw [e]
    decide
/-- a date, as text -/
noncomputable def dateL (D : Int) : List UInt8 := Lib.itoa (dateD D).1 ++ [45] ++ twoM (dateD D).2.1 ++ [45] ++ twoM (dateD D).2.2
theorem dateL_len {D : Int} (h1 : -12725830 ≤ D) (h2 : D ≤ 12725830) : (dateL D).length ≤ 70 := by
  obtain ⟨a, b, c⟩ := dateD_bd h1 h2
  have a2 := itoa_short (n := (dateD D).1) (by omega) (by omega)
  have a3 := twoM_short (n := (dateD D).2.1) (by omega) (by omega)
  have a4 := twoM_short (n := (dateD D).2.2) (by omega) (by omega)
  unfold dateL
  simp only [List.length_append, List.length_cons, List.length_nil]
  omega
theorem date_det (s : Int) (h1 : -1099511627776 ≤ s) (h2 : s ≤ 1099511627776) (w : World) (T : Tab w) (M : Months w) :
    Calls Tryd.prog 27 #[.int .i64 s] w fun e w' => e = .returned (.string (bs (dateL (s / 86400)))) ∧ Below w.heap.size w w' := by
  refine (date_any s h1 h2 w T M).mono ?_
  rintro e w' ⟨y, m, d, rfl, hok, hd, hb⟩
  unfold dateL
  rw [dateD_eq hok hd]
  exact ⟨rfl, hb⟩
set_option maxHeartbeats 2000000 in
theorem clock_any (s : Int) (h1 : -1099511627776 ≤ s) (h2 : s ≤ 1099511627776) (w : World) (T : Tab w) :
    Calls Tryd.prog 28 #[.int .i64 s] w fun e w' => e = .returned (.string (bs (twoM (s % 86400 / 3600) ++ [58] ++ twoM (s % 86400 % 3600 / 60)))) ∧ Below w.heap.size w w' := by
  have H1 := Lib.hid (divide_day s (by omega) (by omega) w)
  obtain ⟨q, hq⟩ := hid_name (s / 86400)
  rw [hq.out] at H1
  obtain ⟨l, hl⟩ : ∃ l, s % 86400 = l := ⟨_, rfl⟩
  have hlb : 0 ≤ l ∧ l < 86400 := by omega
  rw [hl] at H1 ⊢
  obtain ⟨hh, hhh⟩ : ∃ hh, l.tdiv 3600 = hh := ⟨_, rfl⟩
  obtain ⟨l2, hl2⟩ : ∃ l2, l.tmod 3600 = l2 := ⟨_, rfl⟩
  obtain ⟨mi, hmi⟩ : ∃ mi, l2.tdiv 60 = mi := ⟨_, rfl⟩
  have hhv : hh = l / 3600 := by rw [← hhh, tdiv_pos hlb.1]
  have hl2v : l2 = l % 3600 := by rw [← hl2, tmod_pos hlb.1]
  have hmiv : mi = l % 3600 / 60 := by rw [← hmi, tdiv_pos (by omega), hl2v]
  have wh : IntKind.i64.wrap hh = hh := by rw [IntKind.wrap_i64]; omega
  have wm : IntKind.i64.wrap mi = mi := by rw [IntKind.wrap_i64]; omega
  have wl2 : IntKind.i64.wrap l2 = l2 := by rw [IntKind.wrap_i64]; omega
  rw [← hhv, ← hmiv]
  have hhb : 0 ≤ hh ∧ hh ≤ 24 := by omega
  have hmb : 0 ≤ mi ∧ mi ≤ 60 := by omega
  have HI1 := Lib.hid fun W TW => two_any hh (by omega) (by omega) W TW
  have HI2 := Lib.hid fun W TW => two_any mi (by omega) (by omega) W TW
  have sH := twoM_short (n := hh) (by omega) (by omega)
  have sI := twoM_short (n := mi) (by omega) (by omega)
  obtain ⟨HS, HHS⟩ := hid_name (bs (twoM hh))
  obtain ⟨IS, HIS⟩ := hid_name (bs (twoM mi))
  rw [HHS.out] at HI1
  rw [HIS.out] at HI2
  have tH : HS.size ≤ 20 := by rw [← HHS.out, bs_size]; exact sH
  have tI : IS.size ≤ 20 := by rw [← HIS.out, bs_size]; exact sI
  obtain ⟨B2, e2⟩ : ∃ A, HS ++ ⟨#[58]⟩ = A := ⟨_, rfl⟩
  obtain ⟨B3, e3⟩ : ∃ A, B2 ++ IS = A := ⟨_, rfl⟩
  have z2 : B2.size ≤ 21 := by rw [← e2, ByteArray.size_append]; show _ + 1 ≤ _; omega
  have p2 := lin_add e2 (by show _ + 1 ≤ _; omega)
  have p3 := lin_add e3 (by omega)
  have HH : Hid (B3 = bs (twoM hh ++ [58] ++ twoM mi)) := by
    unfold Hid
    rw [← e3, ← e2, ← HHS.out, ← HIS.out]
    show bs (twoM hh) ++ bs [58] ++ bs (twoM mi) = _
    simp only [bs_plus]
  have HT := Lib.hid T
  clear T h1 h2 hl hlb hhv hl2v hmiv hhb hmb sH sI tH tI e2 e3 z2 hq
  go_enter Tryd.func28, Tryd.ntmps28
  go_wp2_with fail
  refine H1.out.mono ?_; rintro e x1 ⟨rfl, hb⟩
  have HB1 := Lib.hid hb
  have HT1 := Lib.hid (HT.out.below hb)
  clear hb H1
  go_wp2_with fail
  refine (HI1.out _ HT1.out).mono ?_; rintro e x2 ⟨rfl, hb⟩
  have HB2 := Lib.hid (HB1.out.trans (hb.mono HB1.out.size))
  have HT2 := Lib.hid (HT1.out.below hb)
  clear hb
  go_wp2_with fail
  refine (HI2.out _ HT2.out).mono ?_; rintro e x3 ⟨rfl, hb⟩
  have HB3 := Lib.hid (HB2.out.trans (hb.mono HB2.out.size))
  clear hb
  go_wp2_with fail
  go_ret
  exact ⟨by rw [HH.out]; rfl, HB3.out⟩
set_option maxHeartbeats 2000000 in
theorem rights_any (x : EntV) (D : Option Addr) (c : Nat) (h0 : entE x = 0) (w : World) (Th : Thirds w) :
    Calls Tryd.prog 24 #[.agg (entC x D c).toArray] w fun e w' => e = .returned (.string (bs (kindC x.kind :: mdL x.md.mode.toNat))) ∧ Below w.heap.size w w' := by
  have g := entE_good h0
  have hk := g.kind
  have H2 := Lib.hid fun W TW => metUText_any x.md.mode W TW
  rw [mdW_ok g.mode] at H2
  have HBx := Lib.hid ((Below.refl w.heap.size w).alloc (Nat.le_refl _) (.cells (entC x D c).toArray 30))
  have HEx := Lib.hid (Blk.new w 30 (entC x D c).toArray)
  have HT := Lib.hid Th
  clear h0 Th g
  obtain ⟨path, kind, target, ⟨m0, m1, m2, m3, m4, m5, m6⟩, data⟩ := x
  unfold entC at HBx HEx ⊢
  simp only at H2 HBx HEx hk ⊢
  obtain ⟨MD, HMD⟩ := hid_name (bs (mdL m0.toNat))
  rw [HMD.out] at H2
  obtain ⟨dl, HDL⟩ := hid_name data.length
  rw [HDL.out] at HBx HEx ⊢
  obtain ⟨j, hj⟩ : ∃ j : Nat, kind - 1 = (j : Int) := ⟨(kind - 1).toNat, by omega⟩
  have wj : IntKind.i64.wrap (kind - 1) = (j : Int) := by rw [IntKind.wrap_i64]; omega
  obtain ⟨KN, HKN⟩ : ∃ KN : Int, KN = ((kindC kind).toNat : Int) := ⟨_, rfl⟩
  obtain ⟨KC, HKC⟩ := hid_name (bs [kindC kind])
  have hik : ∀ W : World, (Instr.index 9 (.string ⟨#[45, 100, 108, 104]⟩) (.int .i64 (j : Int))).run Tryd.prog W = .ok (.int .u8 KN) W := by
    subst HKN
    rcases (show (kind = 1 ∧ j = 0) ∨ (kind = 2 ∧ j = 1) ∨ (kind = 3 ∧ j = 2) ∨ (kind = 4 ∧ j = 3) by omega) with ⟨rfl, rfl⟩ | ⟨rfl, rfl⟩ | ⟨rfl, rfl⟩ | ⟨rfl, rfl⟩ <;> intro W <;> kernel_rfl
  have hcv : ∀ W : World, (convert 5 9 (.int .u8 KN)).run Tryd.prog W = .ok (.string KC) W := by
    rw [← HKC.out]
    subst HKN
    rcases (show kind = 1 ∨ kind = 2 ∨ kind = 3 ∨ kind = 4 by omega) with rfl | rfl | rfl | rfl <;> intro W <;> kernel_rfl
  have hMs : MD.size ≤ 100 := by rw [← HMD.out, bs_size, mdL_length]; decide
  have hKs : KC.size = 1 := by rw [← HKC.out]; rfl
  obtain ⟨A1, e1⟩ : ∃ A, KC ++ MD = A := ⟨_, rfl⟩
  have p1 := lin_add e1 (by omega)
  have HH : Hid (A1 = bs (kindC kind :: mdL m0.toNat)) := by
    unfold Hid
    rw [← e1, ← HKC.out, ← HMD.out]
    exact bs_plus [kindC kind] _
  rw [← HH.out]
  clear e1 hMs hKs HKN HKC hj hk
  go_enter Tryd.func24, Tryd.ntmps24
  go_wp2_with fail
  refine (H2.out _ (HT.out.below HBx.out)).mono ?_; rintro e x1 ⟨rfl, hb⟩
  have HB1 := Lib.hid (HBx.out.trans (hb.mono HBx.out.size))
  have HE1 := Lib.hid (HEx.out.below hb HEx.out.lt)
  clear hb H2 HBx HEx
  obtain ⟨⟨c0, c1, c2, c3, c4, c5, c6, c7, c8, c9, cA⟩, -⟩ := blk11 HE1.out
  go_wp2_with fail
  go_ret
  exact ⟨rfl, HB1.out⟩
set_option maxHeartbeats 2000000 in
theorem behind_any (x : EntV) (D : Option Addr) (c : Nat) (htl : x.target.length ≤ 400) (w : World) :
    Calls Tryd.prog 30 #[.agg (entC x D c).toArray] w fun e w' => e = .returned (.string (bs (tailM x))) ∧ Below w.heap.size w w' := by
  have HBx := Lib.hid ((Below.refl w.heap.size w).alloc (Nat.le_refl _) (.cells (entC x D c).toArray 30))
  obtain ⟨path, kind, target, ⟨m0, m1, m2, m3, m4, m5, m6⟩, data⟩ := x
  unfold entC at HBx ⊢
  simp only at HBx htl ⊢
  obtain ⟨dl, HDL⟩ := hid_name data.length
  rw [HDL.out] at HBx ⊢
  have HV : Hid (tailM ⟨path, kind, target, ⟨m0, m1, m2, m3, m4, m5, m6⟩, data⟩ = if kind = 3 then [32, 45, 62, 32] ++ target else if kind = 4 then [32, 108, 105, 110, 107, 32, 116, 111, 32] ++ target else []) := rfl
  rw [HV.out]
  obtain ⟨TS, HTS⟩ := hid_name (bs target)
  rw [HTS.out] at HBx ⊢
  have tT : TS.size ≤ 400 := by rw [← HTS.out, bs_size]; exact htl
  clear HV htl
  by_cases k3 : kind = 3
  · subst k3
    obtain ⟨E1, f1⟩ : ∃ A, (⟨#[32, 45, 62, 32]⟩ : ByteArray) ++ TS = A := ⟨_, rfl⟩
    have q1 := lin_add f1 (by show 4 + _ ≤ _; omega)
    have HF : Hid (E1 = bs ([32, 45, 62, 32] ++ target)) := by unfold Hid; rw [← f1, ← HTS.out]; exact bs_plus _ _
    rw [if_pos rfl, ← HF.out]
    clear f1 tT
    go_enter Tryd.func30, Tryd.ntmps30
    go_wp2_with fail
    go_ret
    exact ⟨rfl, HBx.out⟩
  · by_cases k4 : kind = 4
    · subst k4
      obtain ⟨E1, f1⟩ : ∃ A, (⟨#[32, 108, 105, 110, 107, 32, 116, 111, 32]⟩ : ByteArray) ++ TS = A := ⟨_, rfl⟩
      have q1 := lin_add f1 (by show 9 + _ ≤ _; omega)
      have HF : Hid (E1 = bs ([32, 108, 105, 110, 107, 32, 116, 111, 32] ++ target)) := by unfold Hid; rw [← f1, ← HTS.out]; exact bs_plus _ _
      rw [if_neg (by decide), if_pos rfl, ← HF.out]
      clear f1 tT k3
      go_enter Tryd.func30, Tryd.ntmps30
      go_wp2_with fail
      go_ret
      exact ⟨rfl, HBx.out⟩
    · rw [if_neg k3, if_neg k4]
      have k3b : (kind == 3) = false := by simpa using k3
      have k4b : (kind == 4) = false := by simpa using k4
      clear tT
      go_enter Tryd.func30, Tryd.ntmps30
      go_wp2_with fail
      go_ret
      exact ⟨rfl, HBx.out⟩
end Go.Proofs.YtdcbmjihpjnbbaaDoor
