/- Package list: Line. -/
import Derived.Test.YtdcbmjihpjnbbaaDoorLinQ
import Derived.Test.YtdcbmjihpjnbbaaDoorEntP
set_option linter.unusedVariables false
set_option maxRecDepth 100000
namespace Go.Proofs.YtdcbmjihpjnbbaaDoor
open Go.RowKit
open Go.OpenShut
theorem join_six (a b c d e f : ByteArray) (h : a.size ≤ 1000 ∧ b.size ≤ 1000 ∧ c.size ≤ 1000 ∧ d.size ≤ 1000 ∧ e.size ≤ 1000 ∧ f.size ≤ 1000) (w : World) (g : Nat) (hB : Blk w g 9 #[.string a, .string b, .string c, .string d, .string e, .string f]) :
    Calls Tryd.prog 29 #[.slice (some ⟨g, 0, none⟩) 6 6, .string ⟨#[32]⟩] w fun v w' => v = .returned (.string (bs (a.data.toList ++ [32] ++ b.data.toList ++ [32] ++ c.data.toList ++ [32] ++ d.data.toList ++ [32] ++ e.data.toList ++ [32] ++ f.data.toList))) ∧ Below w.heap.size w w' := by
  obtain ⟨h1, h2, h3, h4, h5, h6⟩ := h
  have hj : Lib.join ([a, b, c, d, e, f].map (·.data.toList)) [32] = a.data.toList ++ [32] ++ b.data.toList ++ [32] ++ c.data.toList ++ [32] ++ d.data.toList ++ [32] ++ e.data.toList ++ [32] ++ f.data.toList := by
    simp [Lib.join, List.intercalate, List.append_assoc]
  have hJ := Tryd.strings_Join g 0 6 [a, b, c, d, e, f] ⟨#[32]⟩ w (fun j x hx => by
      rw [Nat.zero_add, hB.cell j]
      match j, hx with
      | 0, hx => cases hx; rfl
      | 1, hx => cases hx; rfl
      | 2, hx => cases hx; rfl
      | 3, hx => cases hx; rfl
      | 4, hx => cases hx; rfl
      | 5, hx => cases hx; rfl
      | (n + 6), hx => simp at hx)
    hB.lt (by show 6 ≤ 140737488355328; omega) (Nat.le_refl 6) (by
      rw [show (⟨#[32]⟩ : ByteArray).data.toList = [32] from rfl, hj]
      simp only [List.length_append, List.length_cons, List.length_nil, size_list]
      omega)
  rw [show (⟨#[32]⟩ : ByteArray).data.toList = [32] from rfl, hj] at hJ
  exact hJ
set_option maxHeartbeats 8000000 in
theorem lLine_ok (x : EntV) (D : Option Addr) (c : Nat) (hx : x.sz) (h0 : entE x = 0) (w : World) (T : Tab w) (Th : Thirds w) (M : Months w) :
    Calls Tryd.prog 10 #[.agg (entC x D c).toArray] w fun e w' => e = .returned (.tuple #[.string (bs (lineX x)), .int .i64 0]) ∧ Below w.heap.size w w' := by
  have g := entE_good h0
  have hdl := g.data
  have hsec : -1099511627776 ≤ x.md.second ∧ x.md.second ≤ 1099511627776 := by
    have h := g.time
    unfold inT at h
    simp only [decide_eq_true_eq, Bool.and_eq_true] at h
    omega
  have H1 := Lib.hid fun W => pRight_any x D c hx W
  rw [h0] at H1
  have HR := Lib.hid fun W TW => rights_any x D c h0 W TW
  have HO := Lib.hid fun W TW => owners_any x.md g.user.1 g.group.1 g.uid g.gid W TW
  have HI := Lib.hid fun W TW => Itoa_any (x.data.length : Nat) W TW (by omega) (by omega)
  have HD := Lib.hid fun W TW MW => date_det x.md.second hsec.1 hsec.2 W TW MW
  have HC := Lib.hid fun W TW => clock_any x.md.second hsec.1 hsec.2 W TW
  have HE := Lib.hid fun W => behind_any x D c g.target.1 W
  have sR : (kindC x.kind :: mdL x.md.mode.toNat).length ≤ 100 := by rw [List.length_cons, mdL_length]; decide
  have sO : (orN x.md.user x.md.uid ++ [47] ++ orN x.md.group x.md.gid).length ≤ 200 := by
    have a := orN_short g.user.1 g.uid.1 g.uid.2
    have b := orN_short g.group.1 g.gid.1 g.gid.2
    simp only [List.length_append, List.length_cons, List.length_nil]; omega
  have sI := itoa_short (n := ((x.data.length : Nat) : Int)) (by omega) (by omega)
  have sD := dateL_len (D := x.md.second / 86400) (by omega) (by omega)
  have sC : (twoM (x.md.second % 86400 / 3600) ++ [58] ++ twoM (x.md.second % 86400 % 3600 / 60)).length ≤ 100 := by
    have a := twoM_short (n := x.md.second % 86400 / 3600) (by omega) (by omega)
    have b := twoM_short (n := x.md.second % 86400 % 3600 / 60) (by omega) (by omega)
    simp only [List.length_append, List.length_cons, List.length_nil]; omega
  have sP := g.path.2.1
  have sE : (tailM x).length ≤ 409 := by
    have aa := g.target.1
    unfold tailM
    split
    · simp only [List.length_append, List.length_cons, List.length_nil]; omega
    · split
      · simp only [List.length_append, List.length_cons, List.length_nil]; omega
      · simp
  have hline : lineX x = (kindC x.kind :: mdL x.md.mode.toNat) ++ [32] ++ (orN x.md.user x.md.uid ++ [47] ++ orN x.md.group x.md.gid) ++ [32] ++ Lib.itoa (x.data.length : Nat) ++ [32] ++ dateL (x.md.second / 86400) ++ [32] ++ (twoM (x.md.second % 86400 / 3600) ++ [58] ++ twoM (x.md.second % 86400 % 3600 / 60)) ++ [32] ++ x.path ++ tailM x := by
    unfold lineX lineM lineH lineD dateL
    simp only [List.append_assoc, List.cons_append, List.nil_append]
  have HBx := Lib.hid ((Below.refl w.heap.size w).alloc (Nat.le_refl _) (.cells (entC x D c).toArray 30))
  have HEx := Lib.hid (Blk.new w 30 (entC x D c).toArray)
  have HT := Lib.hid T
  have HTh := Lib.hid Th
  have HM := Lib.hid M
  clear T Th M h0 hx g hsec
  obtain ⟨path, kind, target, ⟨m0, m1, m2, m3, m4, m5, m6⟩, data⟩ := x
  unfold entC at H1 HR HE HBx HEx ⊢
  simp only at H1 HR HO HI HD HC HE HBx HEx hdl sR sO sI sD sC sP sE hline ⊢
  obtain ⟨RS, HRS⟩ := hid_name (bs (kindC kind :: mdL m0.toNat))
  obtain ⟨OS, HOS⟩ := hid_name (bs (orN m3 m1 ++ [47] ++ orN m4 m2))
  obtain ⟨IS, HIS⟩ := hid_name (bs (Lib.itoa (data.length : Nat)))
  obtain ⟨DS, HDS⟩ := hid_name (bs (dateL (m5 / 86400)))
  obtain ⟨CS, HCS⟩ := hid_name (bs (twoM (m5 % 86400 / 3600) ++ [58] ++ twoM (m5 % 86400 % 3600 / 60)))
  obtain ⟨ES, HES⟩ := hid_name (bs (tailM ⟨path, kind, target, ⟨m0, m1, m2, m3, m4, m5, m6⟩, data⟩))
  obtain ⟨PS, HPS⟩ := hid_name (bs path)
  obtain ⟨US, HUS⟩ := hid_name (bs m3)
  obtain ⟨GS, HGS⟩ := hid_name (bs m4)
  obtain ⟨TS, HTS⟩ := hid_name (bs target)
  rw [HRS.out] at HR
  rw [HOS.out] at HO
  rw [HIS.out] at HI
  rw [HDS.out] at HD
  rw [HCS.out] at HC
  rw [HES.out] at HE
  rw [HPS.out, HTS.out, HUS.out, HGS.out] at H1 HR HE HBx HEx ⊢
  rw [HUS.out, HGS.out] at HO
  have zR : RS.size ≤ 100 := by rw [← HRS.out, bs_size]; exact sR
  have zO : OS.size ≤ 200 := by rw [← HOS.out, bs_size]; exact sO
  have zI : IS.size ≤ 19 := by rw [← HIS.out, bs_size]; exact sI
  have zD : DS.size ≤ 70 := by rw [← HDS.out, bs_size]; exact sD
  have zC : CS.size ≤ 100 := by rw [← HCS.out, bs_size]; exact sC
  have zP : PS.size ≤ 400 := by rw [← HPS.out, bs_size]; exact sP
  have zE : ES.size ≤ 409 := by rw [← HES.out, bs_size]; exact sE
  obtain ⟨dl, HDL⟩ := hid_name data.length
  obtain ⟨J, HJ⟩ := hid_name (bs (RS.data.toList ++ [32] ++ OS.data.toList ++ [32] ++ IS.data.toList ++ [32] ++ DS.data.toList ++ [32] ++ CS.data.toList ++ [32] ++ PS.data.toList))
  have zJ : J.size ≤ 1000 := by
    rw [← HJ.out, bs_size]
    simp only [List.length_append, List.length_cons, List.length_nil, size_list]
    omega
  obtain ⟨R, eR⟩ : ∃ A, J ++ ES = A := ⟨_, rfl⟩
  have pR := lin_add eR (by omega)
  have HF : Hid (R = bs (lineX ⟨path, kind, target, ⟨m0, m1, m2, m3, m4, m5, m6⟩, data⟩)) := by
    unfold Hid
    rw [hline, ← eR, ← HJ.out, ← HES.out, bs_plus, ← HRS.out, ← HOS.out, ← HIS.out, ← HDS.out, ← HCS.out, ← HPS.out]
    simp only [bs_list]
  rw [← HF.out]
  rw [HDL.out] at H1 HR HI HE HBx HEx hdl ⊢
  clear sR sO sI sD sC sP sE hline zJ eR zE hdl HRS HOS HIS HDS HCS HES HPS HUS HGS HTS
  go_enter Tryd.func10, Tryd.ntmps10
  go_wp2_with fail
  refine (H1.out _).mono ?_; rintro e x1 ⟨rfl, hb⟩
  have HB1 := Lib.hid (HBx.out.trans (hb.mono HBx.out.size))
  have HE1 := Lib.hid (HEx.out.below hb HEx.out.lt)
  clear hb H1 HBx HEx
  have HER := Lib.hid fun W (h : Below x1.heap.size x1 W) => blk11 (HE1.out.below h HE1.out.lt)
  have I1 := Lib.hid fun W (h : Below x1.heap.size x1 W) => HR.out W (HTh.out.below (HB1.out.trans (h.mono HB1.out.size)))
  have I2 := Lib.hid fun W (h : Below x1.heap.size x1 W) => HO.out W (HT.out.below (HB1.out.trans (h.mono HB1.out.size)))
  have I3 := Lib.hid fun W (h : Below x1.heap.size x1 W) => HI.out W (HT.out.below (HB1.out.trans (h.mono HB1.out.size)))
  have I4 := Lib.hid fun W (h : Below x1.heap.size x1 W) => HD.out W (HT.out.below (HB1.out.trans (h.mono HB1.out.size))) (HM.out.below (HB1.out.trans (h.mono HB1.out.size)))
  have I5 := Lib.hid fun W (h : Below x1.heap.size x1 W) => HC.out W (HT.out.below (HB1.out.trans (h.mono HB1.out.size)))
  clear HR HO HI HD HC HT HTh HM
  go_upto_region 4 with fail
  go_cut [5] (fun v wx => ∃ g, v = .slice (some ⟨g, 0, none⟩) 6 6 ∧ Blk wx g 9 #[.string RS, .string OS, .string IS, .string DS, .string CS, .string PS] ∧ Below x1.heap.size x1 wx)
  case first =>
    have r0 : ∀ W : World, Below x1.heap.size x1 W → W.cell? ⟨w.heap.size, 0, none⟩ = some (.string PS) := fun W h => (HER.out W h).1.1
    have r1 : ∀ W : World, Below x1.heap.size x1 W → W.cell? ⟨w.heap.size, 1, none⟩ = some (.int .i64 kind) := fun W h => (HER.out W h).1.2.1
    have r2 : ∀ W : World, Below x1.heap.size x1 W → W.cell? ⟨w.heap.size, 2, none⟩ = some (.string TS) := fun W h => (HER.out W h).1.2.2.1
    have r3 : ∀ W : World, Below x1.heap.size x1 W → W.cell? ⟨w.heap.size, 3, none⟩ = some (.int .i64 m0) := fun W h => (HER.out W h).1.2.2.2.1
    have r4 : ∀ W : World, Below x1.heap.size x1 W → W.cell? ⟨w.heap.size, 4, none⟩ = some (.int .i64 m1) := fun W h => (HER.out W h).1.2.2.2.2.1
    have r5 : ∀ W : World, Below x1.heap.size x1 W → W.cell? ⟨w.heap.size, 5, none⟩ = some (.int .i64 m2) := fun W h => (HER.out W h).1.2.2.2.2.2.1
    have r6 : ∀ W : World, Below x1.heap.size x1 W → W.cell? ⟨w.heap.size, 6, none⟩ = some (.string US) := fun W h => (HER.out W h).1.2.2.2.2.2.2.1
    have r7 : ∀ W : World, Below x1.heap.size x1 W → W.cell? ⟨w.heap.size, 7, none⟩ = some (.string GS) := fun W h => (HER.out W h).1.2.2.2.2.2.2.2.1
    have r8 : ∀ W : World, Below x1.heap.size x1 W → W.cell? ⟨w.heap.size, 8, none⟩ = some (.int .i64 m5) := fun W h => (HER.out W h).1.2.2.2.2.2.2.2.2.1
    have r9 : ∀ W : World, Below x1.heap.size x1 W → W.cell? ⟨w.heap.size, 9, none⟩ = some (.int .i64 m6) := fun W h => (HER.out W h).1.2.2.2.2.2.2.2.2.2.1
    have rA : ∀ W : World, Below x1.heap.size x1 W → W.cell? ⟨w.heap.size, 10, none⟩ = some (.slice D dl c) := fun W h => (HER.out W h).1.2.2.2.2.2.2.2.2.2.2
    have hS := Below.refl x1.heap.size x1
    go_region_held3 (fun W => Below x1.heap.size x1 W)
      (first
        | (with_reducible assumption)
        | (with_reducible refine Below.drew ?_; with_reducible assumption)
        | (with_reducible exact lin_alloc (by with_reducible assumption) _)
        | (with_reducible exact lin_below (by with_reducible assumption) (by with_reducible assumption)))
      (first
        | (go_at_call 24; with_reducible refine (I1.out _ (by first | with_reducible assumption | with_reducible exact Below.drew (Below.refl _ _))).mono ?_; rintro e w7 ⟨rfl, hb7⟩)
        | (go_at_call 25; with_reducible refine (I2.out _ (by first | with_reducible assumption | with_reducible exact lin_below (by with_reducible assumption) (by with_reducible assumption))).mono ?_; rintro e w8 ⟨rfl, hb8⟩)
        | (go_at_call 26; with_reducible refine (I3.out _ (by first | with_reducible assumption | with_reducible exact lin_below (by with_reducible assumption) (by with_reducible assumption))).mono ?_; rintro e w9 ⟨rfl, hb9⟩)
        | (go_at_call 27; with_reducible refine (I4.out _ (by first | with_reducible assumption | with_reducible exact lin_below (by with_reducible assumption) (by with_reducible assumption))).mono ?_; rintro e wa ⟨rfl, hba⟩)
        | (go_at_call 28; with_reducible refine (I5.out _ (by first | with_reducible assumption | with_reducible exact lin_below (by with_reducible assumption) (by with_reducible assumption))).mono ?_; rintro e wb ⟨rfl, hbb⟩))
    all_goals
      go_wp2_with fail
      go_meet
      exact ⟨_, rfl, Blk.new _ _ _, lin_alloc (lin_below (lin_below (lin_below (lin_below (lin_below (Below.drew (Below.refl _ _)) hb7) hb8) hb9) hba) hbb) _⟩
  case rest =>
    obtain ⟨g, rfl, hblk, hb⟩ := hcut
    rename World => x2
    have HB2 := Lib.hid (HB1.out.trans (hb.mono HB1.out.size))
    have HE2 := Lib.hid (HE1.out.below hb HE1.out.lt)
    have HQ := Lib.hid hblk
    clear hb hblk I1 I2 I3 I4 I5 HER HE1 HB1
    have HER := Lib.hid fun W (h : Below x2.heap.size x2 W) => blk11 (HE2.out.below h HE2.out.lt)
    have I6 := Lib.hid fun W (h : Below x2.heap.size x2 W) => join_six RS OS IS DS CS PS ⟨by omega, by omega, by omega, by omega, by omega, by omega⟩ W g (HQ.out.below h HQ.out.lt)
    rw [HJ.out] at I6
    clear zR zO zI zD zC zP
    go_upto_region 5 with fail
    go_cut [2, 3] (fun v u wx => v = .string R ∧ u = .int .i64 0 ∧ Below x2.heap.size x2 wx)
    case first =>
      have r0 : ∀ W : World, Below x2.heap.size x2 W → W.cell? ⟨w.heap.size, 0, none⟩ = some (.string PS) := fun W h => (HER.out W h).1.1
      have r1 : ∀ W : World, Below x2.heap.size x2 W → W.cell? ⟨w.heap.size, 1, none⟩ = some (.int .i64 kind) := fun W h => (HER.out W h).1.2.1
      have r2 : ∀ W : World, Below x2.heap.size x2 W → W.cell? ⟨w.heap.size, 2, none⟩ = some (.string TS) := fun W h => (HER.out W h).1.2.2.1
      have r3 : ∀ W : World, Below x2.heap.size x2 W → W.cell? ⟨w.heap.size, 3, none⟩ = some (.int .i64 m0) := fun W h => (HER.out W h).1.2.2.2.1
      have r4 : ∀ W : World, Below x2.heap.size x2 W → W.cell? ⟨w.heap.size, 4, none⟩ = some (.int .i64 m1) := fun W h => (HER.out W h).1.2.2.2.2.1
      have r5 : ∀ W : World, Below x2.heap.size x2 W → W.cell? ⟨w.heap.size, 5, none⟩ = some (.int .i64 m2) := fun W h => (HER.out W h).1.2.2.2.2.2.1
      have r6 : ∀ W : World, Below x2.heap.size x2 W → W.cell? ⟨w.heap.size, 6, none⟩ = some (.string US) := fun W h => (HER.out W h).1.2.2.2.2.2.2.1
      have r7 : ∀ W : World, Below x2.heap.size x2 W → W.cell? ⟨w.heap.size, 7, none⟩ = some (.string GS) := fun W h => (HER.out W h).1.2.2.2.2.2.2.2.1
      have r8 : ∀ W : World, Below x2.heap.size x2 W → W.cell? ⟨w.heap.size, 8, none⟩ = some (.int .i64 m5) := fun W h => (HER.out W h).1.2.2.2.2.2.2.2.2.1
      have r9 : ∀ W : World, Below x2.heap.size x2 W → W.cell? ⟨w.heap.size, 9, none⟩ = some (.int .i64 m6) := fun W h => (HER.out W h).1.2.2.2.2.2.2.2.2.2.1
      have rA : ∀ W : World, Below x2.heap.size x2 W → W.cell? ⟨w.heap.size, 10, none⟩ = some (.slice D dl c) := fun W h => (HER.out W h).1.2.2.2.2.2.2.2.2.2.2
      have hS := Below.refl x2.heap.size x2
      go_region_held3 (fun W => Below x2.heap.size x2 W)
        (first
          | (with_reducible assumption)
          | (with_reducible refine Below.drew ?_; with_reducible assumption)
          | (with_reducible exact lin_below (by with_reducible assumption) (by with_reducible assumption)))
        (first
          | (go_at_call 29; with_reducible refine (I6.out _ (by first | with_reducible assumption | with_reducible exact Below.drew (Below.refl _ _))).mono ?_; rintro e w7 ⟨rfl, hb7⟩)
          | (go_at_call 30; with_reducible refine (HE.out _).mono ?_; rintro e w8 ⟨rfl, hb8⟩))
      all_goals
        go_wp2_with fail
        go_meet
        exact ⟨rfl, rfl, lin_below (lin_below (Below.drew (Below.refl _ _)) hb7) hb8⟩
    case rest =>
      obtain ⟨rfl, rfl, hb⟩ := hcut
      have HB3 := Lib.hid (HB2.out.trans (hb.mono HB2.out.size))
      clear hb
      go_wp2_with fail
      refine bodyPost_ret (v := .tuple #[.string R, .int .i64 0]) (by simp [results, Tryd.results10, go_sem, *]) rfl ?_
      exact ⟨rfl, HB3.out⟩
set_option maxHeartbeats 2000000 in
theorem lLine_any (x : EntV) (D : Option Addr) (c : Nat) (hx : x.sz) (w : World) (T : Tab w) (Th : Thirds w) (M : Months w) :
    Calls Tryd.prog 10 #[.agg (entC x D c).toArray] w fun e w' => e = .returned (.tuple #[.string (bs (lineO x)), .int .i64 (entE x)]) ∧ Below w.heap.size w w' := by
  by_cases h0 : entE x = 0
  · have hl : lineO x = lineX x := if_pos h0
    rw [hl, h0]
    exact lLine_ok x D c hx h0 w T Th M
  · have H1 := Lib.hid fun W => pRight_any x D c hx W
    have HV : Hid (lineO x = []) := if_neg h0
    have HBx := Lib.hid ((Below.refl w.heap.size w).alloc (Nat.le_refl _) (.cells (entC x D c).toArray 30))
    have HEx := Lib.hid (Blk.new w 30 (entC x D c).toArray)
    rw [HV.out]
    obtain ⟨E, HE⟩ := hid_name (entE x)
    rw [HE.out] at H1 h0 ⊢
    have hne : (E != 0) = true := by simpa using h0
    clear hx T Th M h0
    obtain ⟨path, kind, target, ⟨m0, m1, m2, m3, m4, m5, m6⟩, data⟩ := x
    unfold entC at H1 HBx HEx ⊢
    simp only at H1 HBx HEx ⊢
    obtain ⟨dl, HDL⟩ := hid_name data.length
    rw [HDL.out] at H1 HBx HEx ⊢
    go_enter Tryd.func10, Tryd.ntmps10
    go_wp2_with fail
    refine (H1.out _).mono ?_; rintro e x1 ⟨rfl, hb⟩
    have HB1 := Lib.hid (HBx.out.trans (hb.mono HBx.out.size))
    clear hb H1 HBx HEx
    go_wp2_with fail
    refine bodyPost_ret (v := .tuple #[.string ⟨#[]⟩, .int .i64 E]) (by simp [results, Tryd.results10, go_sem, *]) rfl ?_
    exact ⟨rfl, HB1.out⟩
end Go.Proofs.YtdcbmjihpjnbbaaDoor
