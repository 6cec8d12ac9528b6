/- The reference's lines: LineOf. (Stage 20, ahead.) -/
import Derived.Test.YtdcbmjihpjnbbaaDoorLinA
import Derived.Deep.RegionWith
import Derived.Deep.RegionHeld3
import Derived.BigQuiet
set_option linter.unusedVariables false
set_option maxRecDepth 100000
namespace Go.Proofs.YtdcbmjihpjnbbaaDoor
open Go.RowKit
open Go.OpenShut
set_option maxHeartbeats 8000000 in
theorem rLine_ok (x : EntV) (D : Option Addr) (c : Nat) (hx : x.sz) (h0 : entE x = 0) (w : World) (T : Tab w) :
    Calls Tryd.prog 12 #[.agg (entC x D c).toArray] w fun e w' => ∃ y m d : Int, okD y m d ∧ dayN y m d = x.md.second / 86400 ∧ e = .returned (.tuple #[.string (bs (lineM x y m d)), .int .i64 0]) ∧ Below w.heap.size w w' := by
  have g := entE_good h0
  have hk := g.kind
  have hdl := g.data
  have huid := g.uid
  have hgid := g.gid
  have hsec : -1099511627776 ≤ x.md.second ∧ x.md.second ≤ 1099511627776 := by
    have h := g.time
    unfold inT at h
    simp only [decide_eq_true_eq, Bool.and_eq_true] at h
    omega
  have H1 := Lib.hid fun W => rEnt_any x D c hx W
  rw [h0] at H1
  have H2 := Lib.hid fun W => metURText_any x.md.mode W
  rw [mdW_ok g.mode] at H2
  have H3 := Lib.hid fun W => rDay_yes x.md.second hsec.1 hsec.2 W
  have HI1 := Lib.hid fun W TW => Itoa_any x.md.uid W TW (by omega) (by omega)
  have HI2 := Lib.hid fun W TW => Itoa_any x.md.gid W TW (by omega) (by omega)
  have HI3 := Lib.hid fun W TW => Itoa_any (x.data.length : Nat) W TW (by omega) (by omega)
  have HBx := Lib.hid ((Below.refl w.heap.size w).alloc (Nat.le_refl _) (.cells (entC x D c).toArray 30))
  have HEx := Lib.hid (Blk.new w 30 (entC x D c).toArray)
  have HT := Lib.hid T
  have hlu := g.user.1
  have hlg := g.group.1
  clear hx h0 T
  obtain ⟨path, kind, target, ⟨m0, m1, m2, m3, m4, m5, m6⟩, data⟩ := x
  unfold entC at H1 HBx HEx ⊢
  simp only at H1 H2 H3 HI1 HI2 HI3 HBx HEx hk hdl huid hgid hsec hlu hlg ⊢
  have hpl := g.path.2.1
  have htl := g.target.1
  simp only at hpl htl
  obtain ⟨U, HU⟩ := hid_name (bs (orN m3 m1))
  obtain ⟨G, HG⟩ := hid_name (bs (orN m4 m2))
  obtain ⟨MD, HMD⟩ := hid_name (bs (mdL m0.toNat))
  rw [HMD.out] at H2
  have hUs : U.size ≤ 60 := by rw [← HU.out, bs_size]; exact orN_short hlu huid.1 huid.2
  have hGs : G.size ≤ 60 := by rw [← HG.out, bs_size]; exact orN_short hlg hgid.1 hgid.2
  have HUv : Hid (U = if m3 = [] then bs (Lib.itoa m1) else bs m3) := by unfold Hid; rw [← HU.out]; unfold orN; split <;> rfl
  have HGv : Hid (G = if m4 = [] then bs (Lib.itoa m2) else bs m4) := by unfold Hid; rw [← HG.out]; unfold orN; split <;> rfl
  obtain ⟨dl, HDL⟩ := hid_name data.length
  rw [HDL.out] at H1 HBx HEx HI3 hdl ⊢
  go_enter Tryd.func12, Tryd.ntmps12
  go_wp2_with fail
  refine (H1.out _).mono ?_; rintro e x1 ⟨rfl, hb⟩
  have HB1 := Lib.hid (HBx.out.trans (hb.mono HBx.out.size))
  have HE1 := Lib.hid (HEx.out.below hb HEx.out.lt)
  clear hb H1 HBx HEx
  obtain ⟨⟨c0, c1, c2, c3, c4, c5, c6, c7, c8, c9, cA⟩, -⟩ := blk11 HE1.out
  go_wp2_with fail
  refine (H2.out _).mono ?_; rintro e x2 ⟨rfl, hb⟩
  have HB2 := Lib.hid (HB1.out.trans (hb.mono HB1.out.size))
  have HE2 := Lib.hid (HE1.out.below hb HE1.out.lt)
  clear hb H2 HB1 HE1 c0 c1 c2 c3 c4 c5 c6 c7 c8 c9 cA
  obtain ⟨⟨c0, c1, c2, c3, c4, c5, c6, c7, c8, c9, cA⟩, -⟩ := blk11 HE2.out
  generalize hS3 : bs m3 = S3 at c6 HUv
  have hs3 : S3.size ≤ 60 := by rw [← hS3, bs_size]; exact hlu
  have hn3 : S3.toList = m3 := by rw [← hS3, ByteArray.toList_eq]; rfl
  clear hS3
  have HIu := Lib.hid fun W (h : Below x2.heap.size x2 W) => HI1.out W (HT.out.below (HB2.out.trans (h.mono HB2.out.size)))
  go_upto_if 32 with fail
  go_cut [8] (fun v wx => v = .string U ∧ Below x2.heap.size x2 wx)
  case first =>
    by_cases hu : m3 = []
    · rw [if_pos hu] at HUv
      subst hu
      go_wp2_with fail
      refine (HIu.out _ (Below.refl _ _)).mono ?_; rintro e x3 ⟨rfl, hb⟩
      have HB3 := Lib.hid hb
      clear hb
      go_wp2_with fail
      go_meet
      exact ⟨by rw [HUv.out], HB3.out⟩
    · rw [if_neg hu] at HUv
      have hne : m3.isEmpty = false := by simpa using hu
      rw [hne]
      go_wp2_with fail
      go_meet
      exact ⟨by rw [HUv.out], Below.refl _ _⟩
  case rest =>
    obtain ⟨rfl, hb⟩ := hcut
    rename World => x3
    have HB3 := Lib.hid (HB2.out.trans (hb.mono HB2.out.size))
    have HE3 := Lib.hid (HE2.out.below hb HE2.out.lt)
    clear hb HIu HUv hn3 hs3 c0 c1 c2 c3 c4 c5 c6 c7 c8 c9 cA HE2 HB2
    obtain ⟨⟨c0, c1, c2, c3, c4, c5, c6, c7, c8, c9, cA⟩, -⟩ := blk11 HE3.out
    generalize hS4 : bs m4 = S4 at c7 HGv
    have hn4 : S4.toList = m4 := by rw [← hS4, ByteArray.toList_eq]; rfl
    clear hS4
    have HIg := Lib.hid fun W (h : Below x3.heap.size x3 W) => HI2.out W (HT.out.below (HB3.out.trans (h.mono HB3.out.size)))
    go_upto_if 41 with fail
    go_cut [9] (fun v wx => v = .string G ∧ Below x3.heap.size x3 wx)
    case first =>
      by_cases hu : m4 = []
      · rw [if_pos hu] at HGv
        subst hu
        go_wp2_with fail
        refine (HIg.out _ (Below.refl _ _)).mono ?_; rintro e x4 ⟨rfl, hb⟩
        have HB4 := Lib.hid hb
        clear hb
        go_wp2_with fail
        go_meet
        exact ⟨by rw [HGv.out], HB4.out⟩
      · rw [if_neg hu] at HGv
        have hne : m4.isEmpty = false := by simpa using hu
        rw [hne]
        go_wp2_with fail
        go_meet
        exact ⟨by rw [HGv.out], Below.refl _ _⟩
    case rest =>
      obtain ⟨rfl, hb⟩ := hcut
      rename World => x4
      have HB4 := Lib.hid (HB3.out.trans (hb.mono HB3.out.size))
      have HE4 := Lib.hid (HE3.out.below hb HE3.out.lt)
      clear hb HIg HGv hn4 c0 c1 c2 c3 c4 c5 c6 c7 c8 c9 cA HE3 HB3
      obtain ⟨⟨c0, c1, c2, c3, c4, c5, c6, c7, c8, c9, cA⟩, -⟩ := blk11 HE4.out
      go_wp2_with fail
      refine (H3.out _).mono ?_; rintro e x5 ⟨y, m, d, rfl, hok, hdn, hb⟩
      have HB5 := Lib.hid (HB4.out.trans (hb.mono HB4.out.size))
      have HE5 := Lib.hid (HE4.out.below hb HE4.out.lt)
      have HO5 := Lib.hid (And.intro hok hdn)
      clear hb hok hdn c0 c1 c2 c3 c4 c5 c6 c7 c8 c9 cA HE4 HB4
      obtain ⟨⟨c0, c1, c2, c3, c4, c5, c6, c7, c8, c9, cA⟩, -⟩ := blk11 HE5.out
      obtain ⟨r, hr⟩ : ∃ r, m5.tmod 86400 = r := ⟨_, rfl⟩
      have hrb : -86400 < r ∧ r < 86400 := by
        rw [← hr]
        by_cases h : 0 ≤ m5
        · rw [tmod_pos h]; omega
        · rw [tmod_neg (by omega)]; omega
      have hlv := sec_left m5
      rw [hr] at hlv
      obtain ⟨l, hl⟩ : ∃ l, m5 % 86400 = l := ⟨_, rfl⟩
      have hlb : 0 ≤ l ∧ l < 86400 := by omega
      rw [hl] at hlv
      have HL := Lib.hid hl
      clear hl
      obtain ⟨j, hj⟩ : ∃ j : Nat, kind - 1 = (j : Int) := ⟨(kind - 1).toNat, by omega⟩
      have hj3 : j ≤ 3 := by omega
      have hj4 : (j : Int) < 4 := by omega
      have hj0 : (0 : Int) ≤ (j : Int) := by omega
      have hj5 : j < 4 := by omega
      have wj : IntKind.i64.wrap (kind - 1) = (j : Int) := by rw [IntKind.wrap_i64]; omega
      obtain ⟨KC, HKC⟩ := hid_name (bs [kindC kind])
      have hnew : ∀ W : World, (W.alloc (.cells #[.string ⟨#[45]⟩, .string ⟨#[100]⟩, .string ⟨#[108]⟩, .string ⟨#[104]⟩] 9)).cell? ⟨W.heap.size, j, none⟩ = some (.string KC) := fun W => by
        rw [(Blk.new W 9 #[.string ⟨#[45]⟩, .string ⟨#[100]⟩, .string ⟨#[108]⟩, .string ⟨#[104]⟩]).cell j, ← HKC.out]
        rcases (show j = 0 ∨ j = 1 ∨ j = 2 ∨ j = 3 by omega) with rfl | rfl | rfl | rfl
        · obtain rfl : kind = 1 := by omega
          rfl
        · obtain rfl : kind = 2 := by omega
          rfl
        · obtain rfl : kind = 3 := by omega
          rfl
        · obtain rfl : kind = 4 := by omega
          rfl
      clear hj
      obtain ⟨DL, HDLs⟩ := hid_name (bs (Lib.itoa (dl : Nat)))
      rw [HDLs.out] at HI3
      have hMs : MD.size ≤ 100 := by rw [← HMD.out, bs_size, mdL_length]; decide
      have hDs : DL.size ≤ 19 := by rw [← HDLs.out, bs_size]; exact itoa_short (by omega) (by omega)
      have hKs : KC.size = 1 := by rw [← HKC.out]; rfl
      obtain ⟨A1, e1⟩ : ∃ A, KC ++ MD = A := ⟨_, rfl⟩
      obtain ⟨A2, e2⟩ : ∃ A, A1 ++ ⟨#[32]⟩ = A := ⟨_, rfl⟩
      obtain ⟨A3, e3⟩ : ∃ A, A2 ++ U = A := ⟨_, rfl⟩
      obtain ⟨A4, e4⟩ : ∃ A, A3 ++ ⟨#[47]⟩ = A := ⟨_, rfl⟩
      obtain ⟨A5, e5⟩ : ∃ A, A4 ++ G = A := ⟨_, rfl⟩
      obtain ⟨A6, e6⟩ : ∃ A, A5 ++ ⟨#[32]⟩ = A := ⟨_, rfl⟩
      obtain ⟨A7, e7⟩ : ∃ A, A6 ++ DL = A := ⟨_, rfl⟩
      have z1 : A1.size ≤ 101 := by rw [← e1, ByteArray.size_append]; omega
      have z2 : A2.size ≤ 102 := by rw [← e2, ByteArray.size_append]; show _ + 1 ≤ _; omega
      have z3 : A3.size ≤ 162 := by rw [← e3, ByteArray.size_append]; omega
      have z4 : A4.size ≤ 163 := by rw [← e4, ByteArray.size_append]; show _ + 1 ≤ _; omega
      have z5 : A5.size ≤ 223 := by rw [← e5, ByteArray.size_append]; omega
      have z6 : A6.size ≤ 224 := by rw [← e6, ByteArray.size_append]; show _ + 1 ≤ _; omega
      have z7 : A7.size ≤ 243 := by rw [← e7, ByteArray.size_append]; omega
      have p1 := lin_add e1 (by omega)
      have p2 := lin_add e2 (by show _ + 1 ≤ _; omega)
      have p3 := lin_add e3 (by omega)
      have p4 := lin_add e4 (by show _ + 1 ≤ _; omega)
      have p5 := lin_add e5 (by omega)
      have p6 := lin_add e6 (by show _ + 1 ≤ _; omega)
      have p7 := lin_add e7 (by omega)
      have HH : Hid (A7 = bs (lineH ⟨path, kind, target, ⟨m0, m1, m2, m3, m4, m5, m6⟩, data⟩)) := by
        unfold Hid
        rw [← e7, ← e6, ← e5, ← e4, ← e3, ← e2, ← e1, ← HKC.out, ← HMD.out, ← HU.out, ← HG.out, ← HDLs.out, ← HDL.out]
        show bs [kindC kind] ++ bs (mdL m0.toNat) ++ bs [32] ++ bs (orN m3 m1) ++ bs [47] ++ bs (orN m4 m2) ++ bs [32] ++ bs (Lib.itoa (data.length : Nat)) = _
        simp only [bs_plus]
        rfl
      have HI5 := Lib.hid fun W (h : Below x5.heap.size x5 W) => HI3.out W (HT.out.below (HB5.out.trans (h.mono HB5.out.size)))
      have hnewd : (x5.drew.alloc (.cells #[.string ⟨#[45]⟩, .string ⟨#[100]⟩, .string ⟨#[108]⟩, .string ⟨#[104]⟩] 9)).cell? ⟨x5.heap.size, j, none⟩ = some (.string KC) := hnew x5.drew
      have hnewe : (x5.alloc (.cells #[.string ⟨#[45]⟩, .string ⟨#[100]⟩, .string ⟨#[108]⟩, .string ⟨#[104]⟩] 9)).drew.cell? ⟨x5.heap.size, j, none⟩ = some (.string KC) := hnew x5
      have HE5r := Lib.hid fun W (h : Below x5.heap.size x5 W) => blk11 (HE5.out.below h HE5.out.lt)
      clear e1 e2 e3 e4 e5 e6 e7 z1 z2 z3 z4 z5 z6 hMs hDs hKs
      go_upto_region 14 with fail
      clear c0 c1 c2 c3 c4 c5 c6 c7 c8 c9 cA
      go_cut [15] (fun v wx => v = .string A7 ∧ Below x5.heap.size x5 wx)
      case first =>
        have r1 : ∀ W : World, Below x5.heap.size x5 W → W.cell? ⟨w.heap.size, 1, none⟩ = some (.int .i64 kind) := fun W h => (HE5r.out W h).1.2.1
        have rA : ∀ W : World, Below x5.heap.size x5 W → W.cell? ⟨w.heap.size, 10, none⟩ = some (.slice D dl c) := fun W h => (HE5r.out W h).1.2.2.2.2.2.2.2.2.2.2
        have hS := Below.refl x5.heap.size x5
        change Code.wp _ (Code.region _ (List.toArray [_, _, _, _, _, (Oper.mk _ (id _) _ _ _ _), _, _, _, _, _, _, _, _, _, _, _, _, _, _, _]) _) _ _ _
        go_region_held3 (fun W => Below x5.heap.size x5 W)
          (first
            | (with_reducible assumption)
            | (with_reducible refine Below.drew ?_; with_reducible assumption)
            | (with_reducible exact lin_alloc (by with_reducible assumption) _)
            | (with_reducible exact Below.drew (lin_alloc (by with_reducible assumption) _))
            | (with_reducible exact lin_alloc (Below.drew (Below.refl _ _)) _)
            | (with_reducible exact lin_below (by with_reducible assumption) (by with_reducible assumption)))
          (first
            | (go_at_call 26; refine (HI5.out _ (by first | with_reducible assumption | with_reducible exact Below.drew (lin_alloc (Below.refl _ _) _) | with_reducible exact lin_alloc (Below.drew (Below.refl _ _)) _ | with_reducible exact Below.drew (Below.refl _ _))).mono ?_; rintro e w6 ⟨rfl, hb6⟩; (try (have F1 := lin_keep hnewe hb6)))
          )
        all_goals
          go_wp2_with fail
          go_meet
          first
            | exact ⟨rfl, lin_below (Below.drew (lin_alloc (Below.refl _ _) _)) hb6⟩
            | exact ⟨rfl, lin_alloc (lin_below (Below.drew (Below.refl _ _)) hb6) _⟩
      case rest =>
        obtain ⟨rfl, hb⟩ := hcut
        rename World => x6
        have HB6 := Lib.hid (HB5.out.trans (hb.mono HB5.out.size))
        have HE6 := Lib.hid (HE5.out.below hb HE5.out.lt)
        clear hb HI5 HE5r hnew hnewd hnewe p1 p2 p3 p4 p5 p6 p7 wj HE5 HB5 hj0 hj3 hj4 hj5
        obtain ⟨hm1, hm2, hd1, hd2⟩ := okD_bd HO5.out.1
        obtain ⟨hy1, hy2⟩ := okD_year HO5.out.1 (by rw [HO5.out.2]; omega) (by rw [HO5.out.2]; omega)
        obtain ⟨hh, hhh⟩ : ∃ hh, l.tdiv 3600 = hh := ⟨_, rfl⟩
        obtain ⟨l2, hl2⟩ : ∃ l2, l.tmod 3600 = l2 := ⟨_, rfl⟩
        obtain ⟨mi, hmi⟩ : ∃ mi, l2.tdiv 60 = mi := ⟨_, rfl⟩
        have hhv : hh = l / 3600 := by rw [← hhh, tdiv_pos hlb.1]
        have hl2v : l2 = l % 3600 := by rw [← hl2, tmod_pos hlb.1]
        have hmiv : mi = l % 3600 / 60 := by rw [← hmi, tdiv_pos (by omega), hl2v]
        have wh : IntKind.i64.wrap hh = hh := by rw [IntKind.wrap_i64]; omega
        have wm : IntKind.i64.wrap mi = mi := by rw [IntKind.wrap_i64]; omega
        have wl2 : IntKind.i64.wrap l2 = l2 := by rw [IntKind.wrap_i64]; omega
        have HY6 := Lib.hid fun W (h : Below x6.heap.size x6 W) => Itoa_any y W (HT.out.below (HB6.out.trans (h.mono HB6.out.size))) (by omega) (by omega)
        have HM6 := Lib.hid fun W (h : Below x6.heap.size x6 W) => rTwo_any m (by omega) (by omega) W (HT.out.below (HB6.out.trans (h.mono HB6.out.size)))
        have HD6 := Lib.hid fun W (h : Below x6.heap.size x6 W) => rTwo_any d (by omega) (by omega) W (HT.out.below (HB6.out.trans (h.mono HB6.out.size)))
        have HH6 := Lib.hid fun W (h : Below x6.heap.size x6 W) => rTwo_any hh (by omega) (by omega) W (HT.out.below (HB6.out.trans (h.mono HB6.out.size)))
        have HI6 := Lib.hid fun W (h : Below x6.heap.size x6 W) => rTwo_any mi (by omega) (by omega) W (HT.out.below (HB6.out.trans (h.mono HB6.out.size)))
        have sY := itoa_short (n := y) (by omega) (by omega)
        have sM := twoM_short (n := m) (by omega) (by omega)
        have sD := twoM_short (n := d) (by omega) (by omega)
        have sH := twoM_short (n := hh) (by omega) (by omega)
        have sI := twoM_short (n := mi) (by omega) (by omega)
        obtain ⟨YS, HYS⟩ := hid_name (bs (Lib.itoa y))
        obtain ⟨MS, HMS⟩ := hid_name (bs (twoM m))
        obtain ⟨DS, HDS⟩ := hid_name (bs (twoM d))
        obtain ⟨HS, HHS⟩ := hid_name (bs (twoM hh))
        obtain ⟨IS, HIS⟩ := hid_name (bs (twoM mi))
        obtain ⟨PS, HPS⟩ := hid_name (bs path)
        rw [HYS.out] at HY6
        rw [HMS.out] at HM6
        rw [HDS.out] at HD6
        rw [HHS.out] at HH6
        rw [HIS.out] at HI6
        have tY : YS.size ≤ 19 := by rw [← HYS.out, bs_size]; exact sY
        have tM : MS.size ≤ 20 := by rw [← HMS.out, bs_size]; exact sM
        have tD : DS.size ≤ 20 := by rw [← HDS.out, bs_size]; exact sD
        have tH : HS.size ≤ 20 := by rw [← HHS.out, bs_size]; exact sH
        have tI : IS.size ≤ 20 := by rw [← HIS.out, bs_size]; exact sI
        have tP : PS.size ≤ 400 := by rw [← HPS.out, bs_size]; exact hpl
        obtain ⟨B1, e1⟩ : ∃ A, (⟨#[32]⟩ : ByteArray) ++ YS = A := ⟨_, rfl⟩
        obtain ⟨B2, e2⟩ : ∃ A, B1 ++ ⟨#[45]⟩ = A := ⟨_, rfl⟩
        obtain ⟨B3, e3⟩ : ∃ A, B2 ++ MS = A := ⟨_, rfl⟩
        obtain ⟨B4, e4⟩ : ∃ A, B3 ++ ⟨#[45]⟩ = A := ⟨_, rfl⟩
        obtain ⟨B5, e5⟩ : ∃ A, B4 ++ DS = A := ⟨_, rfl⟩
        obtain ⟨B6, e6⟩ : ∃ A, B5 ++ ⟨#[32]⟩ = A := ⟨_, rfl⟩
        obtain ⟨B7, e7⟩ : ∃ A, B6 ++ HS = A := ⟨_, rfl⟩
        obtain ⟨B8, e8⟩ : ∃ A, B7 ++ ⟨#[58]⟩ = A := ⟨_, rfl⟩
        obtain ⟨B9, e9⟩ : ∃ A, B8 ++ IS = A := ⟨_, rfl⟩
        obtain ⟨Ba, ea⟩ : ∃ A, B9 ++ ⟨#[32]⟩ = A := ⟨_, rfl⟩
        obtain ⟨Bb, eb⟩ : ∃ A, Ba ++ PS = A := ⟨_, rfl⟩
        obtain ⟨Bc, ec⟩ : ∃ A, A7 ++ Bb = A := ⟨_, rfl⟩
        have z1 : B1.size ≤ 20 := by rw [← e1, ByteArray.size_append]; show 1 + _ ≤ _; omega
        have z2 : B2.size ≤ 21 := by rw [← e2, ByteArray.size_append]; show _ + 1 ≤ _; omega
        have z3 : B3.size ≤ 41 := by rw [← e3, ByteArray.size_append]; omega
        have z4 : B4.size ≤ 42 := by rw [← e4, ByteArray.size_append]; show _ + 1 ≤ _; omega
        have z5 : B5.size ≤ 62 := by rw [← e5, ByteArray.size_append]; omega
        have z6 : B6.size ≤ 63 := by rw [← e6, ByteArray.size_append]; show _ + 1 ≤ _; omega
        have z8a : B7.size ≤ 83 := by rw [← e7, ByteArray.size_append]; omega
        have z8 : B8.size ≤ 84 := by rw [← e8, ByteArray.size_append]; show _ + 1 ≤ _; omega
        have z9 : B9.size ≤ 104 := by rw [← e9, ByteArray.size_append]; omega
        have za : Ba.size ≤ 105 := by rw [← ea, ByteArray.size_append]; show _ + 1 ≤ _; omega
        have zb : Bb.size ≤ 505 := by rw [← eb, ByteArray.size_append]; omega
        have zc : Bc.size ≤ 748 := by rw [← ec, ByteArray.size_append]; omega
        have p1 := lin_add e1 (by show 1 + _ ≤ _; omega)
        have p2 := lin_add e2 (by show _ + 1 ≤ _; omega)
        have p3 := lin_add e3 (by omega)
        have p4 := lin_add e4 (by show _ + 1 ≤ _; omega)
        have p5 := lin_add e5 (by omega)
        have p6 := lin_add e6 (by show _ + 1 ≤ _; omega)
        have p7 := lin_add e7 (by omega)
        have p8 := lin_add e8 (by show _ + 1 ≤ _; omega)
        have p9 := lin_add e9 (by omega)
        have pa := lin_add ea (by show _ + 1 ≤ _; omega)
        have pb := lin_add eb (by omega)
        have pc := lin_add ec (by omega)
        have HDt : Hid (Bc = bs (lineH ⟨path, kind, target, ⟨m0, m1, m2, m3, m4, m5, m6⟩, data⟩ ++ lineD ⟨path, kind, target, ⟨m0, m1, m2, m3, m4, m5, m6⟩, data⟩ y m d l)) := by
          unfold Hid
          rw [← ec, HH.out, ← eb, ← ea, ← e9, ← e8, ← e7, ← e6, ← e5, ← e4, ← e3, ← e2, ← e1, ← HYS.out, ← HMS.out, ← HDS.out, ← HHS.out, ← HIS.out, ← HPS.out, hhv, hmiv]
          rw [← bs_plus]
          congr 1
        have HE6r := Lib.hid fun W (h : Below x6.heap.size x6 W) => blk11 (HE6.out.below h HE6.out.lt)
        rw [HPS.out] at HE6r
        clear e1 e2 e3 e4 e5 e6 e7 e8 e9 ea eb ec z1 z2 z3 z4 z5 z6 z8a z8 z9 za zb tY tM tD tH tI tP sY sM sD sH sI hhv hl2v hmiv
        go_upto_region 15 with fail
        go_cut [15] (fun v wx => v = .string Bc ∧ Below x6.heap.size x6 wx)
        case first =>
          have r0 : ∀ W : World, Below x6.heap.size x6 W → W.cell? ⟨w.heap.size, 0, none⟩ = some (.string PS) := fun W h => (HE6r.out W h).1.1
          have hS := Below.refl x6.heap.size x6
          go_region_held3 (fun W => Below x6.heap.size x6 W)
            (first
              | (with_reducible assumption)
              | (with_reducible refine Below.drew ?_; with_reducible assumption)
              | (with_reducible exact lin_below (by with_reducible assumption) (by with_reducible assumption)))
            (first
              | (go_at_call 26; with_reducible refine (HY6.out _ (by first | with_reducible assumption | with_reducible exact Below.drew (Below.refl _ _))).mono ?_; rintro e w7 ⟨rfl, hb7⟩)
              | (go_at_call 33; with_reducible refine (HM6.out _ (by first | with_reducible assumption | with_reducible exact lin_below (by with_reducible assumption) (by with_reducible assumption))).mono ?_; rintro e w8 ⟨rfl, hb8⟩)
              | (go_at_call 33; with_reducible refine (HD6.out _ (by first | with_reducible assumption | with_reducible exact lin_below (by with_reducible assumption) (by with_reducible assumption))).mono ?_; rintro e w9 ⟨rfl, hb9⟩)
              | (go_at_call 33; with_reducible refine (HH6.out _ (by first | with_reducible assumption | with_reducible exact lin_below (by with_reducible assumption) (by with_reducible assumption))).mono ?_; rintro e wa ⟨rfl, hba⟩)
              | (go_at_call 33; with_reducible refine (HI6.out _ (by first | with_reducible assumption | with_reducible exact lin_below (by with_reducible assumption) (by with_reducible assumption))).mono ?_; rintro e wb ⟨rfl, hbb⟩))
          all_goals
            go_wp2_with fail
            go_meet
            exact ⟨rfl, lin_below (lin_below (lin_below (lin_below (lin_below (Below.drew (Below.refl _ _)) hb7) hb8) hb9) hba) hbb⟩
        case rest =>
          obtain ⟨rfl, hb⟩ := hcut
          rename World => x7
          have HB7 := Lib.hid (HB6.out.trans (hb.mono HB6.out.size))
          have HE7 := Lib.hid (HE6.out.below hb HE6.out.lt)
          clear hb HE6r p1 p2 p3 p4 p5 p6 p7 p8 p9 pa pb pc HY6 HM6 HD6 HH6 HI6 HE6 HB6 wh wm wl2 hhh hl2 hmi
          obtain ⟨⟨c0, c1, c2, c3, c4, c5, c6, c7, c8, c9, cA⟩, -⟩ := blk11 HE7.out
          obtain ⟨TS, HTS⟩ := hid_name (bs target)
          rw [HTS.out] at c2
          have tT : TS.size ≤ 400 := by rw [← HTS.out, bs_size]; exact htl
          by_cases k3 : kind = 3
          · have k4 : ¬ kind = 4 := by omega
            obtain ⟨E1, f1⟩ : ∃ A, (⟨#[32, 45, 62, 32]⟩ : ByteArray) ++ TS = A := ⟨_, rfl⟩
            obtain ⟨E2, f2⟩ : ∃ A, Bc ++ E1 = A := ⟨_, rfl⟩
            have y1 : E1.size ≤ 409 := by rw [← f1, ByteArray.size_append]; show 4 + _ ≤ _; omega
            have q1 := lin_add f1 (by show 4 + _ ≤ _; omega)
            have q2 := lin_add f2 (by omega)
            have HF : Hid (E2 = bs (lineM ⟨path, kind, target, ⟨m0, m1, m2, m3, m4, m5, m6⟩, data⟩ y m d)) := by
              unfold Hid lineM
              rw [← f2, ← f1, ← HTS.out, HDt.out, HL.out]
              unfold tailM
              simp only [if_pos k3]
              rw [← bs_plus]
              congr 1
            clear f1 f2 y1
            go_wp2_with fail
            refine bodyPost_ret (v := .tuple #[.string E2, .int .i64 0]) (by simp [results, Tryd.results12, go_sem, *]) rfl ?_
            exact ⟨y, m, d, HO5.out.1, HO5.out.2, by rw [HF.out], HB7.out⟩
          · by_cases k4 : kind = 4
            · have k3' : ¬ kind = 3 := k3
              obtain ⟨E1, f1⟩ : ∃ A, (⟨#[32, 108, 105, 110, 107, 32, 116, 111, 32]⟩ : ByteArray) ++ TS = A := ⟨_, rfl⟩
              obtain ⟨E2, f2⟩ : ∃ A, Bc ++ E1 = A := ⟨_, rfl⟩
              have y1 : E1.size ≤ 409 := by rw [← f1, ByteArray.size_append]; show 9 + _ ≤ _; omega
              have q1 := lin_add f1 (by show 9 + _ ≤ _; omega)
              have q2 := lin_add f2 (by omega)
              have HF : Hid (E2 = bs (lineM ⟨path, kind, target, ⟨m0, m1, m2, m3, m4, m5, m6⟩, data⟩ y m d)) := by
                unfold Hid lineM
                rw [← f2, ← f1, ← HTS.out, HDt.out, HL.out]
                unfold tailM
                simp only [if_neg k3, if_pos k4]
                rw [← bs_plus]
                congr 1
              clear f1 f2 y1
              go_wp2_with fail
              refine bodyPost_ret (v := .tuple #[.string E2, .int .i64 0]) (by simp [results, Tryd.results12, go_sem, *]) rfl ?_
              exact ⟨y, m, d, HO5.out.1, HO5.out.2, by rw [HF.out], HB7.out⟩
            · have HF : Hid (Bc = bs (lineM ⟨path, kind, target, ⟨m0, m1, m2, m3, m4, m5, m6⟩, data⟩ y m d)) := by
                unfold Hid lineM
                rw [HDt.out, HL.out]
                unfold tailM
                simp only [if_neg k3, if_neg k4, List.append_nil]
              go_wp2_with fail
              refine bodyPost_ret (v := .tuple #[.string Bc, .int .i64 0]) (by simp [results, Tryd.results12, go_sem, *]) rfl ?_
              exact ⟨y, m, d, HO5.out.1, HO5.out.2, by rw [HF.out], HB7.out⟩
end Go.Proofs.YtdcbmjihpjnbbaaDoor
