/- Texts of one kind, in one file: MemYE. -/
import Derived.Test.YtmejnabngfpbeaaGreatDoorMya
set_option linter.unusedVariables false
set_option maxRecDepth 100000
namespace Go.Proofs.YtmejnabngfpbeaaGreatDoor
open Go.RowKit
open Go.OpenShut
set_option maxHeartbeats 16000000 in
theorem mRead_4 (A : Option Addr) (n c : Nat) (l : List UInt8) (hn : l.length = n) (hn2 : n ≤ 281474976000000) (hc : SlOk A n c) (w : World) (S : Std w) (hA : BytsAt w A l) (h1 : (firstM l).2 = 0) (h2 : (firstM l).1.1.typ = 120) (h3 : (paxR (firstM l).1.2.1).2 = 0) (h4 : (firstM (l.drop (firstM l).1.2.2)).2 = 0) :
  Calls Tryz.prog 30 #[.slice A n c] w fun e w' => ∃ D cc, e = .returned (.tuple #[.agg (entC (readM l).1.1 D cc).toArray, .int .i64 ((readM l).1.2 : Nat), .int .i64 (readM l).2]) ∧ SlOk D (readM l).1.1.data.length cc ∧ BytsAt w' D (readM l).1.1.data ∧ OwnB w' w.heap.size (.slice D (readM l).1.1.data.length cc) (readM l).1.1.data ∧ Below w.heap.size w w' := by
 have hN1 := (firstM_size h1).2.1
 have hDl := (firstM_size h1).2.2
 have hRv := (paxR_short (firstM l).1.2.1).1
 have hRl := (paxR_short (firstM l).1.2.1).2
 have hNK := paxR_keys (firstM l).1.2.1
 have HP0 := parts_two h1 h2 h3 h4
 have hDl2 := (firstM_size h4).2.2
 have hN2 := (firstM_size h4).2.1
 have hSm2 := firstM_small (l.drop (firstM l).1.2.2)
 have HF := Lib.hid h1
 have HD1 := Lib.hid fun W h => decode_any A n c l hn hn2 hc W h
 have hD2 := fun (N1 : Nat) (h : N1 ≤ n) W hA => decode_any (cutA A c N1) (n - N1) (c - N1) (l.drop N1) (by rw [List.length_drop, hn]) (by omega) (hc.cut N1 (by omega) (n - N1) (by have := hc.1; omega)) W hA
 have hsf := fun (N1 : Nat) (h : N1 ≤ n) W => slice_from W A n c N1 h
 have HSm := Lib.hid (firstM_small l)
 generalize hFM : firstM l = FM at *
 obtain ⟨⟨⟨n0, n1, n2, n3, n4, n5, n6, n7, n8, n9, nA⟩, D1, N1⟩, E1⟩ := FM
 simp only at HD1 HSm
 unfold headC at HD1
 simp only at HD1
 rw [List.length_drop] at hN2
 simp only at HP0 hDl2 hN2 hSm2
 simp only at h1 h2 h3 h4 HF hDl hN1 hRv hRl hNK
 subst h1
 have hty : ((n8.toNat : Int) == 120) = true := by rw [h2]; rfl
 have HPx := Lib.hid fun W TW => pRead_own (bs D1) W TW (by rw [bs_size]; omega)
 rw [bs_list, h3] at HPx
 have HD2 := Lib.hid fun W hA => hD2 N1 (by omega) W hA
 have hsf2 := hsf N1 (by omega)
 generalize hRS : (paxR D1).1 = RS at *
 have HC := Lib.hid hc
 generalize firstM (l.drop N1) = FM2 at *
 obtain ⟨⟨⟨m0, m1, m2, m3, m4, m5, m6, m7, m8, m9, mA⟩, D2, N2⟩, E2⟩ := FM2
 simp only at HD2 h4 HP0 hDl2 hN2 hSm2
 unfold headC at HD2
 simp only at HD2
 subst h4
 have HRv := Lib.hid hRv
 have HRl := Lib.hid hRl
 have HNK := Lib.hid hNK
 have HSm2 := Lib.hid hSm2
 have hD2l : D2.length ≤ 140737488351232 := by omega
 have HD2l := Lib.hid hD2l
 have hNt : IntKind.i64.wrap ((N2 : Int) + (N1 : Int)) = ((N1 + N2 : Nat) : Int) := by rw [IntKind.wrap_i64]; omega
 obtain ⟨NT, hNT⟩ : ∃ NT, NT = N1 + N2 := ⟨_, rfl⟩
 rw [← hNT] at hNt HP0
 have HP1 := Lib.hid HP0
 have hNTn : NT ≤ n := by omega
 have hst := fun W => slice_to W A n c NT (by have := hc.1; omega)
 clear h2 h3 hFM hRS hD2 hsf hNK hRv hRl HF HSm hDl2 hSm2 hD2l HP0
 have hZ0 := Blk.new w 34 #[.string ⟨#[]⟩, .int .i64 0, .string ⟨#[]⟩, .int .i64 0, .int .i64 0, .int .i64 0, .string ⟨#[]⟩, .string ⟨#[]⟩, .int .i64 0, .int .i64 0, .slice none 0 0]
 have hB0 := (Below.refl w.heap.size w).alloc (Nat.le_refl _) (.cells #[.string ⟨#[]⟩, .int .i64 0, .string ⟨#[]⟩, .int .i64 0, .int .i64 0, .int .i64 0, .string ⟨#[]⟩, .string ⟨#[]⟩, .int .i64 0, .int .i64 0, .slice none 0 0] 34)
 have HZ0 := Lib.hid hZ0
 have HB0 := Lib.hid hB0
 have HA := Lib.hid hA
 clear hZ0 hB0 hA
 go_enter Tryz.func30, Tryz.ntmps30
 go_wp2_with fail
 refine (HD1.out _ (HA.out.below HB0.out)).mono ?_; rintro e x1 ⟨v1, rfl, ho1, hb1⟩
 obtain ⟨A1, c1, rfl, hs1, ha1⟩ := ho1.form
 have hB1 := HB0.out.trans (hb1.mono HB0.out.size)
 have hB2 := hB1.alloc hB1.size (.cells #[.string (bs n0), .string (bs n1), .string (bs n2), .int .i64 n3, .int .i64 n4, .int .i64 n5, .int .i64 n6, .int .i64 n7, .int .u8 (n8.toNat : Int), .string (bs n9), .string (bs nA)] 74)
 have hZ2 := (HZ0.out.below hb1 HZ0.out.lt).alloc (.cells #[.string (bs n0), .string (bs n1), .string (bs n2), .int .i64 n3, .int .i64 n4, .int .i64 n5, .int .i64 n6, .int .i64 n7, .int .u8 (n8.toNat : Int), .string (bs n9), .string (bs nA)] 74)
 have hH2 := Blk.new x1 74 #[.string (bs n0), .string (bs n1), .string (bs n2), .int .i64 n3, .int .i64 n4, .int .i64 n5, .int .i64 n6, .int .i64 n7, .int .u8 (n8.toNat : Int), .string (bs n9), .string (bs nA)]
 have hO2 := ho1.alloc (.cells #[.string (bs n0), .string (bs n1), .string (bs n2), .int .i64 n3, .int .i64 n4, .int .i64 n5, .int .i64 n6, .int .i64 n7, .int .u8 (n8.toNat : Int), .string (bs n9), .string (bs nA)] 74)
 have hA2 := ha1.below ((Below.refl x1.heap.size x1).alloc (Nat.le_refl _) (.cells #[.string (bs n0), .string (bs n1), .string (bs n2), .int .i64 n3, .int .i64 n4, .int .i64 n5, .int .i64 n6, .int .i64 n7, .int .u8 (n8.toNat : Int), .string (bs n9), .string (bs nA)] 74))
 have hne2 : w.heap.size < x1.heap.size := (HZ0.out.below hb1 HZ0.out.lt).lt
 go_upto_region 2 with fail
 generalize x1.alloc (.cells #[.string (bs n0), .string (bs n1), .string (bs n2), .int .i64 n3, .int .i64 n4, .int .i64 n5, .int .i64 n6, .int .i64 n7, .int .u8 (n8.toNat : Int), .string (bs n9), .string (bs nA)] 74) = x2 at hB2 hZ2 hH2 hO2 hA2 ⊢
 generalize x1.heap.size = gH at hH2 hne2 ⊢
 have HB2 := Lib.hid hB2
 have HZ2 := Lib.hid hZ2
 have HH2 := Lib.hid hH2
 have HO2 := Lib.hid hO2
 have HA2 := Lib.hid hA2
 have HSO := Lib.hid hs1
 clear hA2 hs1 hb1 ho1 ha1 hB1 hB2 hZ2 hH2 hO2 HD1
 have q8 := HH2.out.cell 8
 simp only [List.getElem?_toArray, List.getElem?_cons_succ, List.getElem?_cons_zero] at q8
 have hcv := HA2.out.conv c1 (fun e => by subst e; exact HA2.out.none_nil)
 go_wp2_with fail
 refine (HPx.out _ (S.tab.below HB2.out)).mono ?_; rintro e x3 ⟨A3, k3, c3, rfl, hr3, hb3⟩
 have HB3 := Lib.hid (HB2.out.trans (hb3.mono HB2.out.size))
 have HZ3 := Lib.hid (HZ2.out.below hb3 HZ2.out.lt)
 have HH3 := Lib.hid (HH2.out.below hb3 HH2.out.lt)
 have HR3 := Lib.hid hr3
 have HGH := Lib.hid HH2.out.lt
 clear hb3 hcv q8 hr3 HZ2 HH2 HO2 HA2 HSO
 go_wp2_with fail
 refine (HD2.out _ ((HA.out.below HB3.out).cut (c := c) (by have := HC.out.1; omega) N1 (by omega))).mono ?_; rintro e x4 ⟨v4, rfl, ho4, hb4⟩
 obtain ⟨A4, c4, rfl, hs4, ha4⟩ := ho4.form
 have hH4 := HH3.out.below hb4 HH3.out.lt
 have hZ4 := HZ3.out.below hb4 HZ3.out.lt
 have hR4 := HR3.out.below hb4
 have hg3 : gH < x3.heap.size := HH3.out.lt
 have hw3 : w.heap.size < x3.heap.size := HZ3.out.lt
 have hB4 := HB3.out.trans (hb4.mono HB3.out.size)
 obtain ⟨⟨q0, q1, q2, q3, q4, q5, q6, q7, q8, q9, qA⟩, f0, f1, f2, f3, f4, f5, f6, f7, f8, f9, fA⟩ := blk11 hH4
 have hB5 := below_set11 hB4 (Nat.le_of_lt hne2) (.string (bs m0)) (.string (bs m1)) (.string (bs m2)) (.int .i64 m3) (.int .i64 m4) (.int .i64 m5) (.int .i64 m6) (.int .i64 m7) (.int .u8 (m8.toNat : Int)) (.string (bs m9)) (.string (bs mA))
 have hZ5 : Blk (((((((((((x4.setCell ⟨gH, 0, none⟩ (.string (bs m0))).setCell ⟨gH, 1, none⟩ (.string (bs m1))).setCell ⟨gH, 2, none⟩ (.string (bs m2))).setCell ⟨gH, 3, none⟩ (.int .i64 m3)).setCell ⟨gH, 4, none⟩ (.int .i64 m4)).setCell ⟨gH, 5, none⟩ (.int .i64 m5)).setCell ⟨gH, 6, none⟩ (.int .i64 m6)).setCell ⟨gH, 7, none⟩ (.int .i64 m7)).setCell ⟨gH, 8, none⟩ (.int .u8 (m8.toNat : Int))).setCell ⟨gH, 9, none⟩ (.string (bs m9))).setCell ⟨gH, 10, none⟩ (.string (bs mA))) w.heap.size 34 #[.string ⟨#[]⟩, .int .i64 0, .string ⟨#[]⟩, .int .i64 0, .int .i64 0, .int .i64 0, .string ⟨#[]⟩, .string ⟨#[]⟩, .int .i64 0, .int .i64 0, .slice none 0 0] := far11 hZ4 (Nat.ne_of_lt hne2) (.string (bs m0)) (.string (bs m1)) (.string (bs m2)) (.int .i64 m3) (.int .i64 m4) (.int .i64 m5) (.int .i64 m6) (.int .i64 m7) (.int .u8 (m8.toNat : Int)) (.string (bs m9)) (.string (bs mA))
 have hH5 : Blk (((((((((((x4.setCell ⟨gH, 0, none⟩ (.string (bs m0))).setCell ⟨gH, 1, none⟩ (.string (bs m1))).setCell ⟨gH, 2, none⟩ (.string (bs m2))).setCell ⟨gH, 3, none⟩ (.int .i64 m3)).setCell ⟨gH, 4, none⟩ (.int .i64 m4)).setCell ⟨gH, 5, none⟩ (.int .i64 m5)).setCell ⟨gH, 6, none⟩ (.int .i64 m6)).setCell ⟨gH, 7, none⟩ (.int .i64 m7)).setCell ⟨gH, 8, none⟩ (.int .u8 (m8.toNat : Int))).setCell ⟨gH, 9, none⟩ (.string (bs m9))).setCell ⟨gH, 10, none⟩ (.string (bs mA))) gH 74 #[.string (bs m0), .string (bs m1), .string (bs m2), .int .i64 m3, .int .i64 m4, .int .i64 m5, .int .i64 m6, .int .i64 m7, .int .u8 (m8.toNat : Int), .string (bs m9), .string (bs mA)] := blk_set11 hH4 (.string (bs m0)) (.string (bs m1)) (.string (bs m2)) (.int .i64 m3) (.int .i64 m4) (.int .i64 m5) (.int .i64 m6) (.int .i64 m7) (.int .u8 (m8.toNat : Int)) (.string (bs m9)) (.string (bs mA))
 have hO5 := own_set11 ho4 hg3 (.string (bs m0)) (.string (bs m1)) (.string (bs m2)) (.int .i64 m3) (.int .i64 m4) (.int .i64 m5) (.int .i64 m6) (.int .i64 m7) (.int .u8 (m8.toNat : Int)) (.string (bs m9)) (.string (bs mA))
 have hR5 := own_set11r hR4 HGH.out (.string (bs m0)) (.string (bs m1)) (.string (bs m2)) (.int .i64 m3) (.int .i64 m4) (.int .i64 m5) (.int .i64 m6) (.int .i64 m7) (.int .u8 (m8.toNat : Int)) (.string (bs m9)) (.string (bs mA))
 obtain ⟨A9, c9, e9, -, hA5⟩ := hO5.form
 injection e9 with e91 e92 e93
 subst e91 e93
 clear e92
 go_upto_region 11 with fail
 generalize (((((((((((x4.setCell ⟨gH, 0, none⟩ (.string (bs m0))).setCell ⟨gH, 1, none⟩ (.string (bs m1))).setCell ⟨gH, 2, none⟩ (.string (bs m2))).setCell ⟨gH, 3, none⟩ (.int .i64 m3)).setCell ⟨gH, 4, none⟩ (.int .i64 m4)).setCell ⟨gH, 5, none⟩ (.int .i64 m5)).setCell ⟨gH, 6, none⟩ (.int .i64 m6)).setCell ⟨gH, 7, none⟩ (.int .i64 m7)).setCell ⟨gH, 8, none⟩ (.int .u8 (m8.toNat : Int))).setCell ⟨gH, 9, none⟩ (.string (bs m9))).setCell ⟨gH, 10, none⟩ (.string (bs mA))) = x5 at hB5 hZ5 hH5 hO5 hR5 hA5 ⊢
 have HB5 := Lib.hid hB5
 have HZ5 := Lib.hid hZ5
 have HH5 := Lib.hid hH5
 have HO5 := Lib.hid hO5
 have HR5 := Lib.hid hR5
 have HAD := Lib.hid hA5
 have HSO := Lib.hid hs4
 have HLT := Lib.hid hw3
 have HKN : Hid (RS.length = k3) := hR5.1
 clear ho4 ha4 hs4 hb4 hH4 hZ4 hR4 hB4 hB5 hZ5 hH5 hO5 hR5 hA5 q0 q1 q2 q3 q4 q5 q6 q7 q8 q9 qA f0 f1 f2 f3 f4 f5 f6 f7 f8 f9 fA hsf2 hg3 hw3 HH3 HZ3 HB3 HR3 HPx HD2 HC hNT hty HGH
 have HT := Lib.hid (read_told HP1.out (told_fold HNK.out))
 have HEn := Lib.hid fun W SW hR => entry_any ⟨m0, m1, m2, m3, m4, m5, m6, m7, m8, m9, mA⟩ HSm2.out A4 c4 D2 A3 k3 c3 RS HKN.out (by first | exact HRl.out | exact HKN.out ▸ HRl.out) (fun r hr => Nat.le_trans (HRv.out r hr) (by decide)) W SW hR
 have hyd : (RS.foldl takF (bareF ⟨m0, m1, m2, m3, m4, m5, m6, m7, m8, m9, mA⟩ D2)).data = D2 := fold_data _ _
 have hysz := took_small HSm2.out HNK.out HRv.out (by first | exact HD2l.out | (have := HD2l.out; omega))
 obtain ⟨y, HY⟩ := hid_name (RS.foldl takF (bareF ⟨m0, m1, m2, m3, m4, m5, m6, m7, m8, m9, mA⟩ D2))
 rw [HY.out] at HT HEn hyd hysz
 have HWr := Lib.hid fun W TW hA hsl => mWrite_any y A4 c4 hysz W TW hA hsl
 have hsY : SlOk A4 y.data.length c4 := by rw [hyd]; exact HSO.out
 have HSY := Lib.hid hsY
 have HAY : Hid (∀ W, Below x5.heap.size x5 W → BytsAt W A4 y.data) := fun W h => by rw [hyd]; exact HAD.out.below h
 have HYD := Lib.hid hyd
 have hEq := fun (A' : Option Addr) (n' cc' : Nat) (hn' : (bytO y).length = n') W h1 h2 => bEqual_any A' A n' cc' NT c (bytO y) (l.take NT) hn' (by rw [List.length_take]; omega) W h1 h2
 have HEq := Lib.hid hEq
 have HBO : Hid (bytO y = if entE y = 0 then bytesM y else []) := rfl
 generalize bytO y = BO at HWr HEq HBO
 obtain ⟨EY, HEY⟩ := hid_name (entE y)
 rw [HEY.out] at HT HWr HBO
 clear hysz hsY hyd hEq
 unfold headC at HEn
 unfold entC at HEn HWr
 obtain ⟨path, kind, target, ⟨m0', m1', m2', m3', m4', m5', m6'⟩, data⟩ := y
 simp only at HEn HWr HSY HAY HYD
 obtain ⟨dl, HDL⟩ := hid_name data.length
 have HVL : Hid ((entC ⟨path, kind, target, ⟨m0', m1', m2', m3', m4', m5', m6'⟩, data⟩ A4 c4).toArray = #[.string (bs path), .int .i64 kind, .string (bs target), .int .i64 m0', .int .i64 m1', .int .i64 m2', .string (bs m3'), .string (bs m4'), .int .i64 m5', .int .i64 m6', .slice A4 dl c4]) := by unfold Hid; rw [← HDL.out]; rfl
 have HOY : Hid (∀ {W : World} {B n c : Nat} {v : Value}, OwnB W B (.slice A4 n c) D2 → OwnB W B (.slice A4 n c) data) := by intro W B n c v h; rw [HYD.out]; exact h
 rw [HDL.out] at HEn HWr HSY
 obtain ⟨⟨q0, q1, q2, q3, q4, q5, q6, q7, q8, q9, qA⟩, -⟩ := blk11 HH5.out
 go_wp2_with fail
 refine (HEn.out _ (S.below HB5.out) (HR5.out.at)).mono ?_; rintro e x5 ⟨rfl, hb5⟩
 have hE5 := Blk.new x5 34 #[.string (bs path), .int .i64 kind, .string (bs target), .int .i64 m0', .int .i64 m1', .int .i64 m2', .string (bs m3'), .string (bs m4'), .int .i64 m5', .int .i64 m6', .slice A4 dl c4]
 have hX5 := hb5.alloc hb5.size (.cells #[.string (bs path), .int .i64 kind, .string (bs target), .int .i64 m0', .int .i64 m1', .int .i64 m2', .string (bs m3'), .string (bs m4'), .int .i64 m5', .int .i64 m6', .slice A4 dl c4] 34)
 go_upto_region 15 with fail
 generalize x5.alloc (.cells #[.string (bs path), .int .i64 kind, .string (bs target), .int .i64 m0', .int .i64 m1', .int .i64 m2', .string (bs m3'), .string (bs m4'), .int .i64 m5', .int .i64 m6', .slice A4 dl c4] 34) = x6 at hE5 hX5 ⊢
 generalize x5.heap.size = gE at hE5 ⊢
 have HX6 := Lib.hid hX5
 have HE6 := Lib.hid hE5
 obtain ⟨⟨p0, p1, p2, p3, p4, p5, p6, p7, p8, p9, pA⟩, -⟩ := blk11 hE5
 clear hb5 hX5 hE5 q0 q1 q2 q3 q4 q5 q6 q7 q8 q9 qA HEn
 go_wp2_with fail
 refine (HWr.out _ (S.tab.below (HB5.out.trans (HX6.out.mono HB5.out.size))) (HAY.out _ HX6.out) HSY.out).mono ?_; rintro e x7 ⟨AW, nW, cW, rfl, hsW, hnW, haW, hb7⟩
 have HX7 := Lib.hid (HX6.out.trans (hb7.mono HX6.out.size))
 have HE7 := Lib.hid (HE6.out.below hb7 HE6.out.lt)
 have HAW := Lib.hid haW
 have HNW := Lib.hid hnW
 clear hb7 hsW hnW haW p0 p1 p2 p3 p4 p5 p6 p7 p8 p9 pA HX6 HE6 HWr
 by_cases hEY : EY = 0
 ·have HBe : Hid (BO = bytesM ⟨path, kind, target, ⟨m0', m1', m2', m3', m4', m5', m6'⟩, data⟩) := by unfold Hid; rw [HBO.out, if_pos hEY]
  have HQ := Lib.hid (HEq.out AW nW cW HNW.out x7 HAW.out ((HA.out.below (HB5.out.trans (HX7.out.mono HB5.out.size))).take NT))
  by_cases hbq : BO = l.take NT
  ·have hqb : (BO == l.take NT) = true := by rw [hbq]; simp
   rw [hqb] at HQ
   have HF := HT.out
   rw [if_pos ⟨hEY, by rw [← HBe.out]; exact hbq⟩] at HF
   replace HF := Lib.hid HF
   clear hbq HBe HEq HBO hqb
   subst hEY
   obtain ⟨⟨z0, z1, z2, z3, z4, z5, z6, z7, z8, z9, zA⟩, y0, y1, y2, y3, y4, y5, y6, y7, y8, y9, yA⟩ := blk11 (HZ5.out.below HX7.out HZ5.out.lt)
   obtain ⟨⟨p0, p1, p2, p3, p4, p5, p6, p7, p8, p9, pA⟩, -⟩ := blk11 HE7.out
   go_wp2_with fail
   refine HQ.out.mono ?_; rintro e x8 ⟨rfl, rfl⟩
   go_wp2_with fail
   refine bodyPost_ret (v := .tuple #[.agg #[.string (bs path), .int .i64 kind, .string (bs target), .int .i64 m0', .int .i64 m1', .int .i64 m2', .string (bs m3'), .string (bs m4'), .int .i64 m5', .int .i64 m6', .slice A4 dl c4], .int .i64 ((NT : Nat) : Int), .int .i64 0]) (by simp [results, Tryz.results30, go_sem, *]) rfl ?_
   exact fin_yes2 HF.out HVL.out (by rw [HDL.out]; exact HSY.out) (by have hX := (HOY.out (v := .slice none 0 0) (own_set11 (HO5.out.below HX7.out) HLT.out (.string (bs path)) (.int .i64 kind) (.string (bs target)) (.int .i64 m0') (.int .i64 m1') (.int .i64 m2') (.string (bs m3')) (.string (bs m4')) (.int .i64 m5') (.int .i64 m6') (.slice A4 dl c4))).mono (Nat.le_of_lt HLT.out); rw [HYD.out] at hX ⊢; exact hX) (below_set11 (HB5.out.trans (HX7.out.mono HB5.out.size)) (Nat.le_refl _) _ _ _ _ _ _ _ _ _ _ _)
  ·have hqb : (BO == l.take NT) = false := by simpa using hbq
   rw [hqb] at HQ
   have HF := HT.out
   rw [if_neg (fun h => hbq (by rw [HBe.out]; exact h.2))] at HF
   replace HF := Lib.hid HF
   clear hbq HBe HEq HBO hqb
   subst hEY
   obtain ⟨⟨z0, z1, z2, z3, z4, z5, z6, z7, z8, z9, zA⟩, y0, y1, y2, y3, y4, y5, y6, y7, y8, y9, yA⟩ := blk11 (HZ5.out.below HX7.out HZ5.out.lt)
   go_wp2_with fail
   refine HQ.out.mono ?_; rintro e x8 ⟨rfl, rfl⟩
   go_wp2_with fail
   refine bodyPost_ret (v := .tuple #[.agg #[.string ⟨#[]⟩, .int .i64 0, .string ⟨#[]⟩, .int .i64 0, .int .i64 0, .int .i64 0, .string ⟨#[]⟩, .string ⟨#[]⟩, .int .i64 0, .int .i64 0, .slice none 0 0], .int .i64 0, .int .i64 3]) (by simp [results, Tryz.results30, go_sem, *]) rfl ?_
   exact fin_no2 HF.out (below_set11 (HB5.out.trans (HX7.out.mono HB5.out.size)) (Nat.le_refl _) _ _ _ _ _ _ _ _ _ _ _)
 ·have HF := HT.out
  rw [if_neg (fun h => hEY h.1)] at HF
  replace HF := Lib.hid HF
  have hne : (EY != 0) = true := by simpa using hEY
  clear HEq HBO
  obtain ⟨⟨z0, z1, z2, z3, z4, z5, z6, z7, z8, z9, zA⟩, y0, y1, y2, y3, y4, y5, y6, y7, y8, y9, yA⟩ := blk11 (HZ5.out.below HX7.out HZ5.out.lt)
  go_wp2_with fail
  refine bodyPost_ret (v := .tuple #[.agg #[.string ⟨#[]⟩, .int .i64 0, .string ⟨#[]⟩, .int .i64 0, .int .i64 0, .int .i64 0, .string ⟨#[]⟩, .string ⟨#[]⟩, .int .i64 0, .int .i64 0, .slice none 0 0], .int .i64 0, .int .i64 3]) (by simp [results, Tryz.results30, go_sem, *]) rfl ?_
  exact fin_no2 HF.out (below_set11 (HB5.out.trans (HX7.out.mono HB5.out.size)) (Nat.le_refl _) _ _ _ _ _ _ _ _ _ _ _)
end Go.Proofs.YtmejnabngfpbeaaGreatDoor
