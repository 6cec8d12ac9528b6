/- Texts of one kind, in one file: MemYC, MemYD. -/
import Derived.Test.YtmejnabngfpbeaaGreatDoorMya
set_option linter.unusedVariables false
set_option maxRecDepth 100000
namespace Go.Proofs.YtmejnabngfpbeaaGreatDoor
open Go.RowKit
open Go.OpenShut
set_option maxHeartbeats 4000000 in
theorem mRead_2 (A : Option Addr) (n c : Nat) (l : List UInt8) (hn : l.length = n) (hn2 : n ≤ 281474976000000) (hc : SlOk A n c) (w : World) (S : Std w) (hA : BytsAt w A l) (h1 : (firstM l).2 = 0) (h2 : (firstM l).1.1.typ = 120) (h3 : (paxR (firstM l).1.2.1).2 ≠ 0) :
  Calls Tryz.prog 30 #[.slice A n c] w fun e w' => ∃ D cc, e = .returned (.tuple #[.agg (entC (readM l).1.1 D cc).toArray, .int .i64 ((readM l).1.2 : Nat), .int .i64 (readM l).2]) ∧ SlOk D (readM l).1.1.data.length cc ∧ BytsAt w' D (readM l).1.1.data ∧ OwnB w' w.heap.size (.slice D (readM l).1.1.data.length cc) (readM l).1.1.data ∧ Below w.heap.size w w' := by
 have HF : Hid (readM l = ((entZ, 0), (paxR (firstM l).1.2.1).2)) := by unfold Hid; rw [read_err (by rw [parts_pax h1 h2 h3]; exact h3), parts_pax h1 h2 h3]
 have hDl := (firstM_size h1).2.2
 have HD1 := Lib.hid fun W h => decode_any A n c l hn hn2 hc W h
 have HSm := Lib.hid (firstM_small l)
 generalize hFM : firstM l = FM at *
 obtain ⟨⟨⟨n0, n1, n2, n3, n4, n5, n6, n7, n8, n9, nA⟩, D1, N1⟩, E1⟩ := FM
 simp only at HD1 HSm
 unfold headC at HD1
 simp only at HD1
 simp only at h1 h2 h3 HF hDl
 subst h1
 have hty : ((n8.toNat : Int) == 120) = true := by rw [h2]; rfl
 have HPx := Lib.hid fun W TW => pRead_own (bs D1) W TW (by rw [bs_size]; omega)
 rw [bs_list] at HPx
 obtain ⟨E3, HE3⟩ := hid_name (paxR D1).2
 rw [HE3.out] at HPx h3 HF
 generalize (paxR D1).1 = RS at HPx
 have hne : (E3 != 0) = true := by simpa using h3
 clear h2 h3 hFM
 have hZ0 := Blk.new w 34 #[.string ⟨#[]⟩, .int .i64 0, .string ⟨#[]⟩, .int .i64 0, .int .i64 0, .int .i64 0, .string ⟨#[]⟩, .string ⟨#[]⟩, .int .i64 0, .int .i64 0, .slice none 0 0]
 have hB0 := (Below.refl w.heap.size w).alloc (Nat.le_refl _) (.cells #[.string ⟨#[]⟩, .int .i64 0, .string ⟨#[]⟩, .int .i64 0, .int .i64 0, .int .i64 0, .string ⟨#[]⟩, .string ⟨#[]⟩, .int .i64 0, .int .i64 0, .slice none 0 0] 34)
 have HZ0 := Lib.hid hZ0
 have HB0 := Lib.hid hB0
 have HA := Lib.hid hA
 clear hZ0 hB0 hA
 go_enter Tryz.func30, Tryz.ntmps30
 go_wp2_with fail
 refine (HD1.out _ (HA.out.below HB0.out)).mono ?_; rintro e x1 ⟨v1, rfl, ho1, hb1⟩
 obtain ⟨A1, c1, rfl, hs1, ha1⟩ := ho1.form
 have hB1 := HB0.out.trans (hb1.mono HB0.out.size)
 have hB2 := hB1.alloc hB1.size (.cells #[.string (bs n0), .string (bs n1), .string (bs n2), .int .i64 n3, .int .i64 n4, .int .i64 n5, .int .i64 n6, .int .i64 n7, .int .u8 (n8.toNat : Int), .string (bs n9), .string (bs nA)] 74)
 have hZ2 := (HZ0.out.below hb1 HZ0.out.lt).alloc (.cells #[.string (bs n0), .string (bs n1), .string (bs n2), .int .i64 n3, .int .i64 n4, .int .i64 n5, .int .i64 n6, .int .i64 n7, .int .u8 (n8.toNat : Int), .string (bs n9), .string (bs nA)] 74)
 have hH2 := Blk.new x1 74 #[.string (bs n0), .string (bs n1), .string (bs n2), .int .i64 n3, .int .i64 n4, .int .i64 n5, .int .i64 n6, .int .i64 n7, .int .u8 (n8.toNat : Int), .string (bs n9), .string (bs nA)]
 have hO2 := ho1.alloc (.cells #[.string (bs n0), .string (bs n1), .string (bs n2), .int .i64 n3, .int .i64 n4, .int .i64 n5, .int .i64 n6, .int .i64 n7, .int .u8 (n8.toNat : Int), .string (bs n9), .string (bs nA)] 74)
 have hA2 := ha1.below ((Below.refl x1.heap.size x1).alloc (Nat.le_refl _) (.cells #[.string (bs n0), .string (bs n1), .string (bs n2), .int .i64 n3, .int .i64 n4, .int .i64 n5, .int .i64 n6, .int .i64 n7, .int .u8 (n8.toNat : Int), .string (bs n9), .string (bs nA)] 74))
 have hne2 : w.heap.size < x1.heap.size := (HZ0.out.below hb1 HZ0.out.lt).lt
 go_upto_region 2 with fail
 generalize x1.alloc (.cells #[.string (bs n0), .string (bs n1), .string (bs n2), .int .i64 n3, .int .i64 n4, .int .i64 n5, .int .i64 n6, .int .i64 n7, .int .u8 (n8.toNat : Int), .string (bs n9), .string (bs nA)] 74) = x2 at hB2 hZ2 hH2 hO2 hA2 ⊢
 generalize x1.heap.size = gH at hH2 hne2 ⊢
 have HB2 := Lib.hid hB2
 have HZ2 := Lib.hid hZ2
 have HH2 := Lib.hid hH2
 have HO2 := Lib.hid hO2
 have HA2 := Lib.hid hA2
 have HSO := Lib.hid hs1
 clear hA2 hs1 hb1 ho1 ha1 hB1 hB2 hZ2 hH2 hO2 HD1
 have q8 := HH2.out.cell 8
 simp only [List.getElem?_toArray, List.getElem?_cons_succ, List.getElem?_cons_zero] at q8
 have hcv := HA2.out.conv c1 (fun e => by subst e; exact HA2.out.none_nil)
 go_wp2_with fail
 refine (HPx.out _ (S.tab.below HB2.out)).mono ?_; rintro e x3 ⟨A3, k3, c3, rfl, -, hb3⟩
 have HB3 := Lib.hid (HB2.out.trans (hb3.mono HB2.out.size))
 obtain ⟨⟨z0, z1, z2, z3, z4, z5, z6, z7, z8, z9, zA⟩, y0, y1, y2, y3, y4, y5, y6, y7, y8, y9, yA⟩ := blk11 (HZ2.out.below hb3 HZ2.out.lt)
 clear hb3 hcv
 go_wp2_with fail
 refine bodyPost_ret (v := .tuple #[.agg #[.string ⟨#[]⟩, .int .i64 0, .string ⟨#[]⟩, .int .i64 0, .int .i64 0, .int .i64 0, .string ⟨#[]⟩, .string ⟨#[]⟩, .int .i64 0, .int .i64 0, .slice none 0 0], .int .i64 0, .int .i64 E3]) (by simp [results, Tryz.results30, go_sem, *]) rfl ?_
 rw [HF.out]
 exact ⟨none, 0, rfl, ⟨Nat.le_refl _, by decide, fun _ => rfl⟩, fun j hj => (by cases hj), OwnB.nil _ _, below_set11 HB3.out (Nat.le_refl _) _ _ _ _ _ _ _ _ _ _ _⟩
set_option maxHeartbeats 8000000 in
theorem mRead_3 (A : Option Addr) (n c : Nat) (l : List UInt8) (hn : l.length = n) (hn2 : n ≤ 281474976000000) (hc : SlOk A n c) (w : World) (S : Std w) (hA : BytsAt w A l) (h1 : (firstM l).2 = 0) (h2 : (firstM l).1.1.typ = 120) (h3 : (paxR (firstM l).1.2.1).2 = 0) (h4 : (firstM (l.drop (firstM l).1.2.2)).2 ≠ 0) :
  Calls Tryz.prog 30 #[.slice A n c] w fun e w' => ∃ D cc, e = .returned (.tuple #[.agg (entC (readM l).1.1 D cc).toArray, .int .i64 ((readM l).1.2 : Nat), .int .i64 (readM l).2]) ∧ SlOk D (readM l).1.1.data.length cc ∧ BytsAt w' D (readM l).1.1.data ∧ OwnB w' w.heap.size (.slice D (readM l).1.1.data.length cc) (readM l).1.1.data ∧ Below w.heap.size w w' := by
 have hN1 := (firstM_size h1).2.1
 have hDl := (firstM_size h1).2.2
 have hRv := (paxR_short (firstM l).1.2.1).1
 have hRl := (paxR_short (firstM l).1.2.1).2
 have hNK := paxR_keys (firstM l).1.2.1
 have HF : Hid (readM l = ((entZ, 0), (firstM (l.drop (firstM l).1.2.2)).2)) := by unfold Hid; rw [read_err (by rw [parts_next h1 h2 h3 h4]; exact h4), parts_next h1 h2 h3 h4]
 have HD1 := Lib.hid fun W h => decode_any A n c l hn hn2 hc W h
 have hD2 := fun (N1 : Nat) (h : N1 ≤ n) W hA => decode_any (cutA A c N1) (n - N1) (c - N1) (l.drop N1) (by rw [List.length_drop, hn]) (by omega) (hc.cut N1 (by omega) (n - N1) (by have := hc.1; omega)) W hA
 have hsf := fun (N1 : Nat) (h : N1 ≤ n) W => slice_from W A n c N1 h
 have HSm := Lib.hid (firstM_small l)
 generalize hFM : firstM l = FM at *
 obtain ⟨⟨⟨n0, n1, n2, n3, n4, n5, n6, n7, n8, n9, nA⟩, D1, N1⟩, E1⟩ := FM
 simp only at HD1 HSm
 unfold headC at HD1
 simp only at HD1
 simp only at h1 h2 h3 h4 HF hDl hN1 hRv hRl hNK
 subst h1
 have hty : ((n8.toNat : Int) == 120) = true := by rw [h2]; rfl
 have HPx := Lib.hid fun W TW => pRead_own (bs D1) W TW (by rw [bs_size]; omega)
 rw [bs_list, h3] at HPx
 have HD2 := Lib.hid fun W hA => hD2 N1 (by omega) W hA
 have hsf2 := hsf N1 (by omega)
 generalize hRS : (paxR D1).1 = RS at *
 have HC := Lib.hid hc
 generalize firstM (l.drop N1) = FM2 at *
 obtain ⟨⟨⟨m0, m1, m2, m3, m4, m5, m6, m7, m8, m9, mA⟩, D2, N2⟩, E2⟩ := FM2
 simp only at HD2 h4 HF
 unfold headC at HD2
 simp only at HD2
 have hne : (E2 != 0) = true := by simpa using h4
 clear h2 h3 h4 hFM hRS hD2 hsf hNK hRv hRl
 have hZ0 := Blk.new w 34 #[.string ⟨#[]⟩, .int .i64 0, .string ⟨#[]⟩, .int .i64 0, .int .i64 0, .int .i64 0, .string ⟨#[]⟩, .string ⟨#[]⟩, .int .i64 0, .int .i64 0, .slice none 0 0]
 have hB0 := (Below.refl w.heap.size w).alloc (Nat.le_refl _) (.cells #[.string ⟨#[]⟩, .int .i64 0, .string ⟨#[]⟩, .int .i64 0, .int .i64 0, .int .i64 0, .string ⟨#[]⟩, .string ⟨#[]⟩, .int .i64 0, .int .i64 0, .slice none 0 0] 34)
 have HZ0 := Lib.hid hZ0
 have HB0 := Lib.hid hB0
 have HA := Lib.hid hA
 clear hZ0 hB0 hA
 go_enter Tryz.func30, Tryz.ntmps30
 go_wp2_with fail
 refine (HD1.out _ (HA.out.below HB0.out)).mono ?_; rintro e x1 ⟨v1, rfl, ho1, hb1⟩
 obtain ⟨A1, c1, rfl, hs1, ha1⟩ := ho1.form
 have hB1 := HB0.out.trans (hb1.mono HB0.out.size)
 have hB2 := hB1.alloc hB1.size (.cells #[.string (bs n0), .string (bs n1), .string (bs n2), .int .i64 n3, .int .i64 n4, .int .i64 n5, .int .i64 n6, .int .i64 n7, .int .u8 (n8.toNat : Int), .string (bs n9), .string (bs nA)] 74)
 have hZ2 := (HZ0.out.below hb1 HZ0.out.lt).alloc (.cells #[.string (bs n0), .string (bs n1), .string (bs n2), .int .i64 n3, .int .i64 n4, .int .i64 n5, .int .i64 n6, .int .i64 n7, .int .u8 (n8.toNat : Int), .string (bs n9), .string (bs nA)] 74)
 have hH2 := Blk.new x1 74 #[.string (bs n0), .string (bs n1), .string (bs n2), .int .i64 n3, .int .i64 n4, .int .i64 n5, .int .i64 n6, .int .i64 n7, .int .u8 (n8.toNat : Int), .string (bs n9), .string (bs nA)]
 have hO2 := ho1.alloc (.cells #[.string (bs n0), .string (bs n1), .string (bs n2), .int .i64 n3, .int .i64 n4, .int .i64 n5, .int .i64 n6, .int .i64 n7, .int .u8 (n8.toNat : Int), .string (bs n9), .string (bs nA)] 74)
 have hA2 := ha1.below ((Below.refl x1.heap.size x1).alloc (Nat.le_refl _) (.cells #[.string (bs n0), .string (bs n1), .string (bs n2), .int .i64 n3, .int .i64 n4, .int .i64 n5, .int .i64 n6, .int .i64 n7, .int .u8 (n8.toNat : Int), .string (bs n9), .string (bs nA)] 74))
 have hne2 : w.heap.size < x1.heap.size := (HZ0.out.below hb1 HZ0.out.lt).lt
 go_upto_region 2 with fail
 generalize x1.alloc (.cells #[.string (bs n0), .string (bs n1), .string (bs n2), .int .i64 n3, .int .i64 n4, .int .i64 n5, .int .i64 n6, .int .i64 n7, .int .u8 (n8.toNat : Int), .string (bs n9), .string (bs nA)] 74) = x2 at hB2 hZ2 hH2 hO2 hA2 ⊢
 generalize x1.heap.size = gH at hH2 hne2 ⊢
 have HB2 := Lib.hid hB2
 have HZ2 := Lib.hid hZ2
 have HH2 := Lib.hid hH2
 have HO2 := Lib.hid hO2
 have HA2 := Lib.hid hA2
 have HSO := Lib.hid hs1
 clear hA2 hs1 hb1 ho1 ha1 hB1 hB2 hZ2 hH2 hO2 HD1
 have q8 := HH2.out.cell 8
 simp only [List.getElem?_toArray, List.getElem?_cons_succ, List.getElem?_cons_zero] at q8
 have hcv := HA2.out.conv c1 (fun e => by subst e; exact HA2.out.none_nil)
 go_wp2_with fail
 refine (HPx.out _ (S.tab.below HB2.out)).mono ?_; rintro e x3 ⟨A3, k3, c3, rfl, hr3, hb3⟩
 have HB3 := Lib.hid (HB2.out.trans (hb3.mono HB2.out.size))
 have HZ3 := Lib.hid (HZ2.out.below hb3 HZ2.out.lt)
 have HH3 := Lib.hid (HH2.out.below hb3 HH2.out.lt)
 have HR3 := Lib.hid hr3
 have HGH := Lib.hid HH2.out.lt
 clear hb3 hcv q8 hr3 HZ2 HH2 HO2 HA2 HSO
 go_wp2_with fail
 refine (HD2.out _ ((HA.out.below HB3.out).cut (c := c) (by have := HC.out.1; omega) N1 (by omega))).mono ?_; rintro e x4 ⟨v4, rfl, ho4, hb4⟩
 obtain ⟨A4, c4, rfl, hs4, ha4⟩ := ho4.form
 have hH4 := HH3.out.below hb4 HH3.out.lt
 have hZ4 := HZ3.out.below hb4 HZ3.out.lt
 have hR4 := HR3.out.below hb4
 have hg3 : gH < x3.heap.size := HH3.out.lt
 have hw3 : w.heap.size < x3.heap.size := HZ3.out.lt
 have hB4 := HB3.out.trans (hb4.mono HB3.out.size)
 obtain ⟨⟨q0, q1, q2, q3, q4, q5, q6, q7, q8, q9, qA⟩, f0, f1, f2, f3, f4, f5, f6, f7, f8, f9, fA⟩ := blk11 hH4
 have hB5 := below_set11 hB4 (Nat.le_of_lt hne2) (.string (bs m0)) (.string (bs m1)) (.string (bs m2)) (.int .i64 m3) (.int .i64 m4) (.int .i64 m5) (.int .i64 m6) (.int .i64 m7) (.int .u8 (m8.toNat : Int)) (.string (bs m9)) (.string (bs mA))
 have hZ5 : Blk (((((((((((x4.setCell ⟨gH, 0, none⟩ (.string (bs m0))).setCell ⟨gH, 1, none⟩ (.string (bs m1))).setCell ⟨gH, 2, none⟩ (.string (bs m2))).setCell ⟨gH, 3, none⟩ (.int .i64 m3)).setCell ⟨gH, 4, none⟩ (.int .i64 m4)).setCell ⟨gH, 5, none⟩ (.int .i64 m5)).setCell ⟨gH, 6, none⟩ (.int .i64 m6)).setCell ⟨gH, 7, none⟩ (.int .i64 m7)).setCell ⟨gH, 8, none⟩ (.int .u8 (m8.toNat : Int))).setCell ⟨gH, 9, none⟩ (.string (bs m9))).setCell ⟨gH, 10, none⟩ (.string (bs mA))) w.heap.size 34 #[.string ⟨#[]⟩, .int .i64 0, .string ⟨#[]⟩, .int .i64 0, .int .i64 0, .int .i64 0, .string ⟨#[]⟩, .string ⟨#[]⟩, .int .i64 0, .int .i64 0, .slice none 0 0] := far11 hZ4 (Nat.ne_of_lt hne2) (.string (bs m0)) (.string (bs m1)) (.string (bs m2)) (.int .i64 m3) (.int .i64 m4) (.int .i64 m5) (.int .i64 m6) (.int .i64 m7) (.int .u8 (m8.toNat : Int)) (.string (bs m9)) (.string (bs mA))
 go_upto_region 11 with fail
 generalize (((((((((((x4.setCell ⟨gH, 0, none⟩ (.string (bs m0))).setCell ⟨gH, 1, none⟩ (.string (bs m1))).setCell ⟨gH, 2, none⟩ (.string (bs m2))).setCell ⟨gH, 3, none⟩ (.int .i64 m3)).setCell ⟨gH, 4, none⟩ (.int .i64 m4)).setCell ⟨gH, 5, none⟩ (.int .i64 m5)).setCell ⟨gH, 6, none⟩ (.int .i64 m6)).setCell ⟨gH, 7, none⟩ (.int .i64 m7)).setCell ⟨gH, 8, none⟩ (.int .u8 (m8.toNat : Int))).setCell ⟨gH, 9, none⟩ (.string (bs m9))).setCell ⟨gH, 10, none⟩ (.string (bs mA))) = x5 at hB5 hZ5 ⊢
 have HB5 := Lib.hid hB5
 obtain ⟨⟨z0, z1, z2, z3, z4, z5, z6, z7, z8, z9, zA⟩, y0, y1, y2, y3, y4, y5, y6, y7, y8, y9, yA⟩ := blk11 hZ5
 clear ho4 ha4 hs4 hb4 hH4 hZ4 hR4 hB4 hB5 hZ5 q0 q1 q2 q3 q4 q5 q6 q7 q8 q9 qA f0 f1 f2 f3 f4 f5 f6 f7 f8 f9 fA hsf2
 go_wp2_with fail
 refine bodyPost_ret (v := .tuple #[.agg #[.string ⟨#[]⟩, .int .i64 0, .string ⟨#[]⟩, .int .i64 0, .int .i64 0, .int .i64 0, .string ⟨#[]⟩, .string ⟨#[]⟩, .int .i64 0, .int .i64 0, .slice none 0 0], .int .i64 0, .int .i64 E2]) (by simp [results, Tryz.results30, go_sem, *]) rfl ?_
 rw [HF.out]
 exact ⟨none, 0, rfl, ⟨Nat.le_refl _, by decide, fun _ => rfl⟩, fun j hj => (by cases hj), OwnB.nil _ _, below_set11 HB5.out (Nat.le_refl _) _ _ _ _ _ _ _ _ _ _ _⟩
end Go.Proofs.YtmejnabngfpbeaaGreatDoor
