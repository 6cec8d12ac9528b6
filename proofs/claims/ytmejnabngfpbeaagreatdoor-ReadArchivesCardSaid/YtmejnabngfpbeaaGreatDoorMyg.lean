/- Texts of one kind, in one file: MemYF, MemYG. -/
import Derived.Test.YtmejnabngfpbeaaGreatDoorMya
import Derived.Test.YtmejnabngfpbeaaGreatDoorMyc
import Derived.Test.YtmejnabngfpbeaaGreatDoorMyw
set_option linter.unusedVariables false
set_option maxRecDepth 100000
namespace Go.Proofs.YtmejnabngfpbeaaGreatDoor
open Go.RowKit
open Go.OpenShut
set_option maxHeartbeats 16000000 in
theorem mRead_5 (A : Option Addr) (n c : Nat) (l : List UInt8) (hn : l.length = n) (hn2 : n ≤ 281474976000000) (hc : SlOk A n c) (w : World) (S : Std w) (hA : BytsAt w A l) (h1 : (firstM l).2 = 0) (h2 : (firstM l).1.1.typ ≠ 120) :
  Calls Tryz.prog 30 #[.slice A n c] w fun e w' => ∃ D cc, e = .returned (.tuple #[.agg (entC (readM l).1.1 D cc).toArray, .int .i64 ((readM l).1.2 : Nat), .int .i64 (readM l).2]) ∧ SlOk D (readM l).1.1.data.length cc ∧ BytsAt w' D (readM l).1.1.data ∧ OwnB w' w.heap.size (.slice D (readM l).1.1.data.length cc) (readM l).1.1.data ∧ Below w.heap.size w w' := by
 have hN1 := (firstM_size h1).2.1
 have hDl := (firstM_size h1).2.2
 have HP0 := parts_one h1 h2
 have HD1 := Lib.hid fun W h => decode_any A n c l hn hn2 hc W h
 have HSm := Lib.hid (firstM_small l)
 generalize hFM : firstM l = FM at *
 obtain ⟨⟨⟨n0, n1, n2, n3, n4, n5, n6, n7, n8, n9, nA⟩, D1, N1⟩, E1⟩ := FM
 simp only at HD1 HSm
 unfold headC at HD1
 simp only at HD1
 simp only at h1 h2 hN1 hDl HP0
 subst h1
 have hty : ((n8.toNat : Int) == 120) = false := by
  rw [beq_eq_false_iff_ne]; intro e
  exact h2 (UInt8.toNat_inj.1 (by show n8.toNat = 120; omega))
 have HP1 := Lib.hid HP0
 have HRv : Hid (∀ r ∈ ([] : List Rc), r.2.length ≤ 500) := fun r hr => by cases hr
 have HRl : Hid (([] : List Rc).length ≤ 1000000) := Nat.zero_le _
 have HNK : Hid (keysR []).Nodup := List.nodup_nil
 have hD2l : D1.length ≤ 140737488351232 := by omega
 have HD2l := Lib.hid hD2l
 have hNTn : N1 ≤ n := by omega
 have hst := fun W => slice_to W A n c N1 (by have := hc.1; omega)
 have HKN : Hid (([] : List Rc).length = 0) := rfl
 clear h2 hFM hD2l HP0 hN1 hDl
 have hZ0 := Blk.new w 34 #[.string ⟨#[]⟩, .int .i64 0, .string ⟨#[]⟩, .int .i64 0, .int .i64 0, .int .i64 0, .string ⟨#[]⟩, .string ⟨#[]⟩, .int .i64 0, .int .i64 0, .slice none 0 0]
 have hB0 := (Below.refl w.heap.size w).alloc (Nat.le_refl _) (.cells #[.string ⟨#[]⟩, .int .i64 0, .string ⟨#[]⟩, .int .i64 0, .int .i64 0, .int .i64 0, .string ⟨#[]⟩, .string ⟨#[]⟩, .int .i64 0, .int .i64 0, .slice none 0 0] 34)
 have HZ0 := Lib.hid hZ0
 have HB0 := Lib.hid hB0
 have HA := Lib.hid hA
 clear hZ0 hB0 hA
 go_enter Tryz.func30, Tryz.ntmps30
 go_wp2_with fail
 refine (HD1.out _ (HA.out.below HB0.out)).mono ?_; rintro e x1 ⟨v1, rfl, ho1, hb1⟩
 obtain ⟨A1, c1, rfl, hs1, ha1⟩ := ho1.form
 have hB1 := HB0.out.trans (hb1.mono HB0.out.size)
 have hB2 := hB1.alloc hB1.size (.cells #[.string (bs n0), .string (bs n1), .string (bs n2), .int .i64 n3, .int .i64 n4, .int .i64 n5, .int .i64 n6, .int .i64 n7, .int .u8 (n8.toNat : Int), .string (bs n9), .string (bs nA)] 74)
 have hZ2 := (HZ0.out.below hb1 HZ0.out.lt).alloc (.cells #[.string (bs n0), .string (bs n1), .string (bs n2), .int .i64 n3, .int .i64 n4, .int .i64 n5, .int .i64 n6, .int .i64 n7, .int .u8 (n8.toNat : Int), .string (bs n9), .string (bs nA)] 74)
 have hH2 := Blk.new x1 74 #[.string (bs n0), .string (bs n1), .string (bs n2), .int .i64 n3, .int .i64 n4, .int .i64 n5, .int .i64 n6, .int .i64 n7, .int .u8 (n8.toNat : Int), .string (bs n9), .string (bs nA)]
 have hO2 := ho1.alloc (.cells #[.string (bs n0), .string (bs n1), .string (bs n2), .int .i64 n3, .int .i64 n4, .int .i64 n5, .int .i64 n6, .int .i64 n7, .int .u8 (n8.toNat : Int), .string (bs n9), .string (bs nA)] 74)
 have hA2 := ha1.below ((Below.refl x1.heap.size x1).alloc (Nat.le_refl _) (.cells #[.string (bs n0), .string (bs n1), .string (bs n2), .int .i64 n3, .int .i64 n4, .int .i64 n5, .int .i64 n6, .int .i64 n7, .int .u8 (n8.toNat : Int), .string (bs n9), .string (bs nA)] 74))
 have hne2 : w.heap.size < x1.heap.size := (HZ0.out.below hb1 HZ0.out.lt).lt
 go_upto_region 2 with fail
 generalize x1.alloc (.cells #[.string (bs n0), .string (bs n1), .string (bs n2), .int .i64 n3, .int .i64 n4, .int .i64 n5, .int .i64 n6, .int .i64 n7, .int .u8 (n8.toNat : Int), .string (bs n9), .string (bs nA)] 74) = x2 at hB2 hZ2 hH2 hO2 hA2 ⊢
 generalize x1.heap.size = gH at hH2 hne2 ⊢
 have HB2 := Lib.hid hB2
 have HZ2 := Lib.hid hZ2
 have HH2 := Lib.hid hH2
 have HO2 := Lib.hid hO2
 have HA2 := Lib.hid hA2
 have HSO := Lib.hid hs1
 clear hA2 hs1 hb1 ho1 ha1 hB1 hB2 hZ2 hH2 hO2 HD1
 have HLT : Hid (w.heap.size < (w.alloc (.cells #[.string ⟨#[]⟩, .int .i64 0, .string ⟨#[]⟩, .int .i64 0, .int .i64 0, .int .i64 0, .string ⟨#[]⟩, .string ⟨#[]⟩, .int .i64 0, .int .i64 0, .slice none 0 0] 34)).heap.size) := by unfold Hid; rw [hszA]; exact Nat.lt_succ_self _
 have q8 := HH2.out.cell 8
 simp only [List.getElem?_toArray, List.getElem?_cons_succ, List.getElem?_cons_zero] at q8
 clear hne2
 go_upto_region 14 with fail
 clear q8 hty
 have HT := Lib.hid (read_told HP1.out (told_fold HNK.out))
 have HEn := Lib.hid fun W SW hR => entry_any ⟨n0, n1, n2, n3, n4, n5, n6, n7, n8, n9, nA⟩ HSm.out A1 c1 D1 none 0 0 ([] : List Rc) HKN.out (by first | exact HRl.out | exact HKN.out ▸ HRl.out) (fun r hr => Nat.le_trans (HRv.out r hr) (by decide)) W SW hR
 have hyd : (([] : List Rc).foldl takF (bareF ⟨n0, n1, n2, n3, n4, n5, n6, n7, n8, n9, nA⟩ D1)).data = D1 := fold_data _ _
 have hysz := took_small HSm.out HNK.out HRv.out (by first | exact HD2l.out | (have := HD2l.out; omega))
 obtain ⟨y, HY⟩ := hid_name (([] : List Rc).foldl takF (bareF ⟨n0, n1, n2, n3, n4, n5, n6, n7, n8, n9, nA⟩ D1))
 rw [HY.out] at HT HEn hyd hysz
 have HWr := Lib.hid fun W TW hA hsl => mWrite_any y A1 c1 hysz W TW hA hsl
 have hsY : SlOk A1 y.data.length c1 := by rw [hyd]; exact HSO.out
 have HSY := Lib.hid hsY
 have HAY : Hid (∀ W, Below x2.heap.size x2 W → BytsAt W A1 y.data) := fun W h => by rw [hyd]; exact HA2.out.below h
 have HYD := Lib.hid hyd
 have hEq := fun (A' : Option Addr) (n' cc' : Nat) (hn' : (bytO y).length = n') W h1 h2 => bEqual_any A' A n' cc' N1 c (bytO y) (l.take N1) hn' (by rw [List.length_take]; omega) W h1 h2
 have HEq := Lib.hid hEq
 have HBO : Hid (bytO y = if entE y = 0 then bytesM y else []) := rfl
 generalize bytO y = BO at HWr HEq HBO
 obtain ⟨EY, HEY⟩ := hid_name (entE y)
 rw [HEY.out] at HT HWr HBO
 clear hysz hsY hyd hEq
 unfold headC at HEn
 unfold entC at HEn HWr
 obtain ⟨path, kind, target, ⟨m0', m1', m2', m3', m4', m5', m6'⟩, data⟩ := y
 simp only at HEn HWr HSY HAY HYD
 obtain ⟨dl, HDL⟩ := hid_name data.length
 have HVL : Hid ((entC ⟨path, kind, target, ⟨m0', m1', m2', m3', m4', m5', m6'⟩, data⟩ A1 c1).toArray = #[.string (bs path), .int .i64 kind, .string (bs target), .int .i64 m0', .int .i64 m1', .int .i64 m2', .string (bs m3'), .string (bs m4'), .int .i64 m5', .int .i64 m6', .slice A1 dl c1]) := by unfold Hid; rw [← HDL.out]; rfl
 have HOY : Hid (∀ {W : World} {B n c : Nat} {v : Value}, OwnB W B (.slice A1 n c) D1 → OwnB W B (.slice A1 n c) data) := by intro W B n c v h; rw [HYD.out]; exact h
 rw [HDL.out] at HEn HWr HSY
 obtain ⟨⟨q0, q1, q2, q3, q4, q5, q6, q7, q8, q9, qA⟩, -⟩ := blk11 HH2.out
 go_wp2_with fail
 refine (HEn.out _ (S.below HB2.out) (RecsAt.nil _ _)).mono ?_; rintro e x5 ⟨rfl, hb5⟩
 have hE5 := Blk.new x5 34 #[.string (bs path), .int .i64 kind, .string (bs target), .int .i64 m0', .int .i64 m1', .int .i64 m2', .string (bs m3'), .string (bs m4'), .int .i64 m5', .int .i64 m6', .slice A1 dl c1]
 have hX5 := hb5.alloc hb5.size (.cells #[.string (bs path), .int .i64 kind, .string (bs target), .int .i64 m0', .int .i64 m1', .int .i64 m2', .string (bs m3'), .string (bs m4'), .int .i64 m5', .int .i64 m6', .slice A1 dl c1] 34)
 go_upto_region 15 with fail
 generalize x5.alloc (.cells #[.string (bs path), .int .i64 kind, .string (bs target), .int .i64 m0', .int .i64 m1', .int .i64 m2', .string (bs m3'), .string (bs m4'), .int .i64 m5', .int .i64 m6', .slice A1 dl c1] 34) = x6 at hE5 hX5 ⊢
 generalize x5.heap.size = gE at hE5 ⊢
 have HX6 := Lib.hid hX5
 have HE6 := Lib.hid hE5
 obtain ⟨⟨p0, p1, p2, p3, p4, p5, p6, p7, p8, p9, pA⟩, -⟩ := blk11 hE5
 clear hb5 hX5 hE5 q0 q1 q2 q3 q4 q5 q6 q7 q8 q9 qA HEn
 go_wp2_with fail
 refine (HWr.out _ (S.tab.below (HB2.out.trans (HX6.out.mono HB2.out.size))) (HAY.out _ HX6.out) HSY.out).mono ?_; rintro e x7 ⟨AW, nW, cW, rfl, hsW, hnW, haW, hb7⟩
 have HX7 := Lib.hid (HX6.out.trans (hb7.mono HX6.out.size))
 have HE7 := Lib.hid (HE6.out.below hb7 HE6.out.lt)
 have HAW := Lib.hid haW
 have HNW := Lib.hid hnW
 clear hb7 hsW hnW haW p0 p1 p2 p3 p4 p5 p6 p7 p8 p9 pA HX6 HE6 HWr
 by_cases hEY : EY = 0
 ·have HBe : Hid (BO = bytesM ⟨path, kind, target, ⟨m0', m1', m2', m3', m4', m5', m6'⟩, data⟩) := by unfold Hid; rw [HBO.out, if_pos hEY]
  have HQ := Lib.hid (HEq.out AW nW cW HNW.out x7 HAW.out ((HA.out.below (HB2.out.trans (HX7.out.mono HB2.out.size))).take N1))
  by_cases hbq : BO = l.take N1
  ·have hqb : (BO == l.take N1) = true := by rw [hbq]; simp
   rw [hqb] at HQ
   have HF := HT.out
   rw [if_pos ⟨hEY, by rw [← HBe.out]; exact hbq⟩] at HF
   replace HF := Lib.hid HF
   clear hbq HBe HEq HBO hqb
   subst hEY
   obtain ⟨⟨z0, z1, z2, z3, z4, z5, z6, z7, z8, z9, zA⟩, y0, y1, y2, y3, y4, y5, y6, y7, y8, y9, yA⟩ := blk11 (HZ2.out.below HX7.out HZ2.out.lt)
   obtain ⟨⟨p0, p1, p2, p3, p4, p5, p6, p7, p8, p9, pA⟩, -⟩ := blk11 HE7.out
   go_wp2_with fail
   refine HQ.out.mono ?_; rintro e x8 ⟨rfl, rfl⟩
   go_wp2_with fail
   refine bodyPost_ret (v := .tuple #[.agg #[.string (bs path), .int .i64 kind, .string (bs target), .int .i64 m0', .int .i64 m1', .int .i64 m2', .string (bs m3'), .string (bs m4'), .int .i64 m5', .int .i64 m6', .slice A1 dl c1], .int .i64 ((N1 : Nat) : Int), .int .i64 0]) (by simp [results, Tryz.results30, go_sem, *]) rfl ?_
   exact fin_yes2 HF.out HVL.out (by rw [HDL.out]; exact HSY.out) (by have hX := (HOY.out (v := .slice none 0 0) (own_set11 (HO2.out.below HX7.out) HLT.out (.string (bs path)) (.int .i64 kind) (.string (bs target)) (.int .i64 m0') (.int .i64 m1') (.int .i64 m2') (.string (bs m3')) (.string (bs m4')) (.int .i64 m5') (.int .i64 m6') (.slice A1 dl c1))).mono (Nat.le_of_lt HLT.out); rw [HYD.out] at hX ⊢; exact hX) (below_set11 (HB2.out.trans (HX7.out.mono HB2.out.size)) (Nat.le_refl _) _ _ _ _ _ _ _ _ _ _ _)
  ·have hqb : (BO == l.take N1) = false := by simpa using hbq
   rw [hqb] at HQ
   have HF := HT.out
   rw [if_neg (fun h => hbq (by rw [HBe.out]; exact h.2))] at HF
   replace HF := Lib.hid HF
   clear hbq HBe HEq HBO hqb
   subst hEY
   obtain ⟨⟨z0, z1, z2, z3, z4, z5, z6, z7, z8, z9, zA⟩, y0, y1, y2, y3, y4, y5, y6, y7, y8, y9, yA⟩ := blk11 (HZ2.out.below HX7.out HZ2.out.lt)
   go_wp2_with fail
   refine HQ.out.mono ?_; rintro e x8 ⟨rfl, rfl⟩
   go_wp2_with fail
   refine bodyPost_ret (v := .tuple #[.agg #[.string ⟨#[]⟩, .int .i64 0, .string ⟨#[]⟩, .int .i64 0, .int .i64 0, .int .i64 0, .string ⟨#[]⟩, .string ⟨#[]⟩, .int .i64 0, .int .i64 0, .slice none 0 0], .int .i64 0, .int .i64 3]) (by simp [results, Tryz.results30, go_sem, *]) rfl ?_
   exact fin_no2 HF.out (below_set11 (HB2.out.trans (HX7.out.mono HB2.out.size)) (Nat.le_refl _) _ _ _ _ _ _ _ _ _ _ _)
 ·have HF := HT.out
  rw [if_neg (fun h => hEY h.1)] at HF
  replace HF := Lib.hid HF
  have hne : (EY != 0) = true := by simpa using hEY
  clear HEq HBO
  obtain ⟨⟨z0, z1, z2, z3, z4, z5, z6, z7, z8, z9, zA⟩, y0, y1, y2, y3, y4, y5, y6, y7, y8, y9, yA⟩ := blk11 (HZ2.out.below HX7.out HZ2.out.lt)
  go_wp2_with fail
  refine bodyPost_ret (v := .tuple #[.agg #[.string ⟨#[]⟩, .int .i64 0, .string ⟨#[]⟩, .int .i64 0, .int .i64 0, .int .i64 0, .string ⟨#[]⟩, .string ⟨#[]⟩, .int .i64 0, .int .i64 0, .slice none 0 0], .int .i64 0, .int .i64 3]) (by simp [results, Tryz.results30, go_sem, *]) rfl ?_
  exact fin_no2 HF.out (below_set11 (HB2.out.trans (HX7.out.mono HB2.out.size)) (Nat.le_refl _) _ _ _ _ _ _ _ _ _ _ _)
theorem mRead_own (A : Option Addr) (n c : Nat) (l : List UInt8) (hn : l.length = n) (hn2 : n ≤ 281474976000000) (hc : SlOk A n c) (w : World) (S : Std w) (hA : BytsAt w A l) :
  Calls Tryz.prog 30 #[.slice A n c] w fun e w' => ∃ D cc, e = .returned (.tuple #[.agg (entC (readM l).1.1 D cc).toArray, .int .i64 ((readM l).1.2 : Nat), .int .i64 (readM l).2]) ∧ SlOk D (readM l).1.1.data.length cc ∧ BytsAt w' D (readM l).1.1.data ∧ OwnB w' w.heap.size (.slice D (readM l).1.1.data.length cc) (readM l).1.1.data ∧ Below w.heap.size w w' := by
 by_cases h1 : (firstM l).2 = 0
 ·by_cases h2 : (firstM l).1.1.typ = 120
  ·by_cases h3 : (paxR (firstM l).1.2.1).2 = 0
   ·by_cases h4 : (firstM (l.drop (firstM l).1.2.2)).2 = 0
    ·exact mRead_4 A n c l hn hn2 hc w S hA h1 h2 h3 h4
    ·exact mRead_3 A n c l hn hn2 hc w S hA h1 h2 h3 h4
   ·exact mRead_2 A n c l hn hn2 hc w S hA h1 h2 h3
  ·exact mRead_5 A n c l hn hn2 hc w S hA h1 h2
 ·exact mRead_1 A n c l hn hn2 hc w S hA h1
end Go.Proofs.YtmejnabngfpbeaaGreatDoor
