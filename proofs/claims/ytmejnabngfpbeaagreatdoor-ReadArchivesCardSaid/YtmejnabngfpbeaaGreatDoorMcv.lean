/- Texts of one kind, in one file: MemC, MemV. -/
import Derived.Test.YtmejnabngfpbeaaGreatDoorMea
import Derived.Test.YtmejnabngfpbeaaGreatDoorMer
import Derived.Test.YtmejnabngfpbeaaGreatDoorBas
import Derived.Test.YtmejnabngfpbeaaGreatDoorHdt
import Derived.Test.YtmejnabngfpbeaaGreatDoorPda
import Derived.Test.YtmejnabngfpbeaaGreatDoorPxa
import Derived.Test.YtmejnabngfpbeaaGreatDoorMemI
import Derived.Test.YtmejnabngfpbeaaGreatDoorHdb
set_option linter.unusedVariables false
set_option maxRecDepth 100000
namespace Go.Proofs.YtmejnabngfpbeaaGreatDoor
open Go.RowKit
open Go.OpenShut
theorem recs_sz {x : EntV} (h : entE x = 0) : SzR (recsM x) := szR_of (chkP_all (recsM_ok h)).2.2
def bytO (x : EntV) : List UInt8 := if entE x = 0 then bytesM x else []
theorem headM_szs {x : EntV} (h : entE x = 0) : (headM x).name.length ≤ 400 ∧ (headM x).pre.length ≤ 400 ∧ (headM x).link.length ≤ 400 ∧ (headM x).user.length ≤ 400 ∧ (headM x).group.length ≤ 400 := by
 have g := entE_good h
 obtain ⟨c1, c2, -⟩ := cutV_good g.path.2.2
 unfold headM
 simp only
 refine ⟨?_, by omega, ?_, ?_, ?_⟩
 ·split
  ·decide
  ·omega
 ·split
  ·decide
  ·omega
 ·split
  ·simp
  ·omega
 ·split
  ·simp
  ·omega
set_option maxHeartbeats 8000000 in
theorem rMBytes_own (x : EntV) (D : Option Addr) (c : Nat) (hx : x.sz) (h0 : entE x = 0) (w : World) (T : Tab w) (hD : BytsAt w D x.data) (hsl : SlOk D x.data.length c) :
  Calls Tryz.prog 59 #[.agg (entC x D c).toArray] w fun e w' => ∃ v, e = .returned (.tuple #[v, .int .i64 0]) ∧ OwnC w' w.heap.size v (bytesM x) ∧ Below w.heap.size w w' := by
 have g := entE_good h0
 have H1 := Lib.hid fun W TW => rMHead_ok x D c hx h0 W TW
 have H2 := Lib.hid fun W TW => rRecs_ok x D c hx h0 W TW
 obtain ⟨z1, z2, z3, z4, z5⟩ := headM_szs h0
 have H3 := Lib.hid fun W => rHText_any (headM x) W (by omega) (by omega) (by omega) (by omega) (by omega)
 have hE1 := headM_ok h0
 have hS1 := hdB_len hE1
 have H4 := Lib.hid fun W h => rFill_any D x.data.length c x.data rfl (by have := g.data; omega) hsl.2.2 W h
 have H5 := Lib.hid fun A n cc hn W TW h => rPaxText_any A n cc (recsM x) hn (by have := recs_few x; omega) (recs_sz h0) W TW h
 rw [paxW_recs h0] at H5
 have hrl := recs_len h0
 have H6 := Lib.hid fun W => rHText_any (paxH (textP (recsM x)).length) W (by show atPax.length ≤ _; decide) (by simp [paxH, headZ]) (by simp [paxH, headZ]) (by simp [paxH, headZ]) (by simp [paxH, headZ])
 have hE2 := paxH_ok hrl
 have hS2 := hdB_len hE2
 have H7 := Lib.hid fun A cc hc W h => rFill_any A (textP (recsM x)).length cc (textP (recsM x)) rfl (by omega) hc W h
 have hb := bytesM_eq h0
 have hfew := recs_few x
 have hdl := g.data
 have hpf := padF_length x.data
 have hpt := padF_length (textP (recsM x))
 rw [headW_ok hE1] at H3
 rw [headW_ok hE2] at H6
 simp only at H3 H5 H6
 have hdb1 : hdB (headM x) = frontH (headM x) ++ (ckL (sumB (frontH (headM x)) + 256 + sumB (backH (headM x))) ++ backH (headM x)) := by unfold hdB; rw [headW_ok hE1, bs_list]
 have hdb2 : hdB (paxH (textP (recsM x)).length) = frontH (paxH (textP (recsM x)).length) ++ (ckL (sumB (frontH (paxH (textP (recsM x)).length)) + 256 + sumB (backH (paxH (textP (recsM x)).length))) ++ backH (paxH (textP (recsM x)).length)) := by unfold hdB; rw [headW_ok hE2, bs_list]
 rw [← hdb1] at H3
 rw [← hdb2] at H6
 have hpadN := padN_lt x.data.length
 have hpadN2 := padN_lt (textP (recsM x)).length
 have hnil : recsM x = [] ↔ (recsM x).length = 0 := List.length_eq_zero_iff.symm
 have hpf1 : (padF x.data).length ≤ 3000 := by omega
 have hpt1 : (padF (textP (recsM x))).length ≤ 8000 := by omega
 clear hpf hpt hpadN hpadN2
 generalize padF x.data = PF at H4 hb hpf1
 generalize padF (textP (recsM x)) = PT at H7 hb hpt1
 generalize bytesM x = BM at hb ⊢
 generalize recsM x = RS at *
 generalize hH9 : headM x = H9 at *
 generalize hTX : textP RS = TX at *
 generalize hdB H9 = S1 at *
 have hPX : headC (paxH TX.length) = #[.string ⟨#[64, 112, 97, 120]⟩, .string ⟨#[]⟩, .string ⟨#[]⟩, .int .i64 0, .int .i64 0, .int .i64 0, .int .i64 (TX.length : Int), .int .i64 0, .int .u8 120, .string ⟨#[]⟩, .string ⟨#[]⟩] := rfl
 rw [hPX] at H6
 generalize hdB (paxH TX.length) = S2 at *
 clear hdb1 hdb2 hH9 hTX hE1 hE2 z1 z2 z3 z4 z5 g h0 hPX
 obtain ⟨path, kind, target, ⟨m0, m1, m2, m3, m4, m5, m6⟩, data⟩ := x
 obtain ⟨n0, n1, n2, n3, n4, n5, n6, n7, n8, n9, nA⟩ := H9
 unfold entC at H1 H2 ⊢
 unfold headC at H1 H3
 simp only at H1 H2 H3 H4 hD hdl hsl hb ⊢
 obtain ⟨dl, hdl0⟩ : ∃ dl, dl = data.length := ⟨_, rfl⟩
 rw [← hdl0] at H1 H2 H4 hdl hsl ⊢
 have HDL := Lib.hid hdl0
 have hEC := Blk.new w 34 #[.string (bs path), .int .i64 kind, .string (bs target), .int .i64 m0, .int .i64 m1, .int .i64 m2, .string (bs m3), .string (bs m4), .int .i64 m5, .int .i64 m6, .slice D dl c]
 have hWC := (Below.refl w.heap.size w).alloc (Nat.le_refl _) (.cells #[.string (bs path), .int .i64 kind, .string (bs target), .int .i64 m0, .int .i64 m1, .int .i64 m2, .string (bs m3), .string (bs m4), .int .i64 m5, .int .i64 m6, .slice D dl c] 34)
 have HE0 := Lib.hid hEC
 have HW0 := Lib.hid hWC
 have HD := Lib.hid hD
 have HB := Lib.hid hb
 clear hEC hWC hD hb hdl0
 go_enter Tryz.func59, Tryz.ntmps59
 go_wp2_with fail
 refine (H1.out _ (T.below HW0.out)).mono ?_; rintro e x2 ⟨rfl, hb⟩
 have HE2 := Lib.hid (HE0.out.below hb HE0.out.lt)
 have HB2 := Lib.hid (HW0.out.trans (hb.mono HW0.out.size))
 clear hb HE0 HW0 H1
 have hH3 := Blk.new x2 74 #[.string (bs n0), .string (bs n1), .string (bs n2), .int .i64 n3, .int .i64 n4, .int .i64 n5, .int .i64 n6, .int .i64 n7, .int .u8 (n8.toNat : Int), .string (bs n9), .string (bs nA)]
 have hE3 := HE2.out.alloc (.cells #[.string (bs n0), .string (bs n1), .string (bs n2), .int .i64 n3, .int .i64 n4, .int .i64 n5, .int .i64 n6, .int .i64 n7, .int .u8 (n8.toNat : Int), .string (bs n9), .string (bs nA)] 74)
 have hB3 := HB2.out.alloc HB2.out.size (.cells #[.string (bs n0), .string (bs n1), .string (bs n2), .int .i64 n3, .int .i64 n4, .int .i64 n5, .int .i64 n6, .int .i64 n7, .int .u8 (n8.toNat : Int), .string (bs n9), .string (bs nA)] 74)
 go_upto_region 2 with fail
 generalize x2.alloc (.cells #[.string (bs n0), .string (bs n1), .string (bs n2), .int .i64 n3, .int .i64 n4, .int .i64 n5, .int .i64 n6, .int .i64 n7, .int .u8 (n8.toNat : Int), .string (bs n9), .string (bs nA)] 74) = x3 at hH3 hE3 hB3 ⊢
 generalize x2.heap.size = gH at hH3 ⊢
 have HH3 := Lib.hid hH3
 have HE3 := Lib.hid hE3
 have HB3 := Lib.hid hB3
 obtain ⟨⟨E0, E1, E2, E3, E4, E5, E6, E7, E8, E9, EA⟩, -⟩ := blk11 hE3
 clear hH3 hE3 hB3 HE2 HB2
 go_wp2_with fail
 refine (H2.out _ (T.below HB3.out)).mono ?_; rintro e x4 ⟨v, rfl, ho, hb⟩
 obtain ⟨A2, c2, rfl⟩ := ho.form
 have HR4 := Lib.hid ho.at
 have HH4 := Lib.hid (HH3.out.below hb HH3.out.lt)
 have HE4 := Lib.hid (HE3.out.below hb HE3.out.lt)
 have HB4 := Lib.hid (HB3.out.trans (hb.mono HB3.out.size))
 clear hb ho E0 E1 E2 E3 E4 E5 E6 E7 E8 E9 EA HH3 HE3 HB3 H2
 obtain ⟨⟨E0, E1, E2, E3, E4, E5, E6, E7, E8, E9, EA⟩, -⟩ := blk11 HH4.out
 go_wp2_with fail
 refine (H3.out _).mono ?_; rintro e x5 ⟨rfl, hb⟩
 have HR5 := Lib.hid (HR4.out.below hb)
 have HE5 := Lib.hid (HE4.out.below hb HE4.out.lt)
 have HB5 := Lib.hid (HB4.out.trans (hb.mono HB4.out.size))
 clear hb E0 E1 E2 E3 E4 E5 E6 E7 E8 E9 EA HH4 HE4 HB4 H3 HR4
 have hc5 := byc_run x5 (bs S1)
 have hs5 : (bs S1).size = 512 := by rw [bs_size]; exact hS1
 have ho6 := OwnC.conv x5 (bs S1) (by unfold maxLen; omega)
 rw [bs_list] at ho6
 have hb6 := byc_below x5 (bs S1)
 generalize grownCap x5 (bs S1).size 0 5 = k5 at hc5 ho6
 generalize Lib.bytesWorld x5 5 (bs S1) = x6 at hc5 ho6 hb6
 have HO6 := Lib.hid ho6
 have HB6 := Lib.hid (HB5.out.trans (hb6.mono HB5.out.size))
 have HE6 := Lib.hid (HE5.out.below hb6 HE5.out.lt)
 have h56 := hb6.size
 have HX5 := Lib.hid hb6
 obtain ⟨⟨E0, E1, E2, E3, E4, E5, E6, E7, E8, E9, EA⟩, -⟩ := blk11 HE6.out
 rw [hs5] at hc5 HO6
 clear ho6 hb6 hs5 HE5
 go_wp2_with fail
 refine (H4.out _ (HD.out.below HB6.out)).mono ?_; rintro e x7 ⟨v7, rfl, ho7, hb7⟩
 obtain ⟨A7, c7, hv7, hs7, ha7⟩ := ho7.form
 subst hv7
 have HX7 := HX5.out.trans (hb7.mono h56)
 have HO7 := Lib.hid (HO6.out.below hb7)
 clear ho7 hb7 HO6 HB6 E0 E1 E2 E3 E4 E5 E6 E7 E8 E9 EA HE6 hc5 H4
 go_wp2_with (at_builtin; refine Stay.go ?_)
 refine Stay.on ?_
 refine append_bytc rfl (.tmp 34) (.tmp 37) rfl x5.heap.size _ S1 rfl HO7.out A7 PF.length c7 PF rfl rfl ha7 hs7.2.2 (by omega) HX7.size ?_
 intro v8 x8 ho8 hb8
 have HX8 := Lib.hid (hb8 x5 HX7)
 have HB8 := Lib.hid (HB5.out.trans (HX8.out.mono HB5.out.size))
 have HR8 := Lib.hid (HR5.out.below HX8.out)
 have HO8 := Lib.hid (ho8.mono HB5.out.size)
 obtain ⟨A8, c8, rfl, hs8, ha8⟩ := ho8.form
 generalize hnB : (S1 ++ PF).length = nB at hs8 HO8 ⊢
 have HA8 := Lib.hid ha8
 have HS8 := Lib.hid hs8
 have hn8' : nB ≤ 4000 := by rw [← hnB, List.length_append, hS1]; omega
 clear hb8 HX7 HO7 ha7 hs7 HR5 HX5 ho8 ha8 hs8
 by_cases hnl : RS.length = 0
 ·have hnl0 : RS = [] := hnil.2 hnl
  have hq : ((RS.length : Int) == 0) = true := by rw [hnl]; rfl
  have HV : Hid (BM = S1 ++ PF) := by
   have := HB.out
   rw [if_pos hnl0, List.nil_append] at this
   exact this
  have HN8 := Lib.hid hnB
  clear hnil hnB
  generalize RS.length = rl at hq ⊢
  go_wp2_with fail
  refine bodyPost_ret (v := .tuple #[.slice A8 nB c8, .int .i64 0]) (by simp [results, Tryz.results59, go_sem, *]) rfl ?_
  exact ⟨_, rfl, by rw [HV.out]; exact HO8.out, HB8.out⟩
 ·have hq : ((RS.length : Int) == 0) = false := by simp; exact fun e => hnl (by rw [e]; rfl)
  have HV : Hid (BM = (S2 ++ PT) ++ (S1 ++ PF)) := by
   have := HB.out
   rw [if_neg (fun e => hnl (hnil.1 e))] at this
   exact this
  have HN8 := Lib.hid hnB
  have H5' := Lib.hid (H5.out A2 RS.length c2 rfl x8 (T.below HB8.out) HR8.out)
  clear hnil hnB H5 HR8
  generalize hrl9 : RS.length = rl at hq H5' ⊢
  clear hrl9
  go_wp2_with fail
  refine H5'.out.mono ?_; rintro e x9 ⟨rfl, hb⟩
  have HA9 := Lib.hid (HA8.out.below hb)
  have HB9 := Lib.hid (HB8.out.trans (hb.mono HB8.out.size))
  clear hb HA8 HB8 H5' hq
  go_wp2_with fail
  refine (H6.out _).mono ?_; rintro e x10 ⟨rfl, hb⟩
  have HA10 := Lib.hid (HA9.out.below hb)
  have HB10 := Lib.hid (HB9.out.trans (hb.mono HB9.out.size))
  clear hb HA9 HB9 H6
  have hcA := byc_run x10 (bs S2)
  have hsA : (bs S2).size = 512 := by rw [bs_size]; exact hS2
  have hoA := OwnC.conv x10 (bs S2) (by unfold maxLen; omega)
  rw [bs_list] at hoA
  have hbA := byc_below x10 (bs S2)
  generalize grownCap x10 (bs S2).size 0 5 = kA at hcA hoA
  generalize Lib.bytesWorld x10 5 (bs S2) = x11 at hcA hoA hbA
  have hcB := byc_run x11 (bs TX)
  have hsB : (bs TX).size = TX.length := bs_size TX
  have hoB := OwnC.conv x11 (bs TX) (by unfold maxLen; omega)
  rw [bs_list] at hoB
  have hbB := byc_below x11 (bs TX)
  generalize grownCap x11 (bs TX).size 0 5 = kB at hcB hoB
  generalize Lib.bytesWorld x11 5 (bs TX) = x12 at hcB hoB hbB
  have HOA := Lib.hid ((hoA.below hbB))
  obtain ⟨AB, cB, hvB, hsB2, haB⟩ := hoB.form
  rw [hsB] at hvB hcB
  injection hvB with hv1 hv2 hv3
  subst hv1 hv3
  have HFB := Lib.hid (H7.out _ kB (fun e => by cases e) x12 haB)
  have HX12 := Lib.hid (hbA.trans (hbB.mono hbA.size))
  have h1012 := HX12.out.size
  rw [hsA] at hcA HOA
  clear hoA hbA hoB hbB hv2 haB hsB2 hsA hsB H7
  go_wp2_with fail
  refine HFB.out.mono ?_; rintro e x13 ⟨vC, rfl, hoC, hbC⟩
  obtain ⟨AC, cC, hvC, hsC, haC⟩ := hoC.form
  subst hvC
  have HX13 := HX12.out.trans (hbC.mono h1012)
  have HO13 := Lib.hid (HOA.out.below hbC)
  clear hoC hbC HOA HX12 HFB hcA hcB h1012
  go_wp2_with (at_builtin; refine Stay.go ?_)
  refine Stay.on ?_
  refine append_bytc rfl (.tmp 56) (.tmp 59) rfl x10.heap.size _ S2 rfl HO13.out AC PT.length cC PT rfl rfl haC hsC.2.2 (by omega) HX13.size ?_
  intro v14 x14 ho14 hb14
  have HX14 := hb14 x10 HX13
  have HO14 := Lib.hid ho14
  have HA14 := Lib.hid (HA10.out.below HX14)
  have hs14 := HX14.size
  clear hb14 HX13 HO13 haC hsC ho14
  go_wp2_with (at_builtin; refine Stay.go ?_)
  refine Stay.on ?_
  refine append_bytc rfl (.tmp 60) (.tmp 61) rfl x10.heap.size v14 (S2 ++ PT) rfl HO14.out A8 nB c8 (S1 ++ PF) rfl HN8.out HA14.out HS8.out.2.2 (by rw [List.length_append]; omega) hs14 ?_
  intro v15 x15 ho15 hb15
  have HB15 := Lib.hid (HB10.out.trans ((hb15 x10 HX14).mono HB10.out.size))
  rw [← HV.out] at ho15
  have HO15 := Lib.hid (ho15.mono HB10.out.size)
  obtain ⟨A15, c15, rfl, hs15, ha15⟩ := ho15.form
  generalize hn15 : BM.length = n15 at HO15 ⊢
  clear hb15 HX14 HO14 HA14 ho15 hs15 ha15 hn15 hs14
  go_wp2_with fail
  refine bodyPost_ret (v := .tuple #[.slice A15 n15 c15, .int .i64 0]) (by simp [results, Tryz.results59, go_sem, *]) rfl ?_
  exact ⟨_, rfl, HO15.out, HB15.out⟩
theorem rMBytes_ok (x : EntV) (D : Option Addr) (c : Nat) (hx : x.sz) (h0 : entE x = 0) (w : World) (T : Tab w) (hD : BytsAt w D x.data) (hsl : SlOk D x.data.length c) :
  Calls Tryz.prog 59 #[.agg (entC x D c).toArray] w fun e w' => ∃ A n cc, e = .returned (.tuple #[.slice A n cc, .int .i64 0]) ∧ SlOk A n cc ∧ (bytesM x).length = n ∧ BytsAt w' A (bytesM x) ∧ Below w.heap.size w w' := by
 refine (rMBytes_own x D c hx h0 w T hD hsl).mono ?_; rintro e w' ⟨v, rfl, ho, hb⟩
 obtain ⟨A, cc, rfl, hs, ha⟩ := ho.form
 exact ⟨A, _, cc, rfl, hs, rfl, ha, hb⟩
theorem rMBytes_any (x : EntV) (D : Option Addr) (c : Nat) (hx : x.sz) (w : World) (T : Tab w) (hD : BytsAt w D x.data) (hsl : SlOk D x.data.length c) :
  Calls Tryz.prog 59 #[.agg (entC x D c).toArray] w fun e w' => ∃ A n cc, e = .returned (.tuple #[.slice A n cc, .int .i64 (entE x)]) ∧ SlOk A n cc ∧ (bytO x).length = n ∧ BytsAt w' A (bytO x) ∧ Below w.heap.size w w' := by
 unfold bytO
 by_cases h0 : entE x = 0
 ·rw [if_pos h0, h0]
  exact rMBytes_ok x D c hx h0 w T hD hsl
 ·rw [if_neg h0]
  have H1 := Lib.hid fun W TW => rMHead_any x D c hx W TW
  rw [if_neg h0] at H1
  obtain ⟨E, HE⟩ := hid_name (entE x)
  rw [HE.out] at H1 h0 ⊢
  have hne : (E != 0) = true := by simpa using h0
  have HW : Hid (Below w.heap.size w (w.alloc (.cells (entC x D c).toArray 34))) := (Below.refl _ _).alloc (Nat.le_refl _) _
  have ez : headC headZ = #[.string ⟨#[]⟩, .string ⟨#[]⟩, .string ⟨#[]⟩, .int .i64 0, .int .i64 0, .int .i64 0, .int .i64 0, .int .i64 0, .int .u8 0, .string ⟨#[]⟩, .string ⟨#[]⟩] := rfl
  rw [ez] at H1
  unfold entC at H1 HW ⊢
  clear h0 HE ez hD hsl
  obtain ⟨path, kind, target, ⟨m0, m1, m2, m3, m4, m5, m6⟩, data⟩ := x
  simp only at H1 HW ⊢
  go_enter Tryz.func59, Tryz.ntmps59
  go_wp2_with fail
  refine (H1.out _ (T.below HW.out)).mono ?_; rintro e u ⟨rfl, hb⟩
  have HB := Lib.hid ((HW.out.trans (hb.mono HW.out.size)).alloc (HW.out.trans (hb.mono HW.out.size)).size (.cells #[.string ⟨#[]⟩, .string ⟨#[]⟩, .string ⟨#[]⟩, .int .i64 0, .int .i64 0, .int .i64 0, .int .i64 0, .int .i64 0, .int .u8 0, .string ⟨#[]⟩, .string ⟨#[]⟩] 74))
  clear hb
  go_wp2_with fail
  refine bodyPost_ret (v := .tuple #[.slice none 0 0, .int .i64 E]) (by simp [results, Tryz.results59, go_sem, *]) rfl ?_
  exact ⟨_, _, _, rfl, ⟨Nat.le_refl _, by decide, fun _ => rfl⟩, rfl, BytsAt.nil _ _, HB.out⟩
set_option maxHeartbeats 4000000 in
theorem encode_any (h : HeadV) (e : headE h = 0) (z1 : h.name.length ≤ 400) (z2 : h.pre.length ≤ 400) (z3 : h.link.length ≤ 400) (z4 : h.user.length ≤ 400) (z5 : h.group.length ≤ 400)
  (D : Option Addr) (n c : Nat) (d : List UInt8) (hd : d.length = n) (hn : n ≤ 1000000) (hsl : SlOk D n c) (w : World) (hD : BytsAt w D d) :
  Calls Tryz.prog 93 #[.agg (headC h), .slice D n c] w fun e w' => ∃ v, e = .returned v ∧ OwnC w' w.heap.size v (hdB h ++ padF d) ∧ Below w.heap.size w w' := by
 have H3 := Lib.hid fun W => hWrite_any h W (by omega) (by omega) (by omega) (by omega) (by omega)
 have hS1 := hdB_len e
 have H4 := Lib.hid fun W hA => Fill_any D n c d hd (by omega) W hA
 have hpf := padF_length d
 have hpadN := padN_lt d.length
 have hpf1 : (padF d).length ≤ 1001000 := by omega
 have he2 : (headW h).2 = 0 := by rw [headW_ok e]
 rw [he2] at H3
 unfold hdB at hS1 ⊢
 clear hpf hpadN he2 e z1 z2 z3 z4 z5
 generalize padF d = PF at H4 hpf1 ⊢
 obtain ⟨S, hS⟩ : ∃ S, S = (headW h).1 := ⟨_, rfl⟩
 rw [← hS] at H3 hS1 ⊢
 obtain ⟨n0, n1, n2, n3, n4, n5, n6, n7, n8, n9, nA⟩ := h
 unfold headC at H3 ⊢
 simp only at H3 ⊢
 have hEC := Blk.new w 74 #[.string (bs n0), .string (bs n1), .string (bs n2), .int .i64 n3, .int .i64 n4, .int .i64 n5, .int .i64 n6, .int .i64 n7, .int .u8 (n8.toNat : Int), .string (bs n9), .string (bs nA)]
 have hWC := (Below.refl w.heap.size w).alloc (Nat.le_refl _) (.cells #[.string (bs n0), .string (bs n1), .string (bs n2), .int .i64 n3, .int .i64 n4, .int .i64 n5, .int .i64 n6, .int .i64 n7, .int .u8 (n8.toNat : Int), .string (bs n9), .string (bs nA)] 74)
 have HE0 := Lib.hid hEC
 have HW0 := Lib.hid hWC
 have HD := Lib.hid hD
 have HDL := Lib.hid hd
 clear hEC hWC hD hd hS
 go_enter Tryz.func93, Tryz.ntmps93
 obtain ⟨⟨E0, E1, E2, E3, E4, E5, E6, E7, E8, E9, EA⟩, -⟩ := blk11 HE0.out
 go_wp2_with fail
 refine (H3.out _).mono ?_; rintro e x5 ⟨rfl, hb⟩
 have HB5 := Lib.hid (HW0.out.trans (hb.mono HW0.out.size))
 clear hb E0 E1 E2 E3 E4 E5 E6 E7 E8 E9 EA HE0 HW0 H3
 have hc5 := byc_run x5 S
 have hs5 : S.size = 512 := by
   have : S.data.toList.length = S.size := by simp
   omega
 have ho6 := OwnC.conv x5 S (by unfold maxLen; omega)
 have hb6 := byc_below x5 S
 generalize grownCap x5 S.size 0 5 = k5 at hc5 ho6
 generalize Lib.bytesWorld x5 5 S = x6 at hc5 ho6 hb6
 have HO6 := Lib.hid ho6
 have HB6 := Lib.hid (HB5.out.trans (hb6.mono HB5.out.size))
 have h56 := hb6.size
 have HX5 := Lib.hid hb6
 rw [hs5] at hc5 HO6
 clear ho6 hb6 hs5
 go_wp2_with fail
 refine (H4.out _ (HD.out.below HB6.out)).mono ?_; rintro e x7 ⟨v7, rfl, ho7, hb7⟩
 obtain ⟨A7, c7, hv7, hs7, ha7⟩ := ho7.form
 subst hv7
 have HX7 := HX5.out.trans (hb7.mono h56)
 have HO7 := Lib.hid (HO6.out.below hb7)
 clear ho7 hb7 HO6 HB6 hc5 H4
 go_wp2_with (at_builtin; refine Stay.go ?_)
 refine Stay.on ?_
 refine append_bytc rfl (.tmp 13) (.tmp 15) rfl x5.heap.size _ S.data.toList rfl HO7.out A7 PF.length c7 PF rfl rfl ha7 hs7.2.2 (by omega) HX7.size ?_
 intro v8 x8 ho8 hb8
 have HX8 := Lib.hid (hb8 x5 HX7)
 have HB8 := Lib.hid (HB5.out.trans (HX8.out.mono HB5.out.size))
 have HO8 := Lib.hid (ho8.mono HB5.out.size)
 obtain ⟨A8, c8, rfl, hs8, ha8⟩ := ho8.form
 generalize hnB : (S.data.toList ++ PF).length = nB at hs8 HO8 ⊢
 have HNB := Lib.hid hnB
 clear hb8 HX7 HO7 ha7 hs7 HX5 ho8 ha8 hs8 hnB
 go_wp2_with fail
 go_ret
 exact ⟨_, rfl, HO8.out, HB8.out⟩
set_option maxHeartbeats 8000000 in
theorem mWrite_ok (x : EntV) (D : Option Addr) (c : Nat) (hx : x.sz) (h0 : entE x = 0) (w : World) (T : Tab w) (hD : BytsAt w D x.data) (hsl : SlOk D x.data.length c) :
  Calls Tryz.prog 52 #[.agg (entC x D c).toArray] w fun e w' => ∃ A n cc, e = .returned (.tuple #[.slice A n cc, .int .i64 0]) ∧ SlOk A n cc ∧ (bytesM x).length = n ∧ BytsAt w' A (bytesM x) ∧ Below w.heap.size w w' := by
 have g := entE_good h0
 have H1 := Lib.hid fun W TW => mHead_ok x D c hx h0 W TW
 have H2 := Lib.hid fun W TW => mRecs_ok x D c hx h0 W TW
 obtain ⟨z1, z2, z3, z4, z5⟩ := headM_szs h0
 have hE1 := headM_ok h0
 have hS1 := hdB_len hE1
 have hdl := g.data
 have H3 := Lib.hid fun W hA => encode_any (headM x) hE1 z1 z2 z3 z4 z5 D x.data.length c x.data rfl (by omega) hsl W hA
 have hrl := recs_len h0
 have hE2 := paxH_ok hrl
 have hS2 := hdB_len hE2
 have H5 := Lib.hid fun A n cc hn W TW h => pWrite_any A n cc (recsM x) hn (by have := recs_few x; omega) (recs_sz h0) W TW h
 rw [paxW_recs h0] at H5
 have H7 := Lib.hid fun A cc hc W h => encode_any (paxH (textP (recsM x)).length) hE2 (by show atPax.length ≤ _; decide) (by simp [paxH, headZ]) (by simp [paxH, headZ]) (by simp [paxH, headZ]) (by simp [paxH, headZ]) A (textP (recsM x)).length cc (textP (recsM x)) rfl (by omega) hc W h
 have hb := bytesM_eq h0
 have hfew := recs_few x
 have hpf := padF_length x.data
 have hpt := padF_length (textP (recsM x))
 have hpadN := padN_lt x.data.length
 have hpadN2 := padN_lt (textP (recsM x)).length
 have hnil : recsM x = [] ↔ (recsM x).length = 0 := List.length_eq_zero_iff.symm
 have hl1 : (hdB (headM x) ++ padF x.data).length ≤ 10000 := by rw [List.length_append]; omega
 have hl2 : (hdB (paxH (textP (recsM x)).length) ++ padF (textP (recsM x))).length ≤ 10000 := by rw [List.length_append]; omega
 clear hpf hpt hpadN hpadN2 hS1 hS2 hE1 hE2 z1 z2 z3 z4 z5 g h0
 generalize hdB (headM x) ++ padF x.data = B1 at H3 hb hl1
 generalize hdB (paxH (textP (recsM x)).length) ++ padF (textP (recsM x)) = B2 at H7 hb hl2
 generalize bytesM x = BM at hb ⊢
 generalize recsM x = RS at *
 generalize headM x = H9 at *
 generalize hTX : textP RS = TX at *
 have hPX : headC (paxH TX.length) = #[.string ⟨#[64, 112, 97, 120]⟩, .string ⟨#[]⟩, .string ⟨#[]⟩, .int .i64 0, .int .i64 0, .int .i64 0, .int .i64 (TX.length : Int), .int .i64 0, .int .u8 120, .string ⟨#[]⟩, .string ⟨#[]⟩] := rfl
 rw [hPX] at H7
 clear hTX hPX
 obtain ⟨path, kind, target, ⟨m0, m1, m2, m3, m4, m5, m6⟩, data⟩ := x
 obtain ⟨n0, n1, n2, n3, n4, n5, n6, n7, n8, n9, nA⟩ := H9
 unfold entC at H1 H2 ⊢
 unfold headC at H1 H3
 simp only at H1 H2 H3 hD hdl hsl hb ⊢
 obtain ⟨dl, hdl0⟩ : ∃ dl, dl = data.length := ⟨_, rfl⟩
 rw [← hdl0] at H1 H2 H3 hdl hsl ⊢
 have HDL := Lib.hid hdl0
 have hEC := Blk.new w 34 #[.string (bs path), .int .i64 kind, .string (bs target), .int .i64 m0, .int .i64 m1, .int .i64 m2, .string (bs m3), .string (bs m4), .int .i64 m5, .int .i64 m6, .slice D dl c]
 have hWC := (Below.refl w.heap.size w).alloc (Nat.le_refl _) (.cells #[.string (bs path), .int .i64 kind, .string (bs target), .int .i64 m0, .int .i64 m1, .int .i64 m2, .string (bs m3), .string (bs m4), .int .i64 m5, .int .i64 m6, .slice D dl c] 34)
 have HE0 := Lib.hid hEC
 have HW0 := Lib.hid hWC
 have HD := Lib.hid hD
 have HB := Lib.hid hb
 clear hEC hWC hD hb hdl0 hsl
 go_enter Tryz.func52, Tryz.ntmps52
 go_wp2_with fail
 refine (H2.out _ (T.below HW0.out)).mono ?_; rintro e x2 ⟨v, rfl, ho, hb⟩
 obtain ⟨A2, c2, rfl⟩ := ho.form
 have HR2 := Lib.hid ho.at
 have HE2 := Lib.hid (HE0.out.below hb HE0.out.lt)
 have HB2 := Lib.hid (HW0.out.trans (hb.mono HW0.out.size))
 clear hb ho HE0 HW0 H2
 by_cases hnl : RS.length = 0
 ·have hnl0 : RS = [] := hnil.2 hnl
  have HV : Hid (BM = B1) := by
   have := HB.out
   rw [if_pos hnl0, List.nil_append] at this
   exact this
  rw [hnl]
  obtain ⟨⟨E0, E1, E2, E3, E4, E5, E6, E7, E8, E9, EA⟩, -⟩ := blk11 HE2.out
  clear hnil HB H5 H7 hnl hnl0 hfew
  go_wp2_with fail
  refine (H1.out _ (T.below HB2.out)).mono ?_; rintro e x3 ⟨rfl, hb⟩
  have HE3 := Lib.hid (HE2.out.below hb HE2.out.lt)
  have HB3 := Lib.hid (HB2.out.trans (hb.mono HB2.out.size))
  clear hb E0 E1 E2 E3 E4 E5 E6 E7 E8 E9 EA HE2 HB2
  have hH4 := Blk.new x3 74 #[.string (bs n0), .string (bs n1), .string (bs n2), .int .i64 n3, .int .i64 n4, .int .i64 n5, .int .i64 n6, .int .i64 n7, .int .u8 (n8.toNat : Int), .string (bs n9), .string (bs nA)]
  have hE4 := HE3.out.alloc (.cells #[.string (bs n0), .string (bs n1), .string (bs n2), .int .i64 n3, .int .i64 n4, .int .i64 n5, .int .i64 n6, .int .i64 n7, .int .u8 (n8.toNat : Int), .string (bs n9), .string (bs nA)] 74)
  have hB4 := HB3.out.alloc HB3.out.size (.cells #[.string (bs n0), .string (bs n1), .string (bs n2), .int .i64 n3, .int .i64 n4, .int .i64 n5, .int .i64 n6, .int .i64 n7, .int .u8 (n8.toNat : Int), .string (bs n9), .string (bs nA)] 74)
  go_upto_region 9 with fail
  generalize x3.alloc (.cells #[.string (bs n0), .string (bs n1), .string (bs n2), .int .i64 n3, .int .i64 n4, .int .i64 n5, .int .i64 n6, .int .i64 n7, .int .u8 (n8.toNat : Int), .string (bs n9), .string (bs nA)] 74) = x4 at hH4 hE4 hB4 ⊢
  generalize x3.heap.size = gH at hH4 ⊢
  have HB4 := Lib.hid hB4
  obtain ⟨⟨p0, p1, p2, p3, p4, p5, p6, p7, p8, p9, pA⟩, -⟩ := blk11 hH4
  obtain ⟨⟨E0, E1, E2, E3, E4, E5, E6, E7, E8, E9, EA⟩, -⟩ := blk11 hE4
  clear hH4 hE4 hB4 HE3 HB3
  go_wp2_with fail
  refine (H3.out _ (HD.out.below HB4.out)).mono ?_; rintro e x5 ⟨v5, rfl, ho5, hb5⟩
  obtain ⟨A5, c5, rfl, hs5, ha5⟩ := ho5.form
  have HB5 := Lib.hid (HB4.out.trans (hb5.mono HB4.out.size))
  have hz5 := hb5.size
  clear p0 p1 p2 p3 p4 p5 p6 p7 p8 p9 pA E0 E1 E2 E3 E4 E5 E6 E7 E8 E9 EA ho5 hb5 H3
  go_wp2_with (at_builtin; refine Stay.go ?_)
  refine Stay.on ?_
  refine append_byts rfl (.tmp 38) (.tmp 42) rfl x5.heap.size _ [] rfl (OwnB.nil _ _) A5 B1.length c5 B1 rfl rfl ha5 hs5.2.2 (by simp only [List.length_nil]; omega) (Nat.le_refl _) ?_
  intro v6 x6 ho6 hb6
  have HB6 := Lib.hid (HB5.out.trans ((hb6 x5 (Below.refl _ _)).mono HB5.out.size))
  rw [List.nil_append, ← HV.out] at ho6
  obtain ⟨A6, c6, rfl, hs6, ha6⟩ := ho6.form
  generalize hn15 : BM.length = n15 at hs6 ⊢
  have HS15 := Lib.hid hs6
  have HA15 := Lib.hid ha6
  have HN15 := Lib.hid hn15
  clear ho6 hb6 hs6 ha6 hn15 hs5 ha5 hz5
  go_wp2_with fail
  refine bodyPost_ret (v := .tuple #[.slice A6 n15 c6, .int .i64 0]) (by simp [results, Tryz.results52, go_sem, *]) rfl ?_
  exact ⟨_, _, _, rfl, HS15.out, HN15.out, HA15.out, HB6.out⟩
 ·have HV : Hid (BM = B2 ++ B1) := by
   have := HB.out
   rw [if_neg (fun e => hnl (hnil.1 e))] at this
   exact this
  have H5' := Lib.hid (H5.out A2 RS.length c2 rfl x2 (T.below HB2.out) HR2.out)
  obtain ⟨rl, hrl9⟩ : ∃ rl, rl = RS.length := ⟨_, rfl⟩
  rw [← hrl9] at H5' hnl ⊢
  have hpos : (0 : Int) < (rl : Int) := by omega
  obtain ⟨⟨E0, E1, E2, E3, E4, E5, E6, E7, E8, E9, EA⟩, -⟩ := blk11 HE2.out
  clear hnil H5 HR2 hrl9 hnl hfew
  go_wp2_with fail
  refine H5'.out.mono ?_; rintro e x3 ⟨rfl, hb⟩
  have HE3 := Lib.hid (HE2.out.below hb HE2.out.lt)
  have HB3 := Lib.hid (HB2.out.trans (hb.mono HB2.out.size))
  clear hb H5' E0 E1 E2 E3 E4 E5 E6 E7 E8 E9 EA HE2 HB2 hpos
  have HLE3 := Lib.hid HB3.out.size
  have hcB := byc_run x3 (bs TX)
  have hsB : (bs TX).size = TX.length := bs_size TX
  have hoB := OwnC.conv x3 (bs TX) (by unfold maxLen; omega)
  rw [bs_list] at hoB
  have hbB := byc_below x3 (bs TX)
  generalize grownCap x3 (bs TX).size 0 5 = kB at hcB hoB
  generalize Lib.bytesWorld x3 5 (bs TX) = x12 at hcB hoB hbB
  obtain ⟨AB, cB, hvB, hsB2, haB⟩ := hoB.form
  rw [hsB] at hvB hcB
  injection hvB with hv1 hv2 hv3
  subst hv1 hv3
  have HFB := Lib.hid (H7.out _ kB hsB2 x12 haB)
  have HX12 := Lib.hid hbB
  obtain ⟨TS, HTS⟩ := hid_name (bs TX)
  rw [HTS.out] at hcB hsB ⊢
  clear hoB hbB hv2 haB hsB2 H7
  go_wp2_with fail
  refine HFB.out.mono ?_; rintro e x13 ⟨v13, rfl, ho13, hb13⟩
  have hX13 := HX12.out.trans (hb13.mono HX12.out.size)
  have HE13 := Lib.hid (HE3.out.below hX13 HE3.out.lt)
  have HB13 := Lib.hid (HB3.out.trans (hX13.mono HB3.out.size))
  have HO13 := Lib.hid (ho13.mono HX12.out.size)
  obtain ⟨A13, c13, rfl, hs13, -⟩ := ho13.form
  obtain ⟨⟨E0, E1, E2, E3, E4, E5, E6, E7, E8, E9, EA⟩, -⟩ := blk11 HE13.out
  clear hb13 ho13 hX13 HX12 HFB hcB hsB HE3 HB3 HTS
  go_wp2_with fail
  refine (H1.out _ (T.below HB13.out)).mono ?_; rintro e x14 ⟨rfl, hb⟩
  have HE14 := Lib.hid (HE13.out.below hb HE13.out.lt)
  have HB14 := Lib.hid (HB13.out.trans (hb.mono HB13.out.size))
  have HO14 := Lib.hid (HO13.out.below hb)
  clear hb E0 E1 E2 E3 E4 E5 E6 E7 E8 E9 EA HE13 HB13 HO13
  have hH4 := Blk.new x14 74 #[.string (bs n0), .string (bs n1), .string (bs n2), .int .i64 n3, .int .i64 n4, .int .i64 n5, .int .i64 n6, .int .i64 n7, .int .u8 (n8.toNat : Int), .string (bs n9), .string (bs nA)]
  have hE4 := HE14.out.alloc (.cells #[.string (bs n0), .string (bs n1), .string (bs n2), .int .i64 n3, .int .i64 n4, .int .i64 n5, .int .i64 n6, .int .i64 n7, .int .u8 (n8.toNat : Int), .string (bs n9), .string (bs nA)] 74)
  have hB4 := HB14.out.alloc HB14.out.size (.cells #[.string (bs n0), .string (bs n1), .string (bs n2), .int .i64 n3, .int .i64 n4, .int .i64 n5, .int .i64 n6, .int .i64 n7, .int .u8 (n8.toNat : Int), .string (bs n9), .string (bs nA)] 74)
  have hO4 := HO14.out.alloc (.cells #[.string (bs n0), .string (bs n1), .string (bs n2), .int .i64 n3, .int .i64 n4, .int .i64 n5, .int .i64 n6, .int .i64 n7, .int .u8 (n8.toNat : Int), .string (bs n9), .string (bs nA)] 74)
  go_upto_region 9 with fail
  generalize x14.alloc (.cells #[.string (bs n0), .string (bs n1), .string (bs n2), .int .i64 n3, .int .i64 n4, .int .i64 n5, .int .i64 n6, .int .i64 n7, .int .u8 (n8.toNat : Int), .string (bs n9), .string (bs nA)] 74) = x15 at hH4 hE4 hB4 hO4 ⊢
  generalize x14.heap.size = gH at hH4 ⊢
  have HB15 := Lib.hid hB4
  have HO15 := Lib.hid hO4
  have HLO : Hid (w.heap.size ≤ x3.heap.size ∧ x3.heap.size ≤ x15.heap.size) := by
   obtain ⟨g9, cap9, -, q1, q2, -⟩ := hO4
   exact ⟨HLE3.out, by omega⟩
  obtain ⟨⟨p0, p1, p2, p3, p4, p5, p6, p7, p8, p9, pA⟩, -⟩ := blk11 hH4
  obtain ⟨⟨E0, E1, E2, E3, E4, E5, E6, E7, E8, E9, EA⟩, -⟩ := blk11 hE4
  clear hH4 hE4 hB4 hO4 HE14 HB14 HO14 HLE3
  go_wp2_with fail
  refine (H3.out _ (HD.out.below HB15.out)).mono ?_; rintro e x16 ⟨v5, rfl, ho5, hb5⟩
  obtain ⟨A5, c5, rfl, hs5, ha5⟩ := ho5.form
  have HB16 := Lib.hid (HB15.out.trans (hb5.mono HB15.out.size))
  have HO16 := Lib.hid (HO15.out.below hb5)
  have hz5 := hb5.size
  clear p0 p1 p2 p3 p4 p5 p6 p7 p8 p9 pA E0 E1 E2 E3 E4 E5 E6 E7 E8 E9 EA ho5 hb5 H3 HO15 HB15
  go_wp2_with (at_builtin; refine Stay.go ?_)
  refine Stay.on ?_
  refine append_bytc rfl (.tmp 38) (.tmp 42) rfl x3.heap.size _ B2 rfl HO16.out A5 B1.length c5 B1 rfl rfl ha5 hs5.2.2 (by omega) (Nat.le_trans HLO.out.2 hz5) ?_
  intro v6 x17 ho6 hb6
  have HB17 : Hid (Below w.heap.size w x17) := (hb6 x16 ((Below.refl _ _).mono (Nat.le_trans HLO.out.2 hz5)) |> fun h => HB16.out.trans (h.mono HLO.out.1))
  rw [← HV.out] at ho6
  obtain ⟨A6, c6, rfl, hs6, ha6⟩ := ho6.form
  generalize hn15 : BM.length = n15 at hs6 ⊢
  have HS15 := Lib.hid hs6
  have HA15 := Lib.hid ha6
  have HN15 := Lib.hid hn15
  clear ho6 hb6 hs6 ha6 hn15 hs5 ha5 hz5
  go_wp2_with fail
  refine bodyPost_ret (v := .tuple #[.slice A6 n15 c6, .int .i64 0]) (by simp [results, Tryz.results52, go_sem, *]) rfl ?_
  exact ⟨_, _, _, rfl, HS15.out, HN15.out, HA15.out, HB17.out⟩
theorem mWrite_any (x : EntV) (D : Option Addr) (c : Nat) (hx : x.sz) (w : World) (T : Tab w) (hD : BytsAt w D x.data) (hsl : SlOk D x.data.length c) :
  Calls Tryz.prog 52 #[.agg (entC x D c).toArray] w fun e w' => ∃ A n cc, e = .returned (.tuple #[.slice A n cc, .int .i64 (entE x)]) ∧ SlOk A n cc ∧ (bytO x).length = n ∧ BytsAt w' A (bytO x) ∧ Below w.heap.size w w' := by
 unfold bytO
 by_cases h0 : entE x = 0
 ·rw [if_pos h0, h0]
  exact mWrite_ok x D c hx h0 w T hD hsl
 ·rw [if_neg h0]
  have H1 := Lib.hid fun W TW => mRecs_any x D c hx W TW
  obtain ⟨E, HE⟩ := hid_name (entE x)
  rw [HE.out] at H1 h0 ⊢
  have hne : (E != 0) = true := by simpa using h0
  have HW : Hid (Below w.heap.size w (w.alloc (.cells (entC x D c).toArray 34))) := (Below.refl _ _).alloc (Nat.le_refl _) _
  unfold entC at H1 HW ⊢
  clear h0 HE hD hsl
  obtain ⟨path, kind, target, ⟨m0, m1, m2, m3, m4, m5, m6⟩, data⟩ := x
  simp only at H1 HW ⊢
  go_enter Tryz.func52, Tryz.ntmps52
  go_wp2_with fail
  refine (H1.out _ (T.below HW.out)).mono ?_; rintro e u ⟨v, rfl, -, hb⟩
  have HB := Lib.hid (HW.out.trans (hb.mono HW.out.size))
  clear hb
  go_wp2_with fail
  refine bodyPost_ret (v := .tuple #[.slice none 0 0, .int .i64 E]) (by simp [results, Tryz.results52, go_sem, *]) rfl ?_
  exact ⟨_, _, _, rfl, ⟨Nat.le_refl _, by decide, fun _ => rfl⟩, rfl, fun j hj => by simp at hj, HB.out⟩
end Go.Proofs.YtmejnabngfpbeaaGreatDoor
