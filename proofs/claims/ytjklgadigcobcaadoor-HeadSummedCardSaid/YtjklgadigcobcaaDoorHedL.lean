/- The properties of headers, continued: a byte turned, the checksum field. -/
import Derived.Test.YtjklgadigcobcaaDoorHedK
set_option linter.unusedVariables false
set_option maxRecDepth 100000
namespace Go.Proofs.YtjklgadigcobcaaDoor
open Go.RowKit
open Go.OpenShut
theorem byte_nat {b : Int} (hb : (Lit.int .u8 b).wf = true) : ∃ c : UInt8, b = (c.toNat : Int) := by
  have hbb : IntKind.u8.min ≤ b ∧ b ≤ IntKind.u8.max := by simpa [Lit.wf] using hb
  rw [show IntKind.u8.min = 0 from rfl, show IntKind.u8.max = 255 from rfl] at hbb
  exact ⟨UInt8.ofNat b.toNat, by rw [UInt8.toNat_ofNat']; omega⟩
theorem turned_read {l : List UInt8} (h : l.length = 512) (hok : ckOk l = true) (k : Nat) (c x : UInt8) (hx : l[k]? = some x) (hc : c ≠ x) (W : World) :
    Calls Tryd.prog 8 #[.string (bs (l.set k c))] W fun e w' => e = .returned (.tuple #[.agg #[.string ⟨#[]⟩, .string ⟨#[]⟩, .string ⟨#[]⟩, .int .i64 0, .int .i64 0, .int .i64 0, .int .i64 0, .int .i64 0, .int .u8 0, .string ⟨#[]⟩, .string ⟨#[]⟩], .int .i64 8]) ∧ Below W.heap.size W w' := by
  have hk : k < 512 := by
    have := (List.getElem?_eq_some_iff.1 hx).1; omega
  have e : l[k]'(by omega) = x := by
    rw [List.getElem?_eq_getElem (by omega)] at hx; injection hx
  have h1 := hRead_any (bs (l.set k c)) W (by rw [bs_size, List.length_set, h]; decide)
  rw [show (bs (l.set k c)).data.toList = l.set k c from rfl, headR_sum (by rw [List.length_set]; exact h) (turned_no l h hok k hk c (by rw [e]; exact hc))] at h1
  exact h1
set_option maxHeartbeats 4000000 in
theorem HeadTurned_walk (a0 : RawV) (a1 a2 : Int) (w0 : a0.wf) (w1 : (Lit.int .i64 a1).wf = true) (w2 : (Lit.int .u8 a2).wf = true) (w : World) :
    Calls Tryd.prog 4 #[.agg (rawC a0).toArray, .int .i64 a1, .int .u8 a2] w fun e w' => e = .returned (.bool true) ∧ Below w.heap.size w w' := by
  have hok := rawH_ok a0
  have H1 := Lib.hid fun W => headOf_any a0 w0 W
  have h2 := fun W => rawWrite a0 W
  obtain ⟨hlen, hck⟩ := headW_block hok
  change (blkL (rawH a0)).length = 512 at hlen
  change ckOk (blkL (rawH a0)) = true at hck
  obtain ⟨BL, HBL⟩ := hid_name (blkL (rawH a0))
  rw [HBL.out] at h2 hlen hck
  have HT := Lib.hid fun (W : World) (g cap : Nat) (hc : ∀ j u, (bCells BL)[j]? = some u → W.cell? ⟨g, j, none⟩ = some u) => Turned_any BL (by omega) (by omega) g cap a1 a2 w1 w2 W hc
  have HR := Lib.hid fun (k : Nat) (c x : UInt8) (hx : BL[k]? = some x) (hc : c ≠ x) (W : World) => turned_read hlen hck k c x hx hc W
  obtain ⟨S, HS⟩ := hid_name (bs BL)
  have hsz : S.size = 512 := by rw [← HS.out, bs_size]; exact hlen
  have hSl : S.data.toList = BL := by rw [← HS.out]; rfl
  have hcv := fun W => hconv_run W S
  have HCV := Lib.hid fun W => CV.new W S
  rw [hSl] at HCV
  rw [hsz] at hcv
  rw [HS.out] at h2
  rw [hlen] at HT
  obtain ⟨H, HH⟩ := hid_name (rawH a0)
  rw [HH.out] at H1 h2
  rw [headC_eq] at H1 h2
  have H2 := Lib.hid h2
  obtain ⟨kind, a, b, text⟩ := a0
  unfold rawC at H1 ⊢
  simp only at H1 ⊢
  have HB := Lib.hid ((Below.refl w.heap.size w).alloc (Nat.le_refl _) (.cells #[.int .i64 kind, .int .i64 a, .int .i64 b, .string text] 23))
  have hsz2 : (S.size : Int) = 512 := by omega
  have HL := Lib.hid hlen
  clear hok h2 hlen hck w0 w1 w2 hsz hSl
  go_enter Tryd.func4, Tryd.ntmps4
  go_wp2_with fail
  refine (H1.out _).mono ?_; rintro e wa ⟨rfl, hb1⟩
  have HB1 := Lib.hid (HB.out.trans (hb1.mono HB.out.size))
  clear hb1
  go_wp2_with fail
  refine (H2.out _).mono ?_; rintro e wb ⟨rfl, hb2⟩
  have HB2 := Lib.hid (HB1.out.trans (hb2.mono HB1.out.size))
  clear hb2
  go_wp2_with fail
  refine (HT.out _ _ _ (CV.cells (HCV.out wb))).mono ?_; rintro e wd ⟨g, cap, c, x, hx, hc, rfl, ho, hb4⟩
  have HB4 := Lib.hid ((HB2.out.trans ((hconv_below wb S).mono HB2.out.size)).trans (hb4.mono (by have := HB2.out.size; have := (hconv_below wb S).size; omega)))
  have hcs := run_str_own (P := Tryd.prog) ho 33 5 9 Tryd.underlying33 Tryd.underlying5 Tryd.underlying9
  have HRR := Lib.hid (HR.out _ c x hx hc)
  obtain ⟨S2, HS2⟩ := hid_name (bs (BL.set (pick a1 ((512 : Nat) : Int)).toNat c))
  rw [HS2.out] at HRR
  rw [show (⟨(BL.set (pick a1 ((512 : Nat) : Int)).toNat c).toArray⟩ : ByteArray) = S2 from HS2.out] at hcs
  clear hx hc ho hb4 hcv
  go_wp2_with fail
  refine (HRR.out _).mono ?_; rintro e we ⟨rfl, hb5⟩
  have HB5 := Lib.hid (HB4.out.trans (hb5.mono HB4.out.size))
  have HB6 : Hid (∀ o, Below w.heap.size w (we.alloc o)) := fun o => HB5.out.alloc HB5.out.size o
  clear hb5 hcs
  go_wp2_with fail
  go_ret
  exact ⟨rfl, HB6.out _⟩
theorem sum_of {l : List UInt8} (h : l.length = 512) (W : World) : Calls Tryd.prog 11 #[.string (bs l)] W fun e w' => e = .returned (.tuple #[.int .i64 (sumH l : Nat), .int .i64 0]) ∧ Below W.heap.size W w' := by
  have h1 := Sum_any (bs l) W (by rw [bs_size, h]; decide)
  rw [show (bs l).data.toList = l from rfl, sumV_ok h] at h1
  exact h1
set_option maxHeartbeats 4000000 in
theorem HeadSummed_walk (a0 : RawV) (a1 a2 : Int) (w0 : a0.wf) (w1 : (Lit.int .i64 a1).wf = true) (w2 : (Lit.int .u8 a2).wf = true) (w : World) :
    Calls Tryd.prog 5 #[.agg (rawC a0).toArray, .int .i64 a1, .int .u8 a2] w fun e w' => e = .returned (.bool true) ∧ Below w.heap.size w w' := by
  obtain ⟨c, rfl⟩ := byte_nat w2
  have hok := rawH_ok a0
  have H1 := Lib.hid fun W => headOf_any a0 w0 W
  have h2 := fun W => rawWrite a0 W
  obtain ⟨hlen, -⟩ := headW_block hok
  change (blkL (rawH a0)).length = 512 at hlen
  obtain ⟨BL, HBL⟩ := hid_name (blkL (rawH a0))
  rw [HBL.out] at h2 hlen
  obtain ⟨p1, p2⟩ := pick_bd a1 8 (by omega)
  have HP := Lib.hid fun W => picked_any a1 8 W w1 (by omega)
  obtain ⟨z, Hz⟩ := hid_name (pick a1 8)
  rw [Hz.out] at HP p1 p2
  obtain ⟨j, rfl⟩ := Int.eq_ofNat_of_zero_le p1
  have hj : j < 8 := by omega
  obtain ⟨k, hk⟩ : ∃ k, k = 148 + j := ⟨_, rfl⟩
  have hkj : IntKind.i64.wrap (148 + (j : Int)) = (k : Int) := by rw [IntWalk.i64_in _ (by omega)]; omega
  have hk5 : k < 512 := by omega
  have hge := sumH_ge BL
  have hlt := sumH_lt BL hlen
  have h3 := fun W => sum_of hlen W
  have h4 := fun W => sum_of (l := BL.set k c) (by rw [List.length_set]; exact hlen) W
  rw [sum_set BL hlen k (by omega) (by omega) c] at h4
  obtain ⟨S, HS⟩ := hid_name (bs BL)
  obtain ⟨S2, HS2⟩ := hid_name (bs (BL.set k c))
  obtain ⟨N, HN⟩ := hid_name (sumH BL)
  have hsz : S.size = 512 := by rw [← HS.out, bs_size]; exact hlen
  have hSl : S.data.toList = BL := by rw [← HS.out]; rfl
  have hcv := fun W => hconv_run W S
  have HCV := Lib.hid fun W => CV.new W S
  rw [hSl] at HCV
  rw [hsz] at hcv
  rw [HS.out] at h2
  rw [HS.out, HN.out] at h3
  rw [HS2.out, HN.out] at h4
  rw [HN.out] at hge hlt
  obtain ⟨H, HH⟩ := hid_name (rawH a0)
  rw [HH.out] at H1 h2
  rw [headC_eq] at H1 h2
  have H2 := Lib.hid h2
  have H3 := Lib.hid h3
  have H4 := Lib.hid h4
  obtain ⟨kind, a, b, text⟩ := a0
  unfold rawC at H1 ⊢
  simp only at H1 ⊢
  have HB := Lib.hid ((Below.refl w.heap.size w).alloc (Nat.le_refl _) (.cells #[.int .i64 kind, .int .i64 a, .int .i64 b, .string text] 23))
  have hsz2 : (S.size : Int) = 512 := by omega
  have HL := Lib.hid hlen
  have HK : Hid (k = 148 + j) := hk
  clear hok h2 h3 h4 hlen w0 w1 w2 hsz hSl p1 p2 hk
  go_enter Tryd.func5, Tryd.ntmps5
  go_wp2_with fail
  refine (H1.out _).mono ?_; rintro e wa ⟨rfl, hb1⟩
  have HB1 := Lib.hid (HB.out.trans (hb1.mono HB.out.size))
  clear hb1
  go_wp2_with fail
  refine (H2.out _).mono ?_; rintro e wb ⟨rfl, hb2⟩
  have HB2 := Lib.hid (HB1.out.trans (hb2.mono HB1.out.size))
  clear hb2
  have hV := HCV.out wb
  have hcell := hV.cells k _ (bCells_get BL k (by rw [HL.out]; exact hk5))
  have hfr := hV.frozen k (by rw [HL.out]; exact hk5)
  have HV2 := Lib.hid (hV.set k c)
  have HB3 := Lib.hid ((HB2.out.trans ((hconv_below wb S).mono HB2.out.size)).setCell (p := ⟨wb.heap.size, k, none⟩) HB2.out.size (.int .u8 (c.toNat : Int)))
  clear hV
  go_wp2_with fail
  refine (HP.out _).mono ?_; rintro e w' ⟨rfl, rfl⟩
  go_upto_region 6 with fail
  obtain ⟨wd, WD⟩ : ∃ wd, wd = (Lib.bytesWorld wb 5 S).setCell ⟨wb.heap.size, k, none⟩ (.int .u8 (c.toNat : Int)) := ⟨_, rfl⟩
  rw [← WD] at HV2 HB3 ⊢
  clear WD hcell hfr hcv hkj
  go_wp2_with fail
  refine (H3.out _).mono ?_; rintro e we ⟨rfl, hb4⟩
  have hV3 := HV2.out.below hb4
  have HB4 := Lib.hid (HB3.out.trans (hb4.mono HB3.out.size))
  have hcs := hV3.conv (grownCap wb 512 0 5)
  rw [List.length_set, HL.out, HS2.out] at hcs
  clear hV3 hb4
  go_wp2_with fail
  refine (H4.out _).mono ?_; rintro e wf ⟨rfl, hb5⟩
  have HB5 := Lib.hid (HB4.out.trans (hb5.mono HB4.out.size))
  clear hb5 hcs
  go_wp2_with fail
  go_ret
  exact ⟨ret_bool (decide_eq_true (by omega)), HB5.out⟩
end Go.Proofs.YtjklgadigcobcaaDoor
