/- Package pad: the law PadCuts, the property PadStrict. -/
import Derived.Test.YtmcojkgknffccaaPadD
set_option linter.unusedVariables false
set_option maxRecDepth 100000
namespace Go.Proofs.Ytmcojkgknffccaa
open Go.RowKit
open Go.OpenShut
theorem ends_zeros (l : List UInt8) (n : Nat) (h : l.length = n) : (l == List.replicate 1024 0) = (decide (n = 1024) && allZ l) := by
  rw [allZ_rep, Bool.eq_iff_iff]
  simp only [beq_iff_eq, Bool.and_eq_true, decide_eq_true_eq]
  constructor
  · intro e
    have h2 : l.length = 1024 := by rw [e, List.length_replicate]
    exact ⟨by omega, by rw [h2]; exact e⟩
  · rintro ⟨h1, h2⟩
    rw [h, h1] at h2; exact h2
/-- two rows of the same bytes are the same -/
theorem same_own {W : World} {B B' : Nat} {v v' : Value} {l : List UInt8} (h : OwnB W B v l) (h' : OwnB W B' v' l) : Calls Try.prog 12 #[v, v'] W fun e w' => e = .returned (.bool true) ∧ W = w' := by
  obtain ⟨A, c, rfl, -, ha⟩ := h.form
  obtain ⟨A', c', rfl, -, ha'⟩ := h'.form
  have h1 := same_any A A' _ c _ c' l l rfl rfl W ha ha'
  rw [show (l == l) = true by simp] at h1
  exact h1
set_option maxHeartbeats 2000000 in
theorem PadCuts_walk (A0 : Option Addr) (n0 c0 : Nat) (l0 : List UInt8) (a1 : Int) (hn0 : l0.length = n0) (hm0 : n0 ≤ 140737488351232) (hc0 : n0 ≤ c0 ∧ c0 ≤ maxLen ∧ (A0 = none → c0 = 0)) (w1 : (Lit.int .i64 a1).wf = true) (w : World) (hr0 : BytsAt w A0 l0) :
    Calls Try.prog 4 #[.slice A0 n0 c0, .int .i64 a1] w fun e w' => e = .returned (.bool true) ∧ Below w.heap.size w w' := by
  obtain ⟨i0, hi, hz0, hz1, hz2⟩ := info_parts oinfo_u8
  obtain ⟨M, -, hmk, hown⟩ := made_own w 1024 (by decide) i0 hi hz0 hz1 hz2
  simp only [show ((1024 : Nat) : Int) = 1024 from rfl] at hmk
  have HM := Lib.hid hown
  have HC := Lib.hid fun W (h : BytsAt W A0 l0) => Cut_any A0 n0 c0 l0 a1 hn0 hm0 hc0 W h
  have HR := Lib.hid fun W (h : BytsAt W A0 l0) => rCut_any A0 n0 c0 l0 a1 hn0 hm0 hc0 W h
  have HE := Lib.hid fun W (h : BytsAt W A0 l0) => Ends_any A0 n0 c0 l0 hn0 hm0 W h
  have HS := Lib.hid fun W A n c (hn : (List.replicate 1024 (0 : UInt8)).length = n) (h : BytsAt W A0 l0) (h' : BytsAt W A (List.replicate 1024 0)) => same_any A0 A n0 c0 n c l0 (List.replicate 1024 0) hn0 hn W h h'
  rw [ends_zeros l0 n0 hn0] at HS
  obtain ⟨b, hb⟩ := hid_name (decide (n0 = 1024) && allZ l0)
  rw [hb.out] at HE HS
  obtain ⟨R, hR⟩ := hid_name (padC l0 a1)
  rw [hR.out] at HC HR
  obtain ⟨⟨R1, R2⟩, R3⟩ := R
  simp only at HC HR
  have HA := Lib.hid hr0
  clear hr0 hn0 hc0 w1 hown hR hb hi hz0 hz1 hz2
  go_enter Try.func4, Try.ntmps4
  go_wp2_with fail
  refine (HC.out _ HA.out).mono ?_; rintro e wa ⟨v1, v2, rfl, ho1, ho2, hb1⟩
  have HB1 := Lib.hid hb1
  have HO1 := Lib.hid ho1
  have HO2 := Lib.hid ho2
  have HA1 := Lib.hid (HA.out.below hb1)
  clear ho1 ho2 hb1
  go_wp2_with fail
  refine (End_any _).mono ?_; rintro e wb ⟨v3, rfl, ho3, hb2⟩
  have HB2 := Lib.hid (HB1.out.trans (hb2.mono HB1.out.size))
  have HO1b := Lib.hid (HO1.out.below hb2)
  have HO2b := Lib.hid (HO2.out.below hb2)
  have HO3 := Lib.hid ho3
  have HA2 := Lib.hid (HA1.out.below hb2)
  clear ho3 hb2 HO1 HO2 HB1 HA1
  go_wp2_with fail
  refine (HE.out _ HA2.out).mono ?_; rintro e w' ⟨rfl, rfl⟩
  go_wp2_with fail
  refine (HR.out _ HA2.out).mono ?_; rintro e wd ⟨v4, v5, rfl, ho4, ho5, hb4⟩
  have HB4 := Lib.hid (HB2.out.trans (hb4.mono HB2.out.size))
  have HX1 := Lib.hid ((HO1b.out.below hb4).alloc (.cells M 5))
  have HX2 := Lib.hid ((HO2b.out.below hb4).alloc (.cells M 5))
  have HX3 := Lib.hid ((HO3.out.below hb4).alloc (.cells M 5))
  have HX4 := Lib.hid (ho4.alloc (.cells M 5))
  have HX5 := Lib.hid (ho5.alloc (.cells M 5))
  have HX6 := Lib.hid (HM.out wd wd.heap.size (Nat.le_refl _))
  have HB5 := Lib.hid (HB4.out.alloc HB4.out.size (.cells M 5))
  have HA3 := Lib.hid ((HA2.out.below hb4).below ((Below.refl _ _).alloc (Nat.le_refl _) (.cells M 5)))
  clear ho4 ho5 hb4 HO1b HO2b HO3 HA2 HB2 HB4
  have C1 := Lib.hid (same_own HX1.out HX4.out)
  have C2 := Lib.hid (same_own HX2.out HX5.out)
  have C3 := Lib.hid (same_own HX3.out HX6.out)
  obtain ⟨A6, c6, e6, -, h6⟩ := HX6.out.form
  simp only [List.length_replicate] at e6
  injection e6 with e6 _ e7
  subst e6 e7
  have C4 := Lib.hid (HS.out _ _ 1024 1024 List.length_replicate HA3.out h6)
  clear h6 HX1 HX2 HX3 HX4 HX5 HX6 HA3
  go_wp2_with fail
  refine C1.out.mono ?_; rintro e w' ⟨rfl, rfl⟩
  go_wp2_with fail
  refine C2.out.mono ?_; rintro e w' ⟨rfl, rfl⟩
  go_wp2_with fail
  refine C3.out.mono ?_; rintro e w' ⟨rfl, rfl⟩
  go_wp2_with fail
  refine C4.out.mono ?_; rintro e w' ⟨rfl, rfl⟩
  go_wp2_with fail
  go_ret
  exact ⟨ret_bool (by simp), HB5.out⟩
end Go.Proofs.Ytmcojkgknffccaa
