/- The law ReadArchives. -/
import Derived.Test.YtmejnabngfpbeaaGreatDoorRea
import Derived.Test.YtmejnabngfpbeaaGreatDoorReb
import Derived.Test.YtmejnabngfpbeaaGreatDoorEnf
import Derived.Test.YtmejnabngfpbeaaGreatDoorStp
set_option linter.unusedVariables false
set_option maxRecDepth 100000
namespace Go.Proofs.YtmejnabngfpbeaaGreatDoor
open Go.RowKit
open Go.OpenShut
theorem arcR_few (b : List UInt8) : (arcR b).1.length ≤ 40 := by
 by_cases h : (arcR b).2 = 0
 ·exact ents_few (arcR_back h).1
 ·rw [arcR_err h]; exact Nat.zero_le _
theorem ReadArchives_walk (A0 : Option Addr) (n0 c0 : Nat) (l0 : List UInt8) (hn0 : l0.length = n0) (hm0 : n0 ≤ 140737488351232) (hc0 : n0 ≤ c0 ∧ c0 ≤ maxLen ∧ (A0 = none → c0 = 0)) (w : World) (hr0 : BytsAt w A0 l0) (hL : laidMetH Tryz.prog Rows.readArchivesRow.laid w) :
  Calls Tryz.prog 3 #[.slice A0 n0 c0] w fun e w' => e = .returned (.bool true) ∧ Below w.heap.size w w' := by
 have S : Std w := std_of_laid hL (by kernel_rfl) (by simp [Rows.readArchivesRow]) (by simp [Rows.readArchivesRow]) (by simp [Rows.readArchivesRow])
 have H1 := Lib.hid (rdArc_any A0 n0 c0 l0 hn0 (by omega) hc0 w S hr0)
 have H2 := Lib.hid fun W (h : Below w.heap.size w W) => rArcOf_any A0 n0 c0 l0 hn0 hm0 hc0 W (S.below h) (hr0.below h)
 have h40 := arcR_few l0
 clear hn0 hm0 hc0 hr0 hL
 generalize arcR l0 = R at H1 H2 h40
 obtain ⟨p, E⟩ := R
 simp only at H1 H2 h40
 go_enter Tryz.func3, Tryz.ntmps3
 go_wp2_with fail
 refine H1.out.mono ?_; rintro e x1 ⟨v1, xs, rfl, hm1, ho1, hb⟩
 obtain ⟨A1, c1, rfl, hs1, hN1⟩ := ho1.at
 have hl1 : xs.length = p.length := by rw [← hm1, List.length_map]
 rw [hm1] at hN1
 rw [hl1]
 have HN1 := Lib.hid hN1
 have HB1 := Lib.hid hb
 clear hm1 ho1 hb hs1 hN1 hl1 H1
 go_wp2_with fail
 refine (H2.out _ HB1.out).mono ?_; rintro e x2 ⟨v2, ys, rfl, hm2, ho2, hb⟩
 obtain ⟨A2, c2, rfl, hs2, hN2⟩ := ho2.at
 have hl2 : ys.length = p.length := by rw [← hm2, List.length_map]
 rw [hm2] at hN2
 rw [hl2]
 have HB2 := Lib.hid (HB1.out.trans (hb.mono HB1.out.size))
 have HS := Lib.hid (sameEntries_any A1 A2 p.length c1 p.length c2 p p rfl rfl (by omega) (by omega) x2 (HN1.out.below hb) hN2)
 rw [decide_eq_true (rfl : p = p)] at HS
 clear hm2 ho2 hb hs2 hN2 hl2 H2 HN1 HB1
 obtain ⟨pl, hpl⟩ : ∃ pl, p.length = pl := ⟨_, rfl⟩
 rw [hpl] at HS ⊢
 clear hpl h40
 go_wp2_with fail
 refine HS.out.mono ?_; rintro e x3 ⟨rfl, hb⟩
 have HB3 := Lib.hid (HB2.out.trans (hb.mono HB2.out.size))
 clear hb HS HB2
 go_wp2_with fail
 go_ret
 exact ⟨rfl, HB3.out⟩
end Go.Proofs.YtmejnabngfpbeaaGreatDoor
