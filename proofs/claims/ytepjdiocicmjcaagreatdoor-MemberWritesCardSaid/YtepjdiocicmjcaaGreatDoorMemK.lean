/- MemberWrites: the law against the reference. -/
import Derived.Test.YtepjdiocicmjcaaGreatDoorMcv
import Derived.Test.YtepjdiocicmjcaaGreatDoorLaid
import Derived.Test.YtepjdiocicmjcaaGreatDoorEna
set_option linter.unusedVariables false
set_option maxRecDepth 100000
namespace Go.Proofs.YtepjdiocicmjcaaGreatDoor
open Go.RowKit
open Go.OpenShut
theorem MemberWrites_walk (a0 : EntV) (D0 : Option Addr) (c0 : Nat) (w0 : a0.wf) (s0 : SlOk D0 a0.data.length c0) (w : World) (hr0 : BytsAt w D0 a0.data) (hL : laidMetH Tryz.prog Rows.memberWritesRow.laid w) :
    Calls Tryz.prog 3 #[.agg (entC a0 D0 c0).toArray] w fun e w' => e = .returned (.bool true) ∧ Below w.heap.size w w' := by
  have T : Tab w := tab_of_laid hL (by kernel_rfl) (by simp [Rows.memberWritesRow])
  have H1 := Lib.hid fun W TW h => mWrite_any a0 D0 c0 w0.sz W TW h s0
  have H2 := Lib.hid fun W TW h => rMBytes_any a0 D0 c0 w0.sz W TW h s0
  have HW : Hid (Below w.heap.size w (w.alloc (.cells (entC a0 D0 c0).toArray 26))) := (Below.refl _ _).alloc (Nat.le_refl _) _
  have hE0 := Blk.new w 26 (entC a0 D0 c0).toArray
  have HD := Lib.hid hr0
  clear hr0 hL s0
  generalize bytO a0 = BO at H1 H2
  generalize entE a0 = E at H1 H2
  unfold entC at H1 H2 HW hE0 ⊢
  obtain ⟨path, kind, target, ⟨m0, m1, m2, m3, m4, m5, m6⟩, data⟩ := a0
  simp only at H1 H2 HW HD hE0 ⊢
  have HE0 := Lib.hid hE0
  clear hE0 w0
  go_enter Tryz.func3, Tryz.ntmps3
  go_wp2_with fail
  refine (H1.out _ (T.below HW.out) (HD.out.below HW.out)).mono ?_; rintro e w1 ⟨A, n, cc, rfl, h1, h2, h3, hb⟩
  have HS1 := Lib.hid h1
  have HN1 := Lib.hid h2
  have HA1 := Lib.hid h3
  have HB1 := Lib.hid (HW.out.trans (hb.mono HW.out.size))
  obtain ⟨⟨c0', c1', c3', c4', c5', c6', c7', c8', c9', cA', cB'⟩, -⟩ := blk11 (HE0.out.below hb HE0.out.lt)
  clear h1 h2 h3 hb
  go_wp2_with fail
  refine (H2.out _ (T.below HB1.out) (HD.out.below HB1.out)).mono ?_; rintro e w2 ⟨A2, n2, cc2, rfl, h1, h2, h3, hb⟩
  have HSm := Lib.hid fun W hA hA' => same_any A A2 n cc n2 cc2 BO BO HN1.out h2 W hA hA'
  have HB2 := Lib.hid (HB1.out.trans (hb.mono HB1.out.size))
  have HSM := Lib.hid (HSm.out w2 (HA1.out.below hb) h3)
  rw [show (BO == BO) = true by simp] at HSM
  clear h1 h2 h3 hb HSm c0' c1' c3' c4' c5' c6' c7' c8' c9' cA' cB'
  go_wp2_with fail
  refine HSM.out.mono ?_; rintro e w3 ⟨rfl, rfl⟩
  go_wp2_with fail
  go_ret
  exact ⟨rfl, HB2.out⟩
end Go.Proofs.YtepjdiocicmjcaaGreatDoor
