/- The law ListLines. (Over list.Line's and list.All's contracts.) -/
import Derived.Test.YtdcbmjihpjnbbaaDoorLinR
import Derived.Test.YtdcbmjihpjnbbaaDoorSpl
import Derived.Test.YtdcbmjihpjnbbaaDoorLaid
set_option linter.unusedVariables false
set_option maxRecDepth 100000
namespace Go.Proofs.YtdcbmjihpjnbbaaDoor
open Go.RowKit
open Go.OpenShut
theorem lin_same {w : World} {B B' : Nat} {v u : Value} {ls : List (List UInt8)} (h : Texts w B v ls) (h' : Texts w B' u ls) (hl : ls.length ≤ 9223372036854775807) :
    Calls Tryd.prog 14 #[v, u] w fun e w' => e = .returned (.bool true) ∧ Below w.heap.size w w' := by
  obtain ⟨A, ca, rfl, hA⟩ := h.any
  obtain ⟨B, cb, rfl, hB⟩ := h'.any
  refine (sameTexts_any A B ca cb ls ls w hl hl (fun j hj => ?_) (fun j hj => ?_)).mono ?_
  · obtain ⟨g, e, _, _, hc⟩ := hA j hj; exact ⟨g, e, hc⟩
  · obtain ⟨g, e, _, _, hc⟩ := hB j hj; exact ⟨g, e, hc⟩
  · rintro e w' ⟨rfl, hb⟩
    exact ⟨by simp, by first | exact hb | (obtain ⟨n, rfl⟩ := hb; exact below_drewN (Below.refl _ _) _)⟩
set_option maxHeartbeats 2000000 in
theorem ListLines_walk (a0 : EntV) (D0 : Option Addr) (d0 : Nat) (A1 : Option Addr) (n1 c1 : Nat) (rs1 : List EntV) (w0 : a0.wf) (s0 : SlOk D0 a0.data.length d0) (hn1 : rs1.length = n1) (hm1 : n1 * 136 ≤ 140737488351232) (hf1 : ∀ r ∈ rs1, r.wf) (hc1 : SlOk A1 n1 c1) (w : World) (hr0 : BytsAt w D0 a0.data) (hr1 : EntsAt w A1 rs1) (hL : laidMetH Tryd.prog Rows.listLinesRow.laid w) :
    Calls Tryd.prog 4 #[.agg (entC a0 D0 d0).toArray, .slice A1 n1 c1] w fun e w' => e = .returned (.bool true) ∧ Below w.heap.size w w' := by
  have T : Tab w := tab_of_laid hL (by kernel_rfl) (by simp [Rows.listLinesRow])
  have Th : Thirds w := thirds_in hL (by kernel_rfl) (by simp [Rows.listLinesRow])
  have Mo : Months w := mon_of_laid hL (by kernel_rfl) (by simp [Rows.listLinesRow])
  have hz : ∀ x ∈ rs1, x.sz := fun x hx => (hf1 x hx).sz
  have HBx := Lib.hid ((Below.refl w.heap.size w).alloc (Nat.le_refl _) (.cells (entC a0 D0 d0).toArray 30))
  have HEx := Lib.hid (Blk.new w 30 (entC a0 D0 d0).toArray)
  have H1 := Lib.hid fun W (h : Below w.heap.size w W) => lLine_any a0 D0 d0 w0.sz W (T.below h) (Th.below h) (Mo.below h)
  have H2 := Lib.hid fun W (h : Below w.heap.size w W) => lAll_any A1 n1 c1 rs1 hn1 hc1 hz W (T.below h) (Th.below h) (Mo.below h) (hr1.below h)
  have H3 := Lib.hid fun W (h : Below w.heap.size w W) => rLine_any a0 D0 d0 w0.sz W (T.below h)
  have H4 := Lib.hid fun W (h : Below w.heap.size w W) => rLines_any A1 n1 c1 rs1 hn1 hc1 hz W (T.below h) (hr1.below h)
  have hll := linesO_len (l := rs1)
  generalize bs (lineO a0) = S at H1 H3
  generalize entE a0 = E at H1 H3
  generalize linesO rs1 = L at H2 H4 hll
  generalize entsE rs1 = F at H2 H4
  clear w0 s0 hn1 hm1 hf1 hc1 hr0 hr1 hL hz T Th Mo
  obtain ⟨path, kind, target, ⟨m0, m1, m2, m3, m4, m5, m6⟩, data⟩ := a0
  unfold entC at H1 H3 HBx HEx ⊢
  simp only at H1 H3 HBx HEx ⊢
  obtain ⟨dl, HDL⟩ := hid_name data.length
  rw [HDL.out] at H1 H3 HBx HEx ⊢
  go_enter Tryd.func4, Tryd.ntmps4
  go_wp2_with fail
  refine (H1.out _ HBx.out).mono ?_; rintro e x1 ⟨rfl, hb⟩
  have HB1 := Lib.hid (HBx.out.trans (hb.mono HBx.out.size))
  have HE1 := Lib.hid (HEx.out.below hb HEx.out.lt)
  clear hb H1 HBx HEx
  go_wp2_with fail
  refine (H2.out _ HB1.out).mono ?_; rintro e x2 ⟨v2, rfl, ht, hb⟩
  have HB2 := Lib.hid (HB1.out.trans (hb.mono HB1.out.size))
  have HE2 := Lib.hid (HE1.out.below hb HE1.out.lt)
  have HT2 := Lib.hid ht
  clear hb ht H2 HB1 HE1
  obtain ⟨⟨c0, c1', c2, c3, c4, c5, c6, c7, c8, c9, cA⟩, -⟩ := blk11 HE2.out
  go_wp2_with fail
  refine (H3.out _ HB2.out).mono ?_; rintro e x3 ⟨rfl, hb⟩
  have HB3 := Lib.hid (HB2.out.trans (hb.mono HB2.out.size))
  have HT3 := Lib.hid (HT2.out.below hb)
  clear hb H3 HB2 HE2 HT2 c0 c1' c2 c3 c4 c5 c6 c7 c8 c9 cA
  go_wp2_with fail
  refine (H4.out _ HB3.out).mono ?_; rintro e x4 ⟨v4, rfl, ht, hb⟩
  have HB4 := Lib.hid (HB3.out.trans (hb.mono HB3.out.size))
  have HS := Lib.hid (lin_same (HT3.out.below hb) ht (by omega))
  clear hb ht H4 HB3 HT3
  go_wp2_with fail
  refine HS.out.mono ?_; rintro e x5 ⟨rfl, hb⟩
  have HB5 := Lib.hid (HB4.out.trans (hb.mono HB4.out.size))
  clear hb HS HB4
  go_wp2_with fail
  go_ret
  exact ⟨rfl, HB5.out⟩
end Go.Proofs.YtdcbmjihpjnbbaaDoor
