/- MemberPacks: the law against the reference. -/
import Derived.Test.YtepjdiocicmjcaaDoorMemI
import Derived.Test.YtepjdiocicmjcaaDoorPaxF
import Derived.Test.YtepjdiocicmjcaaDoorLaid
import Derived.Test.YtepjdiocicmjcaaDoorEntA
set_option linter.unusedVariables false
set_option maxRecDepth 100000
namespace Go.Proofs.YtepjdiocicmjcaaDoor
open Go.RowKit
open Go.OpenShut
theorem recO_few (x : EntV) : (recO x).length ≤ 7 := by
  unfold recO
  split
  · exact recs_few x
  · simp
set_option maxHeartbeats 2000000 in
theorem MemberPacks_walk (a0 : EntV) (D0 : Option Addr) (c0 : Nat) (w0 : a0.wf) (s0 : SlOk D0 a0.data.length c0) (w : World) (hr0 : BytsAt w D0 a0.data) (hL : laidMetH Tryd.prog Rows.memberPacksRow.laid w) :
    Calls Tryd.prog 3 #[.agg (entC a0 D0 c0).toArray] w fun e w' => e = .returned (.bool true) ∧ Below w.heap.size w w' := by
  have T : Tab w := tab_of_laid hL (by kernel_rfl) (by simp [Rows.memberPacksRow])
  have H1 := Lib.hid fun W TW => mRecs_any a0 D0 c0 w0.sz W TW
  have H2 := Lib.hid fun W TW => mHead_any a0 D0 c0 w0.sz W TW
  have H3 := Lib.hid fun W TW => rRecs_any a0 D0 c0 w0.sz W TW
  have H4 := Lib.hid fun W TW => rMHead_any a0 D0 c0 w0.sz W TW
  have hfew := recO_few a0
  have HW : Hid (Below w.heap.size w (w.alloc (.cells (entC a0 D0 c0).toArray 26))) := (Below.refl _ _).alloc (Nat.le_refl _) _
  have hE0 := Blk.new w 26 (entC a0 D0 c0).toArray
  clear hr0 hL s0
  generalize recO a0 = RO at H1 H3 hfew
  generalize (if entE a0 = 0 then headM a0 else headZ) = HV at H2 H4
  generalize entE a0 = E at H1 H2 H3 H4
  obtain ⟨n0, n1, n2, n3, n4, n5, n6, n7, n8, n9, nA⟩ := HV
  unfold headC at H2 H4
  unfold entC at H1 H2 H3 H4 HW hE0 ⊢
  obtain ⟨path, kind, target, ⟨m0, m1, m2, m3, m4, m5, m6⟩, data⟩ := a0
  simp only at H1 H2 H3 H4 HW hE0 ⊢
  have HE0 := Lib.hid hE0
  clear hE0 w0
  go_enter Tryd.func3, Tryd.ntmps3
  go_wp2_with fail
  refine (H1.out _ (T.below HW.out)).mono ?_; rintro e w1 ⟨v1, rfl, ho, hb⟩
  obtain ⟨A1, c1, rfl⟩ := ho.form
  have HR1 := Lib.hid ho.at
  have HB1 := Lib.hid (HW.out.trans (hb.mono HW.out.size))
  have HE1 := Lib.hid (HE0.out.below hb HE0.out.lt)
  obtain ⟨⟨c0', c1', c3', c4', c5', c6', c7', c8', c9', cA', cB'⟩, -⟩ := blk11 HE1.out
  generalize hn : RO.length = n at hfew ⊢
  have HN := Lib.hid hn
  clear ho hb hn
  go_wp2_with fail
  refine (H2.out _ (T.below HB1.out)).mono ?_; rintro e w2 ⟨rfl, hb⟩
  have HR2 := HR1.out.below hb
  have hB2 := HB1.out.trans (hb.mono HB1.out.size)
  have hE2 := HE1.out.below hb HE1.out.lt
  clear hb c0' c1' c3' c4' c5' c6' c7' c8' c9' cA' cB' HE1 HB1 HR1
  go_upto_region 3 with fail
  have hB3 := hB2.alloc hB2.size (.cells #[.string (bs n0), .string (bs n1), .string (bs n2), .int .i64 n3, .int .i64 n4, .int .i64 n5, .int .i64 n6, .int .i64 n7, .int .u8 (n8.toNat : Int), .string (bs n9), .string (bs nA)] 32)
  have hE3 := hE2.alloc (.cells #[.string (bs n0), .string (bs n1), .string (bs n2), .int .i64 n3, .int .i64 n4, .int .i64 n5, .int .i64 n6, .int .i64 n7, .int .u8 (n8.toNat : Int), .string (bs n9), .string (bs nA)] 32)
  have hH3 := Blk.new w2 32 #[.string (bs n0), .string (bs n1), .string (bs n2), .int .i64 n3, .int .i64 n4, .int .i64 n5, .int .i64 n6, .int .i64 n7, .int .u8 (n8.toNat : Int), .string (bs n9), .string (bs nA)]
  have hR3 := HR2.below ((Below.refl w2.heap.size w2).alloc (Nat.le_refl _) (.cells #[.string (bs n0), .string (bs n1), .string (bs n2), .int .i64 n3, .int .i64 n4, .int .i64 n5, .int .i64 n6, .int .i64 n7, .int .u8 (n8.toNat : Int), .string (bs n9), .string (bs nA)] 32))
  generalize w2.alloc (.cells #[.string (bs n0), .string (bs n1), .string (bs n2), .int .i64 n3, .int .i64 n4, .int .i64 n5, .int .i64 n6, .int .i64 n7, .int .u8 (n8.toNat : Int), .string (bs n9), .string (bs nA)] 32) = w3 at hB3 hE3 hH3 hR3 ⊢
  generalize w2.heap.size = gH at hH3 ⊢
  have HB3 := Lib.hid hB3
  have HE3 := Lib.hid hE3
  have HH3 := Lib.hid hH3
  have HR3 := Lib.hid hR3
  obtain ⟨⟨c0', c1', c3', c4', c5', c6', c7', c8', c9', cA', cB'⟩, -⟩ := blk11 hE3
  clear hB2 hE2 HR2 hB3 hE3 hH3 hR3
  go_wp2_with fail
  refine (H3.out _ (T.below HB3.out)).mono ?_; rintro e w4 ⟨v4, rfl, ho, hb⟩
  obtain ⟨A4, c4, rfl⟩ := ho.form
  have HR4 := Lib.hid ho.at
  have HR34 := Lib.hid (HR3.out.below hb)
  have HB4 := Lib.hid (HB3.out.trans (hb.mono HB3.out.size))
  have HE4 := Lib.hid (HE3.out.below hb HE3.out.lt)
  have HH4 := Lib.hid (HH3.out.below hb HH3.out.lt)
  clear ho hb c0' c1' c3' c4' c5' c6' c7' c8' c9' cA' cB' HE3 HB3 HR3 HH3
  rw [HN.out]
  obtain ⟨⟨c0', c1', c3', c4', c5', c6', c7', c8', c9', cA', cB'⟩, -⟩ := blk11 HE4.out
  go_wp2_with fail
  refine (H4.out _ (T.below HB4.out)).mono ?_; rintro e w5 ⟨rfl, hb⟩
  have hR4 := HR4.out.below hb
  have hR34 := HR34.out.below hb
  have hB5 := HB4.out.trans (hb.mono HB4.out.size)
  have hH5 := HH4.out.below hb HH4.out.lt
  clear hb c0' c1' c3' c4' c5' c6' c7' c8' c9' cA' cB' HE4 HB4 HR4 HR34 HH4
  go_upto_region 5 with fail
  have hb6 := (Below.refl w5.heap.size w5).alloc (Nat.le_refl _) (.cells #[.string (bs n0), .string (bs n1), .string (bs n2), .int .i64 n3, .int .i64 n4, .int .i64 n5, .int .i64 n6, .int .i64 n7, .int .u8 (n8.toNat : Int), .string (bs n9), .string (bs nA)] 32)
  have hB6 := hB5.alloc hB5.size (.cells #[.string (bs n0), .string (bs n1), .string (bs n2), .int .i64 n3, .int .i64 n4, .int .i64 n5, .int .i64 n6, .int .i64 n7, .int .u8 (n8.toNat : Int), .string (bs n9), .string (bs nA)] 32)
  have hH6 := hH5.alloc (.cells #[.string (bs n0), .string (bs n1), .string (bs n2), .int .i64 n3, .int .i64 n4, .int .i64 n5, .int .i64 n6, .int .i64 n7, .int .u8 (n8.toNat : Int), .string (bs n9), .string (bs nA)] 32)
  have hI6 := Blk.new w5 32 #[.string (bs n0), .string (bs n1), .string (bs n2), .int .i64 n3, .int .i64 n4, .int .i64 n5, .int .i64 n6, .int .i64 n7, .int .u8 (n8.toNat : Int), .string (bs n9), .string (bs nA)]
  have hRa := hR4.below hb6
  have hRb := hR34.below hb6
  generalize w5.alloc (.cells #[.string (bs n0), .string (bs n1), .string (bs n2), .int .i64 n3, .int .i64 n4, .int .i64 n5, .int .i64 n6, .int .i64 n7, .int .u8 (n8.toNat : Int), .string (bs n9), .string (bs nA)] 32) = w6 at hb6 hB6 hH6 hI6 hRa hRb ⊢
  generalize w5.heap.size = gI at hI6 ⊢
  have HSM := Lib.hid (same_same A1 A4 n c1 c4 RO HN.out (by omega) w6 hRb hRa)
  have HB6 := Lib.hid hB6
  have HH6 := Lib.hid hH6
  have HI6 := Lib.hid hI6
  clear hb6 hB6 hH6 hI6 hRa hRb hR4 hR34 hB5 hH5
  go_wp2_with fail
  refine HSM.out.mono ?_; rintro e w7 ⟨rfl, hb⟩
  obtain ⟨⟨p0, p1, p2, p3, p4, p5, p6, p7, p8, p9, pA⟩, -⟩ := blk11 (HH6.out.below hb HH6.out.lt)
  obtain ⟨⟨r0, r1, r2, r3, r4, r5, r6, r7, r8, r9, rA⟩, -⟩ := blk11 (HI6.out.below hb HI6.out.lt)
  have HB7 := Lib.hid (HB6.out.trans (hb.mono HB6.out.size))
  clear hb
  go_wp2_with fail
  go_ret
  exact ⟨rfl, HB7.out⟩
end Go.Proofs.YtepjdiocicmjcaaDoor
