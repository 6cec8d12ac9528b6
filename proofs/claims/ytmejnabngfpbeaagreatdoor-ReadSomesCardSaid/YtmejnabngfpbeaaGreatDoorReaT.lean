/- The law ReadSomes. -/
import Derived.Test.YtmejnabngfpbeaaGreatDoorRea
import Derived.Test.YtmejnabngfpbeaaGreatDoorReb
import Derived.Test.YtmejnabngfpbeaaGreatDoorEnf
import Derived.Test.YtmejnabngfpbeaaGreatDoorEne
import Derived.Test.YtmejnabngfpbeaaGreatDoorStp
set_option linter.unusedVariables false
set_option maxRecDepth 100000
namespace Go.Proofs.YtmejnabngfpbeaaGreatDoor
open Go.RowKit
open Go.OpenShut
theorem someM_few (b : List UInt8) : 512 * (someM b).1.1.length ≤ b.length := by
 obtain ⟨E, h, -, -⟩ := some_all b
 have h1 := h.count
 have h2 := h.1
 omega
set_option maxHeartbeats 2000000 in
theorem ReadSomes_walk (A0 : Option Addr) (n0 c0 : Nat) (l0 : List UInt8) (a1 : ByteArray) (hn0 : l0.length = n0) (hm0 : n0 ≤ 140737488351232) (hc0 : n0 ≤ c0 ∧ c0 ≤ maxLen ∧ (A0 = none → c0 = 0)) (w1 : a1.size ≤ maxLen) (w : World) (hr0 : BytsAt w A0 l0) (hL : laidMetH Tryz.prog Rows.readSomesRow.laid w) :
  Calls Tryz.prog 4 #[.slice A0 n0 c0, .string a1] w fun e w' => e = .returned (.bool true) ∧ Below w.heap.size w w' := by
 have S : Std w := std_of_laid hL (by kernel_rfl) (by simp [Rows.readSomesRow]) (by simp [Rows.readSomesRow]) (by simp [Rows.readSomesRow])
 have H1 := Lib.hid (rdSome_any A0 n0 c0 l0 hn0 (by omega) hc0 w S hr0)
 have H2 := Lib.hid fun W (h : Below w.heap.size w W) => rdFind_any A0 n0 c0 l0 a1.data.toList hn0 (by omega) hc0 W (S.below h) (hr0.below h)
 have H3 := Lib.hid fun W (h : Below w.heap.size w W) => rSome_any A0 n0 c0 l0 hn0 hm0 hc0 W (S.below h) (hr0.below h)
 have H4 := Lib.hid fun W (h : Below w.heap.size w W) => rFind_any A0 n0 c0 l0 a1.data.toList hn0 hm0 hc0 W (S.below h) (hr0.below h)
 rw [bs_of] at H2 H4
 have hfew := someM_few l0
 rw [hn0] at hfew
 clear hn0 hc0 hr0 hL w1
 generalize findR l0 a1.data.toList = F at H2 H4
 generalize someM l0 = R at H1 H3 hfew
 obtain ⟨⟨p, a⟩, E⟩ := R
 obtain ⟨y, G⟩ := F
 simp only at H1 H2 H3 H4 hfew
 have h47 : p.length ≤ 140737488355328 := by omega
 have HSm := Lib.hid fun (D D2 : Option Addr) (c d : Nat) (W : World) h h' => sameEntry_any y y D D2 c d W h h'
 rw [decide_eq_true (rfl : y = y)] at HSm
 have HY : Hid (∀ D c, (entC y D c).toArray = #[.string (bs y.path), .int .i64 y.kind, .string (bs y.target), .int .i64 y.md.mode, .int .i64 y.md.uid, .int .i64 y.md.gid, .string (bs y.md.user), .string (bs y.md.group), .int .i64 y.md.second, .int .i64 y.md.nano, .slice D y.data.length c]) := fun _ _ => rfl
 simp only [HY.out] at H2 H4 HSm
 obtain ⟨dl, HDL⟩ := hid_name y.data.length
 simp only [HDL.out] at H2 H4 HSm
 generalize bs y.path = P2 at *
 generalize bs y.target = P3 at *
 generalize bs y.md.user = P4 at *
 generalize bs y.md.group = P5 at *
 generalize y.kind = z1 at *
 generalize y.md.mode = z2 at *
 generalize y.md.uid = z3 at *
 generalize y.md.gid = z4 at *
 generalize y.md.second = z5 at *
 generalize y.md.nano = z6 at *
 generalize (a : Int) = ai at H1 H3
 clear HY hm0 hfew
 go_enter Tryz.func4, Tryz.ntmps4
 go_wp2_with fail
 refine H1.out.mono ?_; rintro e x1 ⟨v1, xs, rfl, hm1, ho1, hb⟩
 obtain ⟨A1, c1, rfl, hs1, hN1⟩ := ho1.at
 have hl1 : xs.length = p.length := by rw [← hm1, List.length_map]
 rw [hm1] at hN1
 rw [hl1]
 obtain ⟨pl, hpl⟩ : ∃ pl, p.length = pl := ⟨_, rfl⟩
 have HPL := Lib.hid hpl
 rw [hpl]
 have HN1 := Lib.hid hN1
 have HB1 := Lib.hid hb
 rw [hpl] at h47
 clear hm1 ho1 hb hs1 hN1 hl1 H1 hpl
 go_wp2_with fail
 refine (H2.out _ HB1.out).mono ?_; rintro e x2 ⟨D1, c2, rfl, hd1, hb⟩
 have hal := (Below.refl x2.heap.size x2).alloc (Nat.le_refl _) (.cells #[.string P2, .int .i64 z1, .string P3, .int .i64 z2, .int .i64 z3, .int .i64 z4, .string P4, .string P5, .int .i64 z5, .int .i64 z6, .slice D1 dl c2] 34)
 have HB3 := Lib.hid ((HB1.out.trans (hb.mono HB1.out.size)).trans (hal.mono (HB1.out.trans (hb.mono HB1.out.size)).size))
 have HN3 := Lib.hid ((HN1.out.below hb).below hal)
 have HE3 := Lib.hid (Blk.new x2 34 #[.string P2, .int .i64 z1, .string P3, .int .i64 z2, .int .i64 z3, .int .i64 z4, .string P4, .string P5, .int .i64 z5, .int .i64 z6, .slice D1 dl c2])
 have HD3 := Lib.hid ((own_byts hd1).below hal)
 clear hb hd1 hal H2 HB1 HN1
 go_upto_region 3 with fail
 generalize x2.alloc (.cells #[.string P2, .int .i64 z1, .string P3, .int .i64 z2, .int .i64 z3, .int .i64 z4, .string P4, .string P5, .int .i64 z5, .int .i64 z6, .slice D1 dl c2] 34) = x3 at HB3 HN3 HE3 HD3 ⊢
 generalize x2.heap.size = g1 at HE3 ⊢
 go_wp2_with fail
 refine (H3.out _ HB3.out).mono ?_; rintro e x4 ⟨v4, ys, rfl, hm4, ho4, hb⟩
 obtain ⟨A4, c4, rfl, hs4, hN4⟩ := ho4.at
 have hl4 : ys.length = pl := by rw [← HPL.out, ← hm4, List.length_map]
 rw [hm4] at hN4
 rw [hl4]
 have HM4 := Lib.hid hN4
 have HB4 := Lib.hid (HB3.out.trans (hb.mono HB3.out.size))
 have HN4 := Lib.hid (HN3.out.below hb)
 have HE4 := Lib.hid (HE3.out.below hb HE3.out.lt)
 have HD4 := Lib.hid (HD3.out.below hb)
 clear hm4 ho4 hb hs4 hN4 hl4 H3 HB3 HN3 HE3 HD3
 go_wp2_with fail
 refine (H4.out _ HB4.out).mono ?_; rintro e x5 ⟨D5, c5, rfl, hd5, hb⟩
 have hal := (Below.refl x5.heap.size x5).alloc (Nat.le_refl _) (.cells #[.string P2, .int .i64 z1, .string P3, .int .i64 z2, .int .i64 z3, .int .i64 z4, .string P4, .string P5, .int .i64 z5, .int .i64 z6, .slice D5 dl c5] 34)
 have hab := hb.trans (hal.mono hb.size)
 have HB6 := Lib.hid (HB4.out.trans (hab.mono HB4.out.size))
 have HN6 := Lib.hid (HN4.out.below hab)
 have HM6 := Lib.hid (HM4.out.below hab)
 have HE6 := Lib.hid (HE4.out.below hab HE4.out.lt)
 have HD6 := Lib.hid (HD4.out.below hab)
 have HF6 := Lib.hid (Blk.new x5 34 #[.string P2, .int .i64 z1, .string P3, .int .i64 z2, .int .i64 z3, .int .i64 z4, .string P4, .string P5, .int .i64 z5, .int .i64 z6, .slice D5 dl c5])
 have HG6 := Lib.hid ((own_byts hd5).below hal)
 clear hb hd5 hal hab H4 HB4 HN4 HM4 HE4 HD4
 go_upto_region 5 with fail
 generalize x5.alloc (.cells #[.string P2, .int .i64 z1, .string P3, .int .i64 z2, .int .i64 z3, .int .i64 z4, .string P4, .string P5, .int .i64 z5, .int .i64 z6, .slice D5 dl c5] 34) = x6 at HB6 HN6 HM6 HE6 HD6 HF6 HG6 ⊢
 generalize x5.heap.size = g5 at HF6 ⊢
 have HS := Lib.hid (sameEntries_any A1 A4 pl c1 pl c4 p p HPL.out HPL.out h47 h47 x6 HN6.out HM6.out)
 rw [decide_eq_true (rfl : p = p)] at HS
 clear HN6 HM6 h47
 go_wp2_with fail
 refine HS.out.mono ?_; rintro e x7 ⟨rfl, hb⟩
 have HB7 := Lib.hid (HB6.out.trans (hb.mono HB6.out.size))
 obtain ⟨⟨p0, p1, p2, p3, p4, p5, p6, p7, p8, p9, pA⟩, -⟩ := blk11 (HE6.out.below hb HE6.out.lt)
 obtain ⟨⟨q0, q1, q2, q3, q4, q5, q6, q7, q8, q9, qA⟩, -⟩ := blk11 (HF6.out.below hb HF6.out.lt)
 have HS7 := Lib.hid (HSm.out D1 D5 c2 c5 x7 (HD6.out.below hb) (HG6.out.below hb))
 clear hb HS HSm HE6 HF6 HD6 HG6 HB6
 go_wp2_with fail
 refine HS7.out.mono ?_; rintro e x8 ⟨rfl, hb⟩
 have HB8 := Lib.hid (HB7.out.trans (hb.mono HB7.out.size))
 clear hb p0 p1 p2 p3 p4 p5 p6 p7 p8 p9 pA q0 q1 q2 q3 q4 q5 q6 q7 q8 q9 qA
 go_wp2_with fail
 go_ret
 exact ⟨rfl, HB8.out⟩
end Go.Proofs.YtmejnabngfpbeaaGreatDoor
