/- The reference's MemberOf; the law MemberReads. -/
import Derived.Test.YtldffnmoafhidaaGreatDoorMra
import Derived.Test.YtldffnmoafhidaaGreatDoorMrF
import Derived.Test.YtldffnmoafhidaaGreatDoorMyg
import Derived.Test.YtldffnmoafhidaaGreatDoorEne
import Derived.Test.YtldffnmoafhidaaGreatDoorLaid
set_option linter.unusedVariables false
set_option maxRecDepth 100000
namespace Go.Proofs.YtldffnmoafhidaaGreatDoor
open Go.RowKit
open Go.OpenShut
theorem rMOf_any (A : Option Addr) (n c : Nat) (l : List UInt8) (hn : l.length = n) (hn2 : n ≤ 140737488351232) (hc : SlOk A n c) (w : World) (S : Std w) (hA : BytsAt w A l) :
    Calls Tryz.prog 9 #[.slice A n c] w fun e w' => ∃ D cc, e = .returned (.tuple #[.agg (entC (readM l).1.1 D cc).toArray, .int .i64 ((readM l).1.2 : Nat), .int .i64 (readM l).2]) ∧ SlOk D (readM l).1.1.data.length cc ∧ BytsAt w' D (readM l).1.1.data ∧ Below w.heap.size w w' := by
  by_cases h1 : (firstM l).2 = 0
  · by_cases hp : (partsM l).2 = 0
    · exact rMOf_4 A n c l hn hn2 hc w S hA h1 hp
    · by_cases h2 : (firstM l).1.1.typ = 120
      · by_cases h3 : (paxR (firstM l).1.2.1).2 = 0
        · by_cases h4 : (firstM (l.drop (firstM l).1.2.2)).2 = 0
          · exact absurd (by rw [parts_two h1 h2 h3 h4]) hp
          · exact rMOf_3 A n c l hn hn2 hc w S hA h1 h2 h3 h4
        · exact rMOf_2 A n c l hn hn2 hc w S hA h1 h2 h3
      · exact absurd (by rw [parts_one h1 h2]) hp
  · exact rMOf_1 A n c l hn hn2 hc w S hA h1
set_option maxHeartbeats 2000000 in
theorem MemberReads_walk (A0 : Option Addr) (n0 c0 : Nat) (l0 : List UInt8) (hn0 : l0.length = n0) (hm0 : n0 ≤ 140737488351232) (hc0 : n0 ≤ c0 ∧ c0 ≤ maxLen ∧ (A0 = none → c0 = 0)) (w : World) (hr0 : BytsAt w A0 l0) (hL : laidMetH Tryz.prog Rows.memberReadsRow.laid w) :
    Calls Tryz.prog 3 #[.slice A0 n0 c0] w fun e w' => e = .returned (.bool true) ∧ Below w.heap.size w w' := by
  have S : Std w := std_of_laid hL (by kernel_rfl) (by simp [Rows.memberReadsRow]) (by simp [Rows.memberReadsRow]) (by simp [Rows.memberReadsRow])
  have H1 := Lib.hid (mRead_any A0 n0 c0 l0 hn0 (by omega) hc0 w S hr0)
  have H2 := Lib.hid fun W (h : Below w.heap.size w W) => rMOf_any A0 n0 c0 l0 hn0 hm0 hc0 W (S.below h) (hr0.below h)
  clear hn0 hm0 hc0 hr0 hL
  generalize readM l0 = R at H1 H2
  obtain ⟨⟨y, N⟩, E⟩ := R
  simp only at H1 H2
  have HSm := Lib.hid fun (D D2 : Option Addr) (c d : Nat) (W : World) h h' => sameEntry_any y y D D2 c d W h h'
  rw [decide_eq_true (rfl : y = y)] at HSm
  have HY : Hid (∀ D c, (entC y D c).toArray = #[.string (bs y.path), .int .i64 y.kind, .string (bs y.target), .int .i64 y.md.mode, .int .i64 y.md.uid, .int .i64 y.md.gid, .string (bs y.md.user), .string (bs y.md.group), .int .i64 y.md.second, .int .i64 y.md.nano, .slice D y.data.length c]) := fun _ _ => rfl
  simp only [HY.out] at H1 H2 HSm
  obtain ⟨dl, HDL⟩ := hid_name y.data.length
  simp only [HDL.out] at H1 H2 HSm
  generalize bs y.path = P2 at *
  generalize bs y.target = P3 at *
  generalize bs y.md.user = P4 at *
  generalize bs y.md.group = P5 at *
  generalize y.kind = z1 at *
  generalize y.md.mode = z2 at *
  generalize y.md.uid = z3 at *
  generalize y.md.gid = z4 at *
  generalize y.md.second = z5 at *
  generalize y.md.nano = z6 at *
  clear HY
  go_enter Tryz.func3, Tryz.ntmps3
  go_wp2_with fail
  refine H1.out.mono ?_; rintro e x1 ⟨D1, c1, rfl, -, hd1, hb⟩
  have HB1 := Lib.hid (hb.alloc hb.size (.cells #[.string P2, .int .i64 z1, .string P3, .int .i64 z2, .int .i64 z3, .int .i64 z4, .string P4, .string P5, .int .i64 z5, .int .i64 z6, .slice D1 dl c1] 26))
  have HE1 := Lib.hid (Blk.new x1 26 #[.string P2, .int .i64 z1, .string P3, .int .i64 z2, .int .i64 z3, .int .i64 z4, .string P4, .string P5, .int .i64 z5, .int .i64 z6, .slice D1 dl c1])
  have HD1 := Lib.hid (hd1.below ((Below.refl x1.heap.size x1).alloc (Nat.le_refl _) (.cells #[.string P2, .int .i64 z1, .string P3, .int .i64 z2, .int .i64 z3, .int .i64 z4, .string P4, .string P5, .int .i64 z5, .int .i64 z6, .slice D1 dl c1] 26)))
  clear hb hd1 H1
  go_upto_region 2 with fail
  generalize x1.alloc (.cells #[.string P2, .int .i64 z1, .string P3, .int .i64 z2, .int .i64 z3, .int .i64 z4, .string P4, .string P5, .int .i64 z5, .int .i64 z6, .slice D1 dl c1] 26) = x2 at HB1 HE1 HD1 ⊢
  generalize x1.heap.size = g1 at HE1 ⊢
  go_wp2_with fail
  refine (H2.out x2 HB1.out).mono ?_; rintro e x3 ⟨D2, c2, rfl, -, hd2, hb⟩
  have HB3 := Lib.hid ((HB1.out.trans (hb.mono HB1.out.size)).alloc (HB1.out.trans (hb.mono HB1.out.size)).size (.cells #[.string P2, .int .i64 z1, .string P3, .int .i64 z2, .int .i64 z3, .int .i64 z4, .string P4, .string P5, .int .i64 z5, .int .i64 z6, .slice D2 dl c2] 26))
  have HEa := Lib.hid ((HE1.out.below hb HE1.out.lt).alloc (.cells #[.string P2, .int .i64 z1, .string P3, .int .i64 z2, .int .i64 z3, .int .i64 z4, .string P4, .string P5, .int .i64 z5, .int .i64 z6, .slice D2 dl c2] 26))
  have HEb := Lib.hid (Blk.new x3 26 #[.string P2, .int .i64 z1, .string P3, .int .i64 z2, .int .i64 z3, .int .i64 z4, .string P4, .string P5, .int .i64 z5, .int .i64 z6, .slice D2 dl c2])
  have hax := (Below.refl x3.heap.size x3).alloc (Nat.le_refl _) (.cells #[.string P2, .int .i64 z1, .string P3, .int .i64 z2, .int .i64 z3, .int .i64 z4, .string P4, .string P5, .int .i64 z5, .int .i64 z6, .slice D2 dl c2] 26)
  have HDa := Lib.hid ((HD1.out.below hb).below hax)
  have HDb := Lib.hid (hd2.below hax)
  clear hb hd2 hax H2 HE1 HD1 HB1
  go_upto_region 3 with fail
  generalize x3.alloc (.cells #[.string P2, .int .i64 z1, .string P3, .int .i64 z2, .int .i64 z3, .int .i64 z4, .string P4, .string P5, .int .i64 z5, .int .i64 z6, .slice D2 dl c2] 26) = x4 at HB3 HEa HEb HDa HDb ⊢
  generalize x3.heap.size = g3 at HEb ⊢
  obtain ⟨⟨p0, p1, p2, p3, p4, p5, p6, p7, p8, p9, pA⟩, -⟩ := blk11 HEa.out
  obtain ⟨⟨q0, q1, q2, q3, q4, q5, q6, q7, q8, q9, qA⟩, -⟩ := blk11 HEb.out
  have HS4 := Lib.hid (HSm.out D1 D2 c1 c2 x4 HDa.out HDb.out)
  clear HSm HEa HEb HDa HDb
  go_wp2_with fail
  refine HS4.out.mono ?_; rintro e x5 ⟨rfl, hb⟩
  have HB5 := Lib.hid (HB3.out.trans (hb.mono HB3.out.size))
  clear hb p0 p1 p2 p3 p4 p5 p6 p7 p8 p9 pA q0 q1 q2 q3 q4 q5 q6 q7 q8 q9 qA
  go_wp2_with fail
  go_ret
  exact ⟨rfl, HB5.out⟩
end Go.Proofs.YtldffnmoafhidaaGreatDoor
