/- The laws of cutting. -/
import Derived.Test.YtceaaadnemmalaaCutB
import Derived.Test.YtceaaadnemmalaaOctA
import Derived.IntWalk
set_option linter.unusedVariables false
set_option maxRecDepth 100000
namespace Go.Proofs.Ytceaaadnemmalaa
open Go.RowKit
open Go.OpenShut
set_option maxHeartbeats 400000 in
theorem CutTells_walk (a0 : ByteArray) (w0 : a0.size ≤ maxLen) (r0 : a0.size ≤ 140737488351232) (w : World) :
    Calls Try.prog 3 #[.string a0] w fun e w' => e = .returned (.bool true) ∧ Below w.heap.size w w' := by
  go_enter Try.func3, Try.ntmps3
  go_wp2_with fail
  refine (Two_any _ _ w0 (by omega)).mono ?_; rintro e w1 ⟨rfl, hb⟩
  go_wp2_with fail
  refine (rTwo_any _ _ w0).mono ?_; rintro e w2 ⟨rfl, n, rfl⟩
  go_wp2_with fail
  go_ret
  exact ⟨rfl, below_drewN hb _⟩
set_option maxHeartbeats 400000 in
theorem CutJoins_walk (a0 a1 : ByteArray) (w0 : a0.size ≤ maxLen) (w1 : a1.size ≤ maxLen) (w : World) :
    Calls Try.prog 4 #[.string a0, .string a1] w fun e w' => e = .returned (.bool true) ∧ Below w.heap.size w w' := by
  go_enter Try.func4, Try.ntmps4
  go_wp2_with fail
  refine (One_any _ _ _ w0 w1).mono ?_; rintro e x1 ⟨rfl, hb⟩
  go_wp2_with fail
  refine (rOne_any _ _ _ w0 w1).mono ?_; rintro e w2 ⟨rfl, n, rfl⟩
  go_wp2_with fail
  go_ret
  exact ⟨rfl, below_drewN hb _⟩
theorem two_ab (w : World) : Calls Try.prog 7 #[.string ⟨#[97, 47, 98]⟩] w fun e w' => e = .returned (.tuple #[.string ⟨#[]⟩, .string ⟨#[97, 47, 98]⟩, .int .i64 0]) ∧ Below w.heap.size w w' := by
  have e : cutV (⟨#[97, 47, 98]⟩ : ByteArray).data.toList = ([], [97, 47, 98], 0) := by decide
  have h := Two_any ⟨#[97, 47, 98]⟩ w (by decide) (by decide)
  rw [e] at h
  exact h
set_option maxHeartbeats 800000 in
theorem CutBack_walk (a0 : ByteArray) (w0 : a0.size ≤ maxLen) (r0 : a0.size ≤ 140737488351232) (w : World) :
    Calls Try.prog 5 #[.string a0] w fun e w' => e = .returned (.bool true) ∧ Below w.heap.size w w' := by
  have hle := cutV_le a0.data.toList
  have hl : a0.data.toList.length = a0.size := by simp
  have hbk : (cutV a0.data.toList).2.2 = 0 → oneV (cutV a0.data.toList).1 (cutV a0.data.toList).2.1 = (a0.data.toList, 0) ∧ (cutV a0.data.toList).1.length ≤ 155 ∧ (cutV a0.data.toList).2.1.length ≤ 100 := fun h => cut_back (Prod.ext rfl (Prod.ext rfl h))
  have hbd := cut_bad (l := a0.data.toList)
  have hct := fun W => Two_any a0 W w0 (by omega)
  generalize hq : (cutV a0.data.toList).1 = q at *
  generalize hm : (cutV a0.data.toList).2.1 = m at *
  generalize hf : (cutV a0.data.toList).2.2 = f at *
  have HC := Lib.hid hct
  have hq2 : (bs q).size ≤ maxLen := by unfold maxLen at *; rw [bs_size]; omega
  have hm2 : (bs m).size ≤ maxLen := by unfold maxLen at *; rw [bs_size]; omega
  have HO : Hid (∀ W, Calls Try.prog 9 #[.string (bs q), .string (bs m)] W fun e w' => e = .returned (.tuple #[.string (bs (oneV q m).1), .int .i64 (oneV q m).2]) ∧ Below W.heap.size W w') := fun W => One_any (bs q) (bs m) W hq2 hm2
  clear hct hle hl hq hm hf w0
  have HBK := Lib.hid hbk
  have HBD := Lib.hid hbd
  clear hbk hbd
  obtain ⟨p, Hp⟩ := hid_name (bs q)
  obtain ⟨n, Hn⟩ := hid_name (bs m)
  rw [Hp.out, Hn.out] at HO
  rw [Hp.out, Hn.out] at HC
  rw [Hp.out] at hq2
  rw [Hn.out] at hm2
  unfold maxLen at hq2 hm2
  go_enter Try.func5, Try.ntmps5
  go_wp2_with fail
  refine (HC.out _).mono ?_; rintro e w1 ⟨rfl, hb1⟩
  have HB1 := Lib.hid hb1
  clear hb1
  go_wp2_with fail
  refine (two_ab _).mono ?_; rintro e w2 ⟨rfl, hb2⟩
  have HB2 := Lib.hid (HB1.out.trans (hb2.mono HB1.out.size))
  clear hb2
  by_cases hf : f = 0
  · have hf' : (f != 0) = false := by simp [hf]
    obtain ⟨k1, k2, k3⟩ := HBK.out hf
    have K1 : Hid (bs (oneV q m).1 = a0 ∧ (oneV q m).2 = 0) := by unfold Hid; rw [k1]; exact ⟨bs_of a0, rfl⟩
    have k4 : p.size ≤ 155 := by rw [← Hp.out, bs_size]; exact k2
    have k5 : n.size ≤ 100 := by rw [← Hn.out, bs_size]; exact k3
    rw [K1.out.1, K1.out.2] at HO
    clear hf k1 k2 k3
    go_wp2_with fail
    refine (HO.out _).mono ?_; rintro e w3 ⟨rfl, hb3⟩
    have HB3 := Lib.hid (HB2.out.trans (hb3.mono HB2.out.size))
    clear hb3
    go_wp2_with fail
    go_ret
    exact ⟨ret_bool (decide_eq_true (show (n.size : Int) ≤ 100 by omega)), HB3.out⟩
  · have hf' : (f != 0) = true := by simp [hf]
    obtain ⟨k1, k2⟩ := HBD.out hf
    have e1 : p.toList = [] := by rw [← Hp.out, k1, ByteArray.toList_eq]; rfl
    have e2 : n.toList = [] := by rw [← Hn.out, k2, ByteArray.toList_eq]; rfl
    clear hf k1 k2
    go_wp2_with fail
    go_ret
    exact ⟨rfl, HB2.out⟩
theorem Rep_one (c : UInt8) (n : Nat) (w : World) (h : n ≤ 1000) : Calls Try.prog 11 #[.string ⟨#[c]⟩, .int .i64 (n : Int)] w fun e w' => (∃ x : ByteArray, e = .returned (.string x) ∧ x.data.toList = List.replicate x.size c ∧ x.size = n) ∧ Below w.heap.size w w' := by
  refine (Try.strings_Repeat ⟨#[c]⟩ n _ (by omega) (by show 1 * n ≤ _; omega)).mono ?_; rintro e w1 ⟨rfl, hb1⟩
  have e1 : Lib.repeatL (⟨#[c]⟩ : ByteArray).data.toList n = List.replicate n c := by
    have := Lib.repeatL_replicate c 1 n
    rw [Nat.mul_one] at this; exact this
  refine ⟨⟨_, rfl, ?_, ?_⟩, hb1⟩
  · rw [e1, size_mk, List.length_replicate]
  · rw [e1, size_mk, List.length_replicate]
theorem picked_nat (a : Int) (m : Int) (h : 1 ≤ m) (h' : m ≤ 1000) : ∃ n : Nat, 1 + pick a m = (n : Int) ∧ 1 ≤ n ∧ (n : Int) ≤ m := by
  obtain ⟨p1, p2⟩ := pick_bd a m h
  exact ⟨(1 + pick a m).toNat, by omega, by omega, by omega⟩
theorem xyz_of (x y z : ByteArray) (hx : x.data.toList = List.replicate x.size 120) (hy : y.data.toList = List.replicate y.size 121) (hz : z.data.toList = List.replicate z.size 122) : (x ++ ⟨#[47]⟩ ++ y ++ ⟨#[47]⟩ ++ z).data.toList = xyz x.size y.size z.size := by
  rw [xyz, ← hx, ← hy, ← hz]
  simp [ByteArray.data_append]
theorem bs_app (a b : List UInt8) : bs (a ++ b) = bs a ++ bs b := by
  apply ByteArray.ext; simp [bs, ByteArray.data_append]
theorem bs_rep {x : ByteArray} {c : UInt8} (hx : x.data.toList = List.replicate x.size c) : bs (List.replicate x.size c) = x := by rw [← hx, bs_of]
set_option maxHeartbeats 1600000 in
theorem CutShort_walk (a0 a1 a2 : Int) (w0 : (Lit.int .i64 a0).wf = true) (w1 : (Lit.int .i64 a1).wf = true) (w2 : (Lit.int .i64 a2).wf = true) (w : World) :
    Calls Try.prog 6 #[.int .i64 a0, .int .i64 a1, .int .i64 a2] w fun e w' => e = .returned (.bool true) ∧ Below w.heap.size w w' := by
  obtain ⟨A, hA, A1, A2⟩ := picked_nat a0 160 (by omega) (by omega)
  obtain ⟨B, hB, B1, B2⟩ := picked_nat a1 100 (by omega) (by omega)
  obtain ⟨C, hC, C1, C2⟩ := picked_nat a2 100 (by omega) (by omega)
  have HA := Lib.hid hA
  have HB := Lib.hid hB
  have HC := Lib.hid hC
  have HPA := Lib.hid fun W => picked_any a0 160 W w0 (by omega)
  have HPB := Lib.hid fun W => picked_any a1 100 W w1 (by omega)
  have HPC := Lib.hid fun W => picked_any a2 100 W w2 (by omega)
  have b1 := pick_bd a0 160 (by omega)
  have b2 := pick_bd a1 100 (by omega)
  have b3 := pick_bd a2 100 (by omega)
  generalize pick a0 160 = pa at *
  generalize pick a1 100 = pb at *
  generalize pick a2 100 = pc at *
  clear hA hB hC w0 w1 w2
  go_enter Try.func6, Try.ntmps6
  go_wp2_with fail
  refine (HPA.out _).mono ?_; rintro e w' ⟨rfl, rfl⟩
  go_wp2_with fail
  rw [HA.out]
  refine (Rep_one _ A _ (by omega)).mono ?_; rintro e x1 ⟨⟨x, rfl, hx, rfl⟩, hb1⟩
  have HX := Lib.hid hx
  have HB1 := Lib.hid hb1
  clear hx hb1 b1
  go_wp2_with fail
  refine (HPB.out _).mono ?_; rintro e w' ⟨rfl, rfl⟩
  go_wp2_with fail
  rw [HB.out]
  refine (Rep_one _ B _ (by omega)).mono ?_; rintro e x2 ⟨⟨y, rfl, hy, rfl⟩, hb2⟩
  have HY := Lib.hid hy
  have HB2 := Lib.hid (HB1.out.trans (hb2.mono HB1.out.size))
  clear hy hb2 b2
  go_wp2_with fail
  refine (HPC.out _).mono ?_; rintro e w' ⟨rfl, rfl⟩
  go_wp2_with fail
  rw [HC.out]
  refine (Rep_one _ C _ (by omega)).mono ?_; rintro e x3 ⟨⟨z, rfl, hz, rfl⟩, hb3⟩
  have HZ := Lib.hid hz
  have HB3 := Lib.hid (HB2.out.trans (hb3.mono HB2.out.size))
  clear hz hb3 b3
  have s1 : (x ++ ⟨#[47]⟩).size ≤ 161 := by rw [ByteArray.size_append]; show x.size + 1 ≤ 161; omega
  have s2 : (x ++ ⟨#[47]⟩ ++ y).size ≤ 261 := by rw [ByteArray.size_append]; omega
  have s3 : (x ++ ⟨#[47]⟩ ++ y ++ ⟨#[47]⟩).size ≤ 262 := by rw [ByteArray.size_append]; show (x ++ ⟨#[47]⟩ ++ y).size + 1 ≤ 262; omega
  have s4 : (y ++ ⟨#[47]⟩).size ≤ 101 := by rw [ByteArray.size_append]; show y.size + 1 ≤ 101; omega
  have HS := Lib.hid (xyz_of x y z HX.out HY.out HZ.out)
  have hsz : (x ++ ⟨#[47]⟩ ++ y ++ ⟨#[47]⟩ ++ z).size = x.size + y.size + z.size + 2 := by
    have h9 : (x ++ ⟨#[47]⟩ ++ y ++ ⟨#[47]⟩ ++ z).data.toList.length = _ := congrArg List.length HS.out
    rw [xyz_length] at h9
    rw [← h9]; exact (Array.length_toList ..).symm
  go_wp2_with fail
  clear s2 s3
  obtain ⟨S, Hs⟩ := hid_name (x ++ ⟨#[47]⟩ ++ y ++ ⟨#[47]⟩ ++ z)
  rw [Hs.out] at hsz HS ⊢
  have q1 : S.size ≤ x.size + y.size + z.size + 2 := by omega
  have q2 : x.size + y.size + z.size + 2 ≤ S.size := by omega
  have hct := fun W => Two_any S W (by unfold maxLen; omega) (by omega)
  rw [HS.out] at hct
  have E1 : bs (xyz x.size y.size z.size) = S := by rw [← HS.out, bs_of]
  clear hsz
  obtain ⟨yz, Hyz⟩ := hid_name ((y.size : Int) + (z.size : Int))
  obtain ⟨xy, Hxy⟩ := hid_name ((x.size : Int) + (y.size : Int))
  have z1 : IntKind.i64.wrap ((y.size : Int) + (z.size : Int)) = yz := by rw [← Hyz.out]; exact IntWalk.i64_in _ (by omega)
  have z2 : IntKind.i64.wrap ((x.size : Int) + (y.size : Int)) = xy := by rw [← Hxy.out]; exact IntWalk.i64_in _ (by omega)
  by_cases c1 : x.size + y.size + z.size + 2 ≤ 100
  · rw [xyz_short c1, E1] at hct
    have HT : Hid (∀ W, Calls Try.prog 7 #[.string S] W fun e w' => e = .returned (.tuple #[.string ⟨#[]⟩, .string S, .int .i64 0]) ∧ Below W.heap.size W w') := hct
    clear hct E1
    have t1 : S.size ≤ 100 := by omega
    refine (HT.out _).mono ?_; rintro e x4 ⟨rfl, hb4⟩
    have HB4 := Lib.hid (HB3.out.trans (hb4.mono HB3.out.size))
    clear hb4
    go_wp2_with fail
    go_ret
    exact ⟨rfl, HB4.out⟩
  · have t1 : ¬ S.size ≤ 100 := by omega
    by_cases c2 : y.size + z.size < 100 ∧ x.size ≤ 155
    · rw [xyz_first (by omega) (by omega) (by omega) c2.1 c2.2, bs_rep HX.out, bs_app, bs_app, bs_rep HY.out, bs_rep HZ.out] at hct
      have HT : Hid (∀ W, Calls Try.prog 7 #[.string S] W fun e w' => e = .returned (.tuple #[.string x, .string (y ++ ⟨#[47]⟩ ++ z), .int .i64 0]) ∧ Below W.heap.size W w') := hct
      clear hct E1
      obtain ⟨c3, c4⟩ := c2
      have d1 : yz < 100 := by rw [← Hyz.out]; omega
      clear c1 q1 q2 A1 B1 C1 s1 c3
      refine (HT.out _).mono ?_; rintro e x4 ⟨rfl, hb4⟩
      have HB4 := Lib.hid (HB3.out.trans (hb4.mono HB3.out.size))
      clear hb4
      go_wp2_with fail
      go_ret
      exact ⟨rfl, HB4.out⟩
    · by_cases c3 : x.size + y.size < 155 ∧ 100 ≤ y.size + z.size
      · rw [xyz_second (by omega) (by omega) (by omega) (by omega) c3.1 c3.2, bs_rep HZ.out, bs_app, bs_app, bs_rep HX.out, bs_rep HY.out] at hct
        have HT : Hid (∀ W, Calls Try.prog 7 #[.string S] W fun e w' => e = .returned (.tuple #[.string (x ++ ⟨#[47]⟩ ++ y), .string z, .int .i64 0]) ∧ Below W.heap.size W w') := hct
        clear hct E1
        obtain ⟨c4, c5⟩ := c3
        have d1 : 100 ≤ yz := by rw [← Hyz.out]; omega
        have d2 : xy < 155 := by rw [← Hxy.out]; omega
        clear c2 c1 q1 q2 s4 A1 B1 C1 c4 c5
        have s2 : (x ++ ⟨#[47]⟩ ++ y).size ≤ 261 := by rw [ByteArray.size_append]; omega
        refine (HT.out _).mono ?_; rintro e x4 ⟨rfl, hb4⟩
        have HB4 := Lib.hid (HB3.out.trans (hb4.mono HB3.out.size))
        clear hb4
        go_wp2_with fail
        go_ret
        exact ⟨rfl, HB4.out⟩
      · rw [xyz_none (by omega) c2 c3] at hct
        have HT : Hid (∀ W, Calls Try.prog 7 #[.string S] W fun e w' => e = .returned (.tuple #[.string ⟨#[]⟩, .string ⟨#[]⟩, .int .i64 1]) ∧ Below W.heap.size W w') := hct
        clear hct E1
        have HB4 : ∀ x4, Below x3.heap.size x3 x4 → Below w.heap.size w x4 := fun x4 h => HB3.out.trans (h.mono HB3.out.size)
        have HB5 := Lib.hid HB4
        clear HB4
        by_cases c4 : y.size + z.size < 100
        · have c6 : 155 < x.size := by omega
          have d1 : yz < 100 := by rw [← Hyz.out]; omega
          have d2 : ¬ xy < 155 := by rw [← Hxy.out]; omega
          clear c1 c2 c3 q1 q2 s4 s1 A1 B1 C1 c4
          refine (HT.out _).mono ?_; rintro e x4 ⟨rfl, hb4⟩
          have HB4 := Lib.hid (HB5.out _ hb4)
          clear hb4
          go_wp2_with fail
          go_ret
          exact ⟨rfl, HB4.out⟩
        · have d1 : 100 ≤ yz := by rw [← Hyz.out]; omega
          have d2 : ¬ xy < 155 := by rw [← Hxy.out]; omega
          clear c1 c2 c3 q1 q2 s4 s1 A1 B1 C1 c4
          refine (HT.out _).mono ?_; rintro e x4 ⟨rfl, hb4⟩
          have HB4 := Lib.hid (HB5.out _ hb4)
          clear hb4
          go_wp2_with fail
          go_ret
          exact ⟨rfl, HB4.out⟩
end Go.Proofs.Ytceaaadnemmalaa
