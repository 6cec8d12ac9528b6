/- ReadTorn: no beginning of an archive is one. -/
import Derived.Test.YtmejnabngfpbeaaGreatDoorRea
import Derived.Test.YtmejnabngfpbeaaGreatDoorArx
import Derived.Test.YtmejnabngfpbeaaGreatDoorEof
import Derived.Test.YtmejnabngfpbeaaGreatDoorTrm
import Derived.Test.YtmejnabngfpbeaaGreatDoorPda
import Derived.Test.YtmejnabngfpbeaaGreatDoorTul
set_option linter.unusedVariables false
set_option maxRecDepth 100000
namespace Go.Proofs.YtmejnabngfpbeaaGreatDoor
open Go.RowKit
open Go.OpenShut
set_option maxHeartbeats 2000000 in
theorem ReadTorn_walk (A0 : Option Addr) (n0 c0 : Nat) (rs0 : List RawV) (a1 : Int) (hn0 : rs0.length = n0) (hm0 : n0 ≤ 140737488355328) (hf0 : ∀ r ∈ rs0, r.wf) (w1 : (Lit.int .i64 a1).wf = true) (w : World) (hr0 : RawsAt w A0 rs0) (hL : laidMetH Tryz.prog Rows.readTornRow.laid w) :
  Calls Tryz.prog 6 #[.slice A0 n0 c0, .int .i64 a1] w fun e w' => e = .returned (.bool true) ∧ Below w.heap.size w w' := by
 have S : Std w := std_of_laid hL (by kernel_rfl) (by simp [Rows.readTornRow]) (by simp [Rows.readTornRow]) (by simp [Rows.readTornRow])
 have HD := Lib.hid (entsOf_any A0 n0 c0 rs0 hn0 hm0 hf0 12 (by omega) w hr0)
 simp only [show ((12 : Nat) : Int) = 12 from rfl] at HD
 clear hn0 hm0 hf0 hr0 hL
 have HW1 := Lib.hid w1
 clear w1
 go_enter Tryz.func6, Tryz.ntmps6
 go_wp2_with fail
 refine HD.out.mono ?_; rintro e x1 ⟨l, T1, k, d, rfl, hk, hS, hN, hkm, hE, hsz, hB⟩
 have H2 := Lib.hid (wArch_any T1 k d l hk hS hsz x1 (S.tab.below hB) hN)
 rw [hE] at H2
 have hlen := arcE_len hE
 have hlim := arcE_lim hE
 have hk20 : k ≤ 12 := hkm
 have HT := Lib.hid fun n hn => arcR_torn hE (n := n) hn
 have HB1 := Lib.hid hB
 generalize arcE l = L at H2 HT hlen hlim
 obtain ⟨nb, hnb⟩ : ∃ nb, L.length = nb := ⟨_, rfl⟩
 rw [hnb] at HT hlen hlim
 have hnb0 : ((nb : Int) == 0) = false := by rw [beq_eq_false_iff_ne]; omega
 obtain ⟨p1, p2⟩ := pick_bd a1 (nb : Int) (by omega)
 obtain ⟨j, hj⟩ : ∃ j : Nat, pick a1 (nb : Int) = j := ⟨(pick a1 (nb : Int)).toNat, by omega⟩
 have HP := Lib.hid fun W => picked_any a1 (nb : Int) W HW1.out (by omega)
 rw [hj] at HP p1 p2
 have hjn : j < nb := by omega
 have hlj : (L.take j).length = j := by rw [List.length_take]; omega
 have HRd := Lib.hid fun (A : Option Addr) (c : Nat) (W : World) hc SW hA => rdArc_any A j c (L.take j) hlj (by omega) hc W SW hA
 have hne := HT.out j hjn
 have hnil := arcR_err hne
 rw [hnil] at HRd
 generalize (arcR (L.take j)).2 = E at HRd hne
 have t1 : (E != 0) = true := by simpa using hne
 have HNB := Lib.hid hnb
 have hnb1 : 1024 ≤ nb := by omega
 clear hk hS hN hkm hE hsz hB HD hnb hj p1 p2 hnil hne HT hlj hlen
 go_wp2_with fail
 refine H2.out.mono ?_; rintro e x2 ⟨v2, rfl, ho, hb⟩
 obtain ⟨A2, c2, rfl, hs2, ha2⟩ := ho.form
 rw [HNB.out] at hs2 ⊢
 have HB2 := Lib.hid (HB1.out.trans (hb.mono HB1.out.size))
 have s1 : ∀ W : World, (Instr.slice 22 (.slice A2 nb c2) none (some (.int .i64 (j : Int))) none).run Tryz.prog W = .ok (.slice A2 j c2) W := fun W => slice_to W A2 nb c2 j (by have := hs2.1; omega)
 have HR2 := Lib.hid (HRd.out A2 c2 x2 ⟨by have := hs2.1; omega, hs2.2⟩ (S.below HB2.out) (ha2.take j))
 clear ho hb hs2 ha2 H2 HB1 HRd
 go_wp2_with fail
 refine (HP.out _).mono ?_; rintro e x3 ⟨rfl, rfl⟩
 go_wp2_with fail
 refine HR2.out.mono ?_; rintro e x3 ⟨v3, ys, rfl, hm, ho, hb⟩
 obtain rfl : ys = [] := by cases ys with | nil => rfl | cons y ys => cases hm
 obtain ⟨A3, c3, rfl, -, -⟩ := ho.at
 have HB3 := Lib.hid (HB2.out.trans (hb.mono HB2.out.size))
 clear hm ho hb HR2 HB2
 go_wp2_with fail
 go_ret
 exact ⟨rfl, HB3.out⟩
end Go.Proofs.YtmejnabngfpbeaaGreatDoor
