/- WriteBack: what is archived is read so. -/
import Derived.Test.YtmejnabngfpbeaaGreatDoorRea
import Derived.Test.YtmejnabngfpbeaaGreatDoorArx
import Derived.Test.YtmejnabngfpbeaaGreatDoorEof
import Derived.Test.YtmejnabngfpbeaaGreatDoorMemJ
import Derived.Test.YtmejnabngfpbeaaGreatDoorEna
import Derived.Test.YtmejnabngfpbeaaGreatDoorTul
set_option linter.unusedVariables false
set_option maxRecDepth 100000
namespace Go.Proofs.YtmejnabngfpbeaaGreatDoor
open Go.RowKit
open Go.OpenShut
theorem keepEnts_any (A A2 : Option Addr) (n c n2 c2 : Nat) (l l2 : List EntV) (hn : l.length = n) (hn2 : l2.length = n2) (hm : n ≤ 140737488355328) (hm2 : n2 ≤ 140737488355328) (w : World) (hA : EntsAt w A l) (hA2 : EntsAt w A2 l2) :
  Calls Tryz.prog 20 #[.slice A n c, .slice A2 n2 c2, .func (.func 21) #[] #[]] w fun e w' => e = .returned (.bool (decide (l = l2))) ∧ Below w.heap.size w w' :=
 EqualFuncE_any 21 (fun x y D E c d w => keepEnt_any x y D E c d w) (enters_of Tryz.func21 (by kernel_rfl) rfl) A A2 n c n2 c2 l l2 hn hn2 hm hm2 w hA hA2
set_option maxHeartbeats 2000000 in
theorem WriteBack_walk (A0 : Option Addr) (n0 c0 : Nat) (rs0 : List RawV) (hn0 : rs0.length = n0) (hm0 : n0 ≤ 140737488355328) (hf0 : ∀ r ∈ rs0, r.wf) (w : World) (hr0 : RawsAt w A0 rs0) (hL : laidMetH Tryz.prog Rows.writeBackRow.laid w) :
  Calls Tryz.prog 5 #[.slice A0 n0 c0] w fun e w' => e = .returned (.bool true) ∧ Below w.heap.size w w' := by
 have S : Std w := std_of_laid hL (by kernel_rfl) (by simp [Rows.writeBackRow]) (by simp [Rows.writeBackRow]) (by simp [Rows.writeBackRow])
 have HD := Lib.hid (entsOf_any A0 n0 c0 rs0 hn0 hm0 hf0 20 (by omega) w hr0)
 simp only [show ((20 : Nat) : Int) = 20 from rfl] at HD
 clear hn0 hm0 hf0 hr0 hL
 go_enter Tryz.func5, Tryz.ntmps5
 go_wp2_with fail
 refine HD.out.mono ?_; rintro e x1 ⟨l, T1, k, d, rfl, hk, hS, hN, hkm, hE, hsz, hB⟩
 have H2 := Lib.hid (wArch_any T1 k d l hk hS hsz x1 (S.tab.below hB) hN)
 rw [hE] at H2
 have hlen := arcE_len hE
 have hlim := arcE_lim hE
 have hk20 : k ≤ 20 := hkm
 have harc := arcR_of hE
 have HB1 := Lib.hid hB
 have HN1 := Lib.hid hN
 have HK := Lib.hid hk
 obtain ⟨nb, hnb⟩ : ∃ nb, (arcE l).length = nb := ⟨_, rfl⟩
 have HRd := Lib.hid fun (A : Option Addr) (c : Nat) (W : World) hc SW hA => rdArc_any A nb c (arcE l) hnb (by omega) hc W SW hA
 rw [harc] at HRd
 simp only at HRd
 rw [hnb] at hlim
 have HNB := Lib.hid hnb
 clear hk hS hN hkm hE hsz hB HD harc hnb hlen
 go_wp2_with fail
 refine H2.out.mono ?_; rintro e x2 ⟨v2, rfl, ho, hb⟩
 obtain ⟨A2, c2, rfl, hs2, ha2⟩ := ho.form
 rw [HNB.out] at hs2 ⊢
 have HB2 := Lib.hid (HB1.out.trans (hb.mono HB1.out.size))
 have HN2 := Lib.hid (HN1.out.below hb)
 have HR2 := Lib.hid (HRd.out A2 c2 x2 hs2 (S.below HB2.out) ha2)
 clear ho hb hs2 ha2 H2 HB1 HN1 HRd
 go_wp2_with fail
 refine HR2.out.mono ?_; rintro e x3 ⟨v3, ys, rfl, hm, ho, hb⟩
 obtain ⟨A3, c3, rfl, hs3, hN3⟩ := ho.at
 have hl3 : ys.length = k := by rw [← HK.out, ← hm, List.length_map]
 rw [hm] at hN3
 rw [hl3]
 have HB3 := Lib.hid (HB2.out.trans (hb.mono HB2.out.size))
 have HS := Lib.hid (keepEnts_any T1 A3 k d k c3 l l HK.out HK.out (by omega) (by omega) x3 (HN2.out.below hb) hN3)
 rw [decide_eq_true (rfl : l = l)] at HS
 clear hm ho hb hs3 hN3 hl3 HR2 HB2 HN2
 go_wp2_with fail
 refine HS.out.mono ?_; rintro e x4 ⟨rfl, hb⟩
 have HB4 := Lib.hid (HB3.out.trans (hb.mono HB3.out.size))
 clear hb HS HB3
 go_wp2_with fail
 go_ret
 exact ⟨rfl, HB4.out⟩
end Go.Proofs.YtmejnabngfpbeaaGreatDoor
