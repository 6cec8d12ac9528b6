/- ReadMore: an archive with anything behind it is none. -/
import Derived.Test.YtmejnabngfpbeaaGreatDoorRea
import Derived.Test.YtmejnabngfpbeaaGreatDoorArx
import Derived.Test.YtmejnabngfpbeaaGreatDoorEof
import Derived.Test.YtmejnabngfpbeaaGreatDoorPdg
import Derived.Test.YtmejnabngfpbeaaGreatDoorTul
set_option linter.unusedVariables false
set_option maxRecDepth 100000
namespace Go.Proofs.YtmejnabngfpbeaaGreatDoor
open Go.RowKit
open Go.OpenShut
set_option maxHeartbeats 2000000 in
theorem ReadMore_walk (A0 : Option Addr) (n0 c0 : Nat) (rs0 : List RawV) (A1 : Option Addr) (n1 c1 : Nat) (l1 : List UInt8) (hn0 : rs0.length = n0) (hm0 : n0 ≤ 140737488355328) (hf0 : ∀ r ∈ rs0, r.wf) (hn1 : l1.length = n1) (hm1 : n1 ≤ 140737488351232) (hc1 : n1 ≤ c1 ∧ c1 ≤ maxLen ∧ (A1 = none → c1 = 0)) (w : World) (hr0 : RawsAt w A0 rs0) (hr1 : BytsAt w A1 l1) (hL : laidMetH Tryz.prog Rows.readMoreRow.laid w) :
  Calls Tryz.prog 7 #[.slice A0 n0 c0, .slice A1 n1 c1] w fun e w' => e = .returned (.bool true) ∧ Below w.heap.size w w' := by
 have S : Std w := std_of_laid hL (by kernel_rfl) (by simp [Rows.readMoreRow]) (by simp [Rows.readMoreRow]) (by simp [Rows.readMoreRow])
 have HD := Lib.hid (entsOf_any A0 n0 c0 rs0 hn0 hm0 hf0 12 (by omega) w hr0)
 simp only [show ((12 : Nat) : Int) = 12 from rfl] at HD
 clear hn0 hm0 hf0 hr0 hL
 have HM1 := Lib.hid hr1
 have hcn := hc1.2.2
 clear hr1 hc1
 go_enter Tryz.func7, Tryz.ntmps7
 go_wp2_with fail
 refine HD.out.mono ?_; rintro e x1 ⟨l, T1, k, d, rfl, hk, hS, hN, hkm, hE, hsz, hB⟩
 have H2 := Lib.hid (wArch_any T1 k d l hk hS hsz x1 (S.tab.below hB) hN)
 rw [hE] at H2
 have hlen := arcE_len hE
 have hlim := arcE_lim hE
 have hk20 : k ≤ 12 := hkm
 have harc := arcR_more hE (l1 ++ [0]) (by simp)
 have HB1 := Lib.hid hB
 generalize arcE l = L at H2 harc hlen hlim
 obtain ⟨nb, hnb⟩ : ∃ nb, L.length = nb := ⟨_, rfl⟩
 rw [hnb] at hlen hlim
 have hnb0 : (0 : Int) < (nb : Int) := by omega
 have hL3 : (L ++ l1 ++ [0]).length = nb + n1 + 1 := by rw [List.length_append, List.length_append, hnb, hn1]; rfl
 rw [← List.append_assoc] at harc
 have HRd := Lib.hid fun (A : Option Addr) (c : Nat) (W : World) hc SW hA => rdArc_any A (nb + n1 + 1) c (L ++ l1 ++ [0]) hL3 (by omega) hc W SW hA
 rw [harc] at HRd
 have HCc := Lib.hid fun (A2 A3 : Option Addr) c2 c3 h2 h3 g W hb q1 q2 q3 => bConcat_three A2 A1 A3 nb n1 1 c2 c1 c3 L l1 [0] hnb hn1 rfl (by omega) (by omega) h2 hcn h3 g W hb q1 q2 q3
 have HNB := Lib.hid hnb
 have HL3 := Lib.hid hL3
 clear hk hS hN hkm hE hsz hB HD hnb hL3 harc hn1 hcn hlen
 go_wp2_with fail
 refine H2.out.mono ?_; rintro e x2 ⟨v2, rfl, ho, hb⟩
 obtain ⟨A2, c2, rfl, hs2, ha2⟩ := ho.form
 rw [HNB.out] at hs2 ⊢
 have hB2 := HB1.out.trans (hb.mono HB1.out.size)
 have b1 := (Below.refl x2.heap.size x2).alloc (Nat.le_refl _) (.cells #[.int .u8 0] 5)
 have hz : BytsAt (x2.alloc (.cells #[.int .u8 0] 5)) (some ⟨x2.heap.size, 0, none⟩) [0] := fun j hj => by
  obtain rfl : j = 0 := by simpa using hj
  exact ⟨_, _, rfl, (Blk.new x2 5 #[.int .u8 0]).cell 0⟩
 have b2 := (Below.refl (x2.alloc (.cells #[.int .u8 0] 5)).heap.size (x2.alloc (.cells #[.int .u8 0] 5))).alloc (Nat.le_refl _) (.cells #[.slice A2 nb c2, .slice A1 n1 c1, .slice (some ⟨x2.heap.size, 0, none⟩) 1 1] 22)
 have HK := Lib.hid (HCc.out A2 (some ⟨x2.heap.size, 0, none⟩) c2 1 hs2.2.2 (fun e => by cases e) _ _ (Blk.new (x2.alloc (.cells #[.int .u8 0] 5)) 22 #[.slice A2 nb c2, .slice A1 n1 c1, .slice (some ⟨x2.heap.size, 0, none⟩) 1 1]) ((ha2.below b1).below b2) (((HM1.out.below hB2).below b1).below b2) (hz.below b2))
 have HB3 := Lib.hid ((hB2.alloc hB2.size (.cells #[.int .u8 0] 5)).alloc (hB2.alloc hB2.size (.cells #[.int .u8 0] 5)).size (.cells #[.slice A2 nb c2, .slice A1 n1 c1, .slice (some ⟨x2.heap.size, 0, none⟩) 1 1] 22))
 rw [hszA] at HK
 clear ho hb hs2 ha2 hB2 b1 hz b2 H2 HB1 HM1 HCc
 go_wp2_with fail
 refine HK.out.mono ?_; rintro e x5 ⟨v5, rfl, ho, hb⟩
 obtain ⟨A5, c5, rfl, hs5, ha5⟩ := ho.form
 rw [HL3.out] at hs5 ⊢
 have HB5 := Lib.hid (HB3.out.trans (hb.mono HB3.out.size))
 have HR5 := Lib.hid (HRd.out A5 c5 x5 hs5 (S.below HB5.out) ha5)
 clear ho hb hs5 ha5 HK HB3 HRd
 go_wp2_with fail
 refine HR5.out.mono ?_; rintro e x6 ⟨v6, ys, rfl, hm, ho, hb⟩
 have HB6 := Lib.hid (HB5.out.trans (hb.mono HB5.out.size))
 clear hm ho hb HR5 HB5
 go_wp2_with fail
 go_ret
 exact ⟨rfl, HB6.out⟩
end Go.Proofs.YtmejnabngfpbeaaGreatDoor
