/- ReadTurns: what is read is archived so. -/
import Derived.Test.YtmejnabngfpbeaaGreatDoorRea
import Derived.Test.YtmejnabngfpbeaaGreatDoorReaU
import Derived.Test.YtmejnabngfpbeaaGreatDoorArx
import Derived.Test.YtmejnabngfpbeaaGreatDoorEof
import Derived.Test.YtmejnabngfpbeaaGreatDoorTul
set_option linter.unusedVariables false
set_option maxRecDepth 100000
namespace Go.Proofs.YtmejnabngfpbeaaGreatDoor
open Go.RowKit
open Go.OpenShut
set_option maxHeartbeats 4000000 in
theorem ReadTurns_walk (A0 : Option Addr) (n0 c0 : Nat) (rs0 : List RawV) (a1 a2 : Int) (hn0 : rs0.length = n0) (hm0 : n0 ≤ 140737488355328) (hf0 : ∀ r ∈ rs0, r.wf) (w1 : (Lit.int .i64 a1).wf = true) (w2 : (Lit.int .u8 a2).wf = true) (w : World) (hr0 : RawsAt w A0 rs0) (hL : laidMetH Tryz.prog Rows.readTurnsRow.laid w) :
  Calls Tryz.prog 8 #[.slice A0 n0 c0, .int .i64 a1, .int .u8 a2] w fun e w' => e = .returned (.bool true) ∧ Below w.heap.size w w' := by
 have S : Std w := std_of_laid hL (by kernel_rfl) (by simp [Rows.readTurnsRow]) (by simp [Rows.readTurnsRow]) (by simp [Rows.readTurnsRow])
 have HD := Lib.hid (entsOf_any A0 n0 c0 rs0 hn0 hm0 hf0 12 (by omega) w hr0)
 simp only [show ((12 : Nat) : Int) = 12 from rfl] at HD
 clear hn0 hm0 hf0 hr0 hL
 have HW1 := Lib.hid w1
 have HW2 := Lib.hid w2
 clear w1 w2
 go_enter Tryz.func8, Tryz.ntmps8
 go_wp2_with fail
 refine HD.out.mono ?_; rintro e x1 ⟨l, T1, k, d, rfl, hk, hS, hN, hkm, hE, hsz, hB⟩
 have H2 := Lib.hid (wArch_any T1 k d l hk hS hsz x1 (S.tab.below hB) hN)
 rw [hE] at H2
 have hlen := arcE_len hE
 have hlim := arcE_lim hE
 have hk20 : k ≤ 12 := hkm
 have HB1 := Lib.hid hB
 have HN1 := Lib.hid hN
 have HK := Lib.hid hk
 obtain ⟨L, hL⟩ : ∃ L, arcE l = L := ⟨_, rfl⟩
 rw [hL] at H2 hlen hlim
 have HLl := Lib.hid hL
 obtain ⟨nb, hnb⟩ : ∃ nb, L.length = nb := ⟨_, rfl⟩
 rw [hnb] at hlen hlim
 have hnb0 : ((nb : Int) == 0) = false := by rw [beq_eq_false_iff_ne]; omega
 have HT := Lib.hid fun A cap W hA => Turned_set L nb hnb (by omega) (by omega) A cap a1 a2 HW1.out HW2.out W hA
 have HNB := Lib.hid hnb
 have hnb1 : 1024 ≤ nb := by omega
 clear hk hS hN hkm hE hsz hB HD hnb hL hlen
 go_wp2_with fail
 refine H2.out.mono ?_; rintro e x2 ⟨v2, rfl, ho, hb⟩
 obtain ⟨A2, c2, rfl, hs2, ha2⟩ := ho.form
 rw [HNB.out]
 have HB2 := Lib.hid (HB1.out.trans (hb.mono HB1.out.size))
 have HN2 := Lib.hid (HN1.out.below hb)
 have HT2 := Lib.hid (HT.out A2 c2 x2 ha2)
 clear ho hb hs2 ha2 H2 HB1 HN1 HT
 go_wp2_with fail
 refine HT2.out.mono ?_; rintro e x3 ⟨v3, i, c, x, rfl, hi, hcx, ho, hb⟩
 obtain ⟨A3, c3, rfl, hs3, ha3⟩ := ho.form
 have hl3 : (L.set i c).length = nb := by rw [List.length_set]; exact HNB.out
 have hne3 : L.set i c ≠ L := fun e => by
  have h1 : (L.set i c)[i]? = some c := by
   have : i < L.length := (List.getElem?_eq_some_iff.1 hi).1
   rw [List.getElem?_set_self this]
  rw [e, hi] at h1
  injection h1 with h1
  exact hcx h1.symm
 rw [hl3] at hs3 ⊢
 obtain ⟨L2, hL2⟩ : ∃ L2, L.set i c = L2 := ⟨_, rfl⟩
 rw [hL2] at hl3 hne3 ha3
 have HB3 := Lib.hid (HB2.out.trans (hb.mono HB2.out.size))
 have HN3 := Lib.hid (HN2.out.below hb)
 have HA3 := Lib.hid ha3
 have HS3 := Lib.hid hs3
 have HR3 := Lib.hid (rdArc_any A3 nb c3 L2 hl3 (by omega) hs3 x3 (S.below HB3.out) ha3)
 have HNe := Lib.hid hne3
 have HL3 := Lib.hid hl3
 have hbk := arcR_back (b := L2)
 have her := arcR_err (b := L2)
 clear ho hb hs3 ha3 hl3 hL2 hi hcx hne3 HT2 HB2 HN2
 generalize arcR L2 = R at HR3 hbk her
 obtain ⟨p, E⟩ := R
 simp only at HR3 hbk her
 by_cases hE : E = 0
 ·subst hE
  obtain ⟨hE2, hY2⟩ := hbk rfl
  have h40 := ents_few hE2
  have hxp : ¬ l = p := fun e => HNe.out (by rw [← hY2, ← e]; exact HLl.out)
  have HEQ := Lib.hid fun A2 c2 W h h' => keepEnts_any T1 A2 k d p.length c2 l p HK.out rfl (by omega) (by omega) W h h'
  rw [decide_eq_false hxp] at HEQ
  have HWr := Lib.hid fun A2 c2 W hS TW hA => wArch_any A2 p.length c2 p rfl hS (fun x hx => eof_sz (ents_each hE2 x hx)) W TW hA
  rw [hE2, hY2] at HWr
  obtain ⟨pl, hpl⟩ : ∃ pl, p.length = pl := ⟨_, rfl⟩
  rw [hpl] at HEQ HWr
  have HPL := Lib.hid hpl
  clear hbk her hE2 hY2 h40 hxp hpl
  go_wp2_with fail
  refine HR3.out.mono ?_; rintro e x4 ⟨v4, ys, rfl, hm, ho, hb⟩
  obtain ⟨A4, c4, rfl, hs4, hN4⟩ := ho.at
  have hl4 : ys.length = pl := by rw [← HPL.out, ← hm, List.length_map]
  rw [hm] at hN4
  rw [hl4] at hs4 ⊢
  have HB4 := Lib.hid (HB3.out.trans (hb.mono HB3.out.size))
  have HN4 := Lib.hid (HN3.out.below hb)
  have HA4 := Lib.hid (HA3.out.below hb)
  have HM4 := Lib.hid hN4
  have HW4 := Lib.hid (HWr.out A4 c4 x4 hs4 (S.tab.below HB4.out) hN4)
  clear hm ho hb hs4 hN4 hl4 HR3 HB3 HN3 HA3 HWr
  go_wp2_with fail
  refine HW4.out.mono ?_; rintro e x5 ⟨v5, rfl, ho, hb⟩
  obtain ⟨A5, c5, rfl, hs5, ha5⟩ := ho.form
  rw [HL3.out] at hs5 ⊢
  have HB5 := Lib.hid (HB4.out.trans (hb.mono HB4.out.size))
  have HE5 := Lib.hid (HEQ.out A4 c4 x5 (HN4.out.below hb) (HM4.out.below hb))
  have k1 : (convert 22 9 (.slice A5 nb c5)).run Tryz.prog x5 = .ok (.string (bs L2)) x5 := by
   have h := BytsAt.conv (w := x5) ha5 c5 (fun e => List.eq_nil_of_length_eq_zero (by have h1 := hs5.2.2 e; have h2 := hs5.1; rw [HL3.out]; omega))
   rw [HL3.out] at h; exact h
  have k2 : (convert 22 9 (.slice A3 nb c3)).run Tryz.prog x5 = .ok (.string (bs L2)) x5 := by
   have h := BytsAt.conv (w := x5) (HA4.out.below hb) c3 (fun e => List.eq_nil_of_length_eq_zero (by have h1 := HS3.out.2.2 e; have h2 := HS3.out.1; rw [HL3.out]; omega))
   rw [HL3.out] at h; exact h
  generalize bs L2 = ST at k1 k2
  clear ho hb hs5 ha5 HW4 HB4 HN4 HM4 HA4 HEQ
  go_wp2_with fail
  refine HE5.out.mono ?_; rintro e x6 ⟨rfl, hb⟩
  have HB6 := Lib.hid (HB5.out.trans (hb.mono HB5.out.size))
  clear hb HE5 HB5
  go_wp2_with fail
  go_ret
  exact ⟨rfl, HB6.out⟩
 ·have hp := her hE
  have t1 : (E != 0) = true := by simpa using hE
  clear hbk her
  go_wp2_with fail
  refine HR3.out.mono ?_; rintro e x4 ⟨v4, ys, rfl, hm, ho, hb⟩
  obtain rfl : ys = [] := by cases ys with | nil => rfl | cons y ys => rw [hp] at hm; cases hm
  obtain ⟨A4, c4, rfl, -, -⟩ := ho.at
  have HB4 := Lib.hid (HB3.out.trans (hb.mono HB3.out.size))
  clear hm ho hb HR3 HB3 hp
  go_wp2_with fail
  go_ret
  exact ⟨rfl, HB4.out⟩
end Go.Proofs.YtmejnabngfpbeaaGreatDoor
