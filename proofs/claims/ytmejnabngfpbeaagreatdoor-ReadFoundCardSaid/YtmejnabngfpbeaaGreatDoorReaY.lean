/- ReadFound: every member is found by its path. -/
import Derived.Test.YtmejnabngfpbeaaGreatDoorRea
import Derived.Test.YtmejnabngfpbeaaGreatDoorReaU
import Derived.Test.YtmejnabngfpbeaaGreatDoorArx
import Derived.Test.YtmejnabngfpbeaaGreatDoorEof
import Derived.Test.YtmejnabngfpbeaaGreatDoorMemJ
import Derived.Test.YtmejnabngfpbeaaGreatDoorTrm
import Derived.Test.YtmejnabngfpbeaaGreatDoorTul
import Derived.BigQuiet
set_option linter.unusedVariables false
set_option maxRecDepth 100000
namespace Go.Proofs.YtmejnabngfpbeaaGreatDoor
open Go.RowKit
open Go.OpenShut
theorem some_arcE {l : List EntV} (h : entsE l = 0) : someM (arcE l) = ((l, (arcB l).length), 0) := by
 have h1 := some_arc l (List.replicate 1024 0) (ents_each h)
 have h2 := some_zeros (n := 1024) (by decide) []
 rw [List.append_nil] at h2
 rw [h2, List.append_nil, Nat.add_zero, ← arcE_ok h] at h1
 exact h1
set_option maxHeartbeats 4000000 in
theorem ReadFound_walk (A0 : Option Addr) (n0 c0 : Nat) (rs0 : List RawV) (a1 : Int) (hn0 : rs0.length = n0) (hm0 : n0 ≤ 140737488355328) (hf0 : ∀ r ∈ rs0, r.wf) (w1 : (Lit.int .i64 a1).wf = true) (w : World) (hr0 : RawsAt w A0 rs0) (hL : laidMetH Tryz.prog Rows.readFoundRow.laid w) :
  Calls Tryz.prog 9 #[.slice A0 n0 c0, .int .i64 a1] w fun e w' => e = .returned (.bool true) ∧ Below w.heap.size w w' := by
 have S : Std w := std_of_laid hL (by kernel_rfl) (by simp [Rows.readFoundRow]) (by simp [Rows.readFoundRow]) (by simp [Rows.readFoundRow])
 have HD := Lib.hid (entsOf_end A0 n0 c0 rs0 hn0 hm0 hf0 12 (by omega) w hr0)
 simp only [show ((12 : Nat) : Int) = 12 from rfl] at HD
 clear hn0 hm0 hf0 hr0 hL
 have HW1 := Lib.hid w1
 clear w1
 go_enter Tryz.func9, Tryz.ntmps9
 go_wp2_with fail
 refine HD.out.mono ?_; rintro e x1 ⟨l, T1, k, d, rfl, hk, hS, hN, hkm, hE, hsz, hend, hB⟩
 have H2 := Lib.hid (wArch_any T1 k d l hk hS hsz x1 (S.tab.below hB) hN)
 rw [hE] at H2
 have hlen := arcE_len hE
 have hlim := arcE_lim hE
 have hk20 : k ≤ 12 := hkm
 have harc := arcR_of hE
 have hsome := some_arcE hE
 have hno := findR_no harc (s := [110, 111, 110, 101]) fun x hx => end_none (hend x hx)
 have HYes := Lib.hid fun j (hj : j < l.length) => findR_yes harc hE hj
 have HB1 := Lib.hid hB
 have HN1 := Lib.hid hN
 have HK := Lib.hid hk
 generalize arcE l = L at H2 harc hsome hno HYes hlen hlim
 generalize (arcB l).length = nb at hsome hlen
 have hnL : L.length = nb + 1024 := hlen
 rw [hnL] at hlim
 have HNB := Lib.hid hnL
 have HSo := Lib.hid fun (A : Option Addr) (c : Nat) (W : World) hc SW hA => rdSome_any A (nb + 1024) c L HNB.out (by omega) hc W SW hA
 rw [hsome] at HSo
 simp only at HSo
 have HF0 := Lib.hid fun (A : Option Addr) (c : Nat) (W : World) hc SW hA => rdFind_any A (nb + 1024) c L [110, 111, 110, 101] HNB.out (by omega) hc W SW hA
 rw [hno] at HF0
 simp only at HF0
 rw [show bs [110, 111, 110, 101] = ⟨#[110, 111, 110, 101]⟩ from rfl] at HF0
 have hez : ∀ D c, (entC entZ D c).toArray = #[.string ⟨#[]⟩, .int .i64 0, .string ⟨#[]⟩, .int .i64 0, .int .i64 0, .int .i64 0, .string ⟨#[]⟩, .string ⟨#[]⟩, .int .i64 0, .int .i64 0, .slice D 0 c] := fun _ _ => rfl
 simp only [hez] at HF0
 have HFy := Lib.hid fun (A : Option Addr) (c : Nat) (W : World) (s : List UInt8) hc SW hA => rdFind_any A (nb + 1024) c L s HNB.out (by omega) hc W SW hA
 clear hk hS hN hkm hE hsz hB HD hnL harc hsome hno hez hlen hend
 go_wp2_with fail
 refine H2.out.mono ?_; rintro e x2 ⟨v2, rfl, ho, hb⟩
 obtain ⟨A2, c2, rfl, hs2, ha2⟩ := ho.form
 rw [HNB.out] at hs2 ⊢
 have HB2 := Lib.hid (HB1.out.trans (hb.mono HB1.out.size))
 have HN2 := Lib.hid (HN1.out.below hb)
 have HA2 := Lib.hid ha2
 have HS2 := Lib.hid hs2
 have HF2 := Lib.hid (HF0.out A2 c2 x2 hs2 (S.below HB2.out) ha2)
 clear ho hb hs2 ha2 H2 HB1 HN1 HF0
 go_wp2_with fail
 refine HF2.out.mono ?_; rintro e x3 ⟨D3, c3, rfl, -, hb⟩
 have hal := hb.alloc hb.size (.cells #[.string ⟨#[]⟩, .int .i64 0, .string ⟨#[]⟩, .int .i64 0, .int .i64 0, .int .i64 0, .string ⟨#[]⟩, .string ⟨#[]⟩, .int .i64 0, .int .i64 0, .slice D3 0 c3] 34)
 have HB4 := Lib.hid (HB2.out.trans (hal.mono HB2.out.size))
 have HN4 := Lib.hid (HN2.out.below hal)
 have HA4 := Lib.hid (HA2.out.below hal)
 clear hb hal HF2 HB2 HN2 HA2
 go_upto_region 6 with fail
 generalize x3.alloc (.cells #[.string ⟨#[]⟩, .int .i64 0, .string ⟨#[]⟩, .int .i64 0, .int .i64 0, .int .i64 0, .string ⟨#[]⟩, .string ⟨#[]⟩, .int .i64 0, .int .i64 0, .slice D3 0 c3] 34) = x4 at HB4 HN4 HA4 ⊢
 generalize x3.heap.size = g3
 have HS4 := Lib.hid (HSo.out A2 c2 x4 HS2.out (S.below HB4.out) HA4.out)
 clear HSo
 go_wp2_with fail
 refine HS4.out.mono ?_; rintro e x5 ⟨v5, ys, rfl, hm, ho, hb⟩
 obtain ⟨A5, c5, rfl, hs5, hN5⟩ := ho.at
 have hl5 : ys.length = k := by rw [← HK.out, ← hm, List.length_map]
 rw [hm] at hN5
 rw [hl5]
 have HB5 := Lib.hid (HB4.out.trans (hb.mono HB4.out.size))
 have HN5 := Lib.hid (HN4.out.below hb)
 have HA5 := Lib.hid (HA4.out.below hb)
 have HQ := Lib.hid (keepEnts_any T1 A5 k d k c5 l l HK.out HK.out (by omega) (by omega) x5 HN5.out hN5)
 rw [decide_eq_true (rfl : l = l)] at HQ
 have hsub : IntKind.i64.wrap (((nb + 1024 : Nat) : Int) - 1024) = (nb : Int) := by rw [IntKind.wrap_i64]; omega
 clear hm ho hb hs5 hN5 hl5 HS4 HB4 HN4 HA4
 go_wp2_with fail
 refine HQ.out.mono ?_; rintro e x6 ⟨rfl, hb⟩
 have HB6 := Lib.hid (HB5.out.trans (hb.mono HB5.out.size))
 have HN6 := Lib.hid (HN5.out.below hb)
 have HA6 := Lib.hid (HA5.out.below hb)
 clear hb HQ HB5 HN5 HA5 hsub
 by_cases hk0 : k = 0
 ·have hk00 : ((k : Int) == 0) = true := by simpa using hk0
  clear HN6 HA6
  go_wp2_with fail
  go_ret
  exact ⟨rfl, HB6.out⟩
 ·have hk00 : ((k : Int) == 0) = false := by simpa using hk0
  obtain ⟨p1, p2⟩ := pick_bd a1 (k : Int) (by omega)
  have HP := Lib.hid fun W => picked_any a1 (k : Int) W HW1.out (by omega)
  obtain ⟨j, hj⟩ : ∃ j : Nat, pick a1 (k : Int) = (j : Int) := ⟨(pick a1 (k : Int)).toNat, by omega⟩
  rw [hj] at HP p1 p2
  have hjk : j < k := by omega
  have hjl : j < l.length := by rw [HK.out]; exact hjk
  have hyes := HYes.out j hjl
  obtain ⟨b, o, D, cc, e9, c0, -, -, -, -, -, -⟩ := HN6.out.cells j hjl
  have HCl := Lib.hid fun W (h : Below x6.heap.size x6 W) => (HN6.out.below h).cells j hjl
  have HFj := Lib.hid (HFy.out A2 c2 x6 (l[j]'hjl).path HS2.out (S.below HB6.out) HA6.out)
  rw [hyes] at HFj
  simp only at HFj
  subst e9
  have HKE := Lib.hid fun (D E : Option Addr) (c d : Nat) (W : World) (h : BytsAt W D (l[j]'hjl).data) (h' : BytsAt W E (l[j]'hjl).data) => keepEnt_any (l[j]'hjl) (l[j]'hjl) D E c d W h h'
  rw [decide_eq_true (rfl : (l[j]'hjl) = (l[j]'hjl))] at HKE
  clear hj p1 p2 hk0 hyes HYes HFy HN6 HA6
  generalize l[j] = y at *
  have HY : Hid (∀ D c, (entC y D c).toArray = #[.string (bs y.path), .int .i64 y.kind, .string (bs y.target), .int .i64 y.md.mode, .int .i64 y.md.uid, .int .i64 y.md.gid, .string (bs y.md.user), .string (bs y.md.group), .int .i64 y.md.second, .int .i64 y.md.nano, .slice D y.data.length c]) := fun _ _ => rfl
  simp only [HY.out] at HFj HKE
  obtain ⟨dl, HDL⟩ := hid_name y.data.length
  simp only [HDL.out] at HFj HKE HCl
  generalize bs y.path = P0 at *
  generalize bs y.target = P2 at *
  generalize bs y.md.user = P6 at *
  generalize bs y.md.group = P7 at *
  generalize y.kind = P1 at *
  generalize y.md.mode = P3 at *
  generalize y.md.uid = P4 at *
  generalize y.md.gid = P5 at *
  generalize y.md.second = P8 at *
  generalize y.md.nano = P9 at *
  clear HY
  go_wp2_with fail
  refine (HP.out _).mono ?_; rintro e x7 ⟨rfl, rfl⟩
  clear HP
  go_wp2_with fail
  refine HFj.out.mono ?_; rintro e x8 ⟨D8, c8, rfl, hd8, hb⟩
  have hal := (Below.refl x8.heap.size x8).alloc (Nat.le_refl _) (.cells #[.string P0, .int .i64 P1, .string P2, .int .i64 P3, .int .i64 P4, .int .i64 P5, .string P6, .string P7, .int .i64 P8, .int .i64 P9, .slice D8 dl c8] 34)
  have hab := hb.trans (hal.mono hb.size)
  have HB9 := Lib.hid (HB6.out.trans (hab.mono HB6.out.size))
  have HE9 := Lib.hid (Blk.new x8 34 #[.string P0, .int .i64 P1, .string P2, .int .i64 P3, .int .i64 P4, .int .i64 P5, .string P6, .string P7, .int .i64 P8, .int .i64 P9, .slice D8 dl c8])
  have HD9 := Lib.hid ((own_byts hd8).below hal)
  obtain ⟨b', o', D', cc', e9, r0, r1, r2, ⟨r3, r4, r5, r6, r7, r8, r9⟩, rA, hsD, hdD⟩ := HCl.out _ hab
  injection e9 with e9
  injection e9 with e1 e2 _
  subst e1 e2
  have HR9 := Lib.hid hdD
  clear hb hd8 hal hab hsD hdD HFj HCl c0 HB6
  go_upto_region 13 with fail
  generalize x8.alloc (.cells #[.string P0, .int .i64 P1, .string P2, .int .i64 P3, .int .i64 P4, .int .i64 P5, .string P6, .string P7, .int .i64 P8, .int .i64 P9, .slice D8 dl c8] 34) = x9 at HB9 HE9 HD9 HR9 r0 r1 r2 r3 r4 r5 r6 r7 r8 r9 rA ⊢
  generalize x8.heap.size = g8 at HE9 ⊢
  obtain ⟨⟨q0, q1, q2, q3, q4, q5, q6, q7, q8, q9, qA⟩, -⟩ := blk11 HE9.out
  have HK9 := Lib.hid fun W (h : Below x9.heap.size x9 W) => HKE.out D8 D' c8 cc' W (HD9.out.below h) (HR9.out.below h)
  clear HE9 HD9 HR9 HKE
  go_region_with
   (first
    | (go_at_call 21; refine (HK9.out _ (Below.refl _ _).drew).mono ?_; rintro e w4 ⟨rfl, hb4⟩))
  all_goals
   go_wp2_with fail
   go_ret
   exact ⟨rfl, HB9.out.trans ((show Below x9.heap.size x9 _ from (Below.refl _ _).drew.trans hb4).mono HB9.out.size)⟩
end Go.Proofs.YtmejnabngfpbeaaGreatDoor
