/- WriteFront: with more members behind them an archive begins as it did. -/
import Derived.Test.YtldffnmoafhidaaGreatDoorArx
import Derived.Test.YtldffnmoafhidaaGreatDoorEofA
import Derived.Test.YtldffnmoafhidaaGreatDoorPda
import Derived.Test.YtldffnmoafhidaaGreatDoorTrm
import Derived.BigQuiet
set_option linter.unusedVariables false
set_option maxRecDepth 100000
namespace Go.Proofs.YtldffnmoafhidaaGreatDoor
open Go.RowKit
open Go.OpenShut
set_option maxHeartbeats 4000000 in
theorem WriteFront_walk (A0 : Option Addr) (n0 c0 : Nat) (rs0 : List RawV) (a1 : Int) (hn0 : rs0.length = n0) (hm0 : n0 ≤ 140737488355328) (hf0 : ∀ r ∈ rs0, r.wf) (w1 : (Lit.int .i64 a1).wf = true) (w : World) (hr0 : RawsAt w A0 rs0) (hL : laidMetH Tryz.prog Rows.writeFrontRow.laid w) :
    Calls Tryz.prog 7 #[.slice A0 n0 c0, .int .i64 a1] w fun e w' => e = .returned (.bool true) ∧ Below w.heap.size w w' := by
  have T : Tab w := tab_of_laid hL (by kernel_rfl) (by simp [Rows.writeFrontRow])
  have HD := Lib.hid (entsOf_any A0 n0 c0 rs0 hn0 hm0 hf0 20 (by omega) w hr0)
  simp only [show ((20 : Nat) : Int) = 20 from rfl] at HD
  have HW1 := Lib.hid w1
  clear hn0 hm0 hf0 hr0 hL w1
  go_enter Tryz.func7, Tryz.ntmps7
  go_wp2_with fail
  refine HD.out.mono ?_; rintro e x1 ⟨l, T1, k, d, rfl, hk, hS, hN, hkm, hE, hsz, hB⟩
  have HB1 := Lib.hid hB
  obtain ⟨p1, p2⟩ := pick_bd a1 ((k : Int) + 1) (by omega)
  have HP := Lib.hid fun W => picked_any a1 ((k : Int) + 1) W HW1.out (by omega)
  obtain ⟨j, hj⟩ : ∃ j : Nat, pick a1 ((k : Int) + 1) = (j : Int) := ⟨(pick a1 ((k : Int) + 1)).toNat, by omega⟩
  rw [hj] at HP p1 p2
  have hjk : j ≤ k := by omega
  have hk20 : k ≤ 20 := hkm
  clear p1 p2
  have hlt : (l.take j).length = j := by rw [List.length_take]; omega
  have hEj := ents_front hE j
  have hSj : SlOk T1 j d := ⟨by have := hS.1; omega, hS.2⟩
  have H2 := Lib.hid fun W (h : Below x1.heap.size x1 W) => wArch_any T1 j d (l.take j) hlt hSj (fun x hx => hsz x (List.mem_of_mem_take hx)) W (T.below (hB.trans (h.mono hB.size))) ((hN.below h).take j)
  have H3 := Lib.hid fun W (h : Below x1.heap.size x1 W) => wArch_any T1 k d l hk hS hsz W (T.below (hB.trans (h.mono hB.size))) (hN.below h)
  have H4 := Lib.hid fun W (h : Below x1.heap.size x1 W) => wPlac_any T1 k d l hk hS hsz W (T.below (hB.trans (h.mono hB.size))) (hN.below h)
  rw [hEj] at H2
  rw [hE] at H3 H4
  have hs0 := fun W => eslice_to W T1 k d j (by have := hS.1; omega)
  have hl1 := arcE_len hEj
  have hl2 := arcE_len hE
  obtain ⟨f1, f2, f3⟩ := arc_front hE j
  have hlim := arc_bd hE j
  have hlim2 := arcE_lim hE
  have hpl := plcA_len l hE
  have hpj : ∀ (h : j < (plcA l).length), (plcA l)[j]'h = ((arcB (l.take j)).length : Int) := fun h => by
    simp only [plcA_ok hE]
    rw [plcN_at l _ j (by omega)]
  rw [hk] at hpl
  have HPj := Lib.hid hpj
  obtain ⟨p, hp⟩ : ∃ p, (arcB (l.take j)).length = p := ⟨_, rfl⟩
  rw [hp] at hl1 f1 f2 f3 hlim
  simp only [hp] at HPj
  have HF1 := Lib.hid f1
  have HF2 := Lib.hid f2
  generalize arcE (l.take j) = A1 at H2 hl1 HF2
  generalize arcE l = A2 at H3 hl2 HF1 f3 hlim2
  generalize arcB (l.take j) = AF at HF1 HF2
  generalize plcA l = PL at H4 hpl HPj
  obtain ⟨nb, hnb⟩ : ∃ nb, A2.length = nb := ⟨_, rfl⟩
  rw [hnb] at f3 hlim2
  have HNB := Lib.hid hnb
  have HL1 := Lib.hid hl1
  have HF3 := Lib.hid f3
  have HPL := Lib.hid hpl
  have HLM := Lib.hid hlim
  have HLM2 := Lib.hid hlim2
  have HJK := Lib.hid hjk
  clear hl1 f3 hpl hlim hlim2 hjk hk hS hN hE hEj hSj hlt hsz hB HD f1 f2 hpj hp hj hl2 hnb hkm
  go_wp2_with fail
  refine (HP.out _).mono ?_; rintro e W ⟨rfl, rfl⟩
  clear HP
  go_wp2_with fail
  refine (H2.out _ (Below.refl _ _)).mono ?_; rintro e x2 ⟨v2, rfl, ho, hb⟩
  obtain ⟨D2, d2, rfl, hs2, hd2⟩ := ho.form
  rw [HL1.out] at hs2 ⊢
  have HA2 := Lib.hid hd2
  have HS2 := Lib.hid hs2
  have HX2 := Lib.hid hb
  clear ho hb hd2 hs2 H2
  go_wp2_with fail
  refine (H3.out _ HX2.out).mono ?_; rintro e x3 ⟨v3, rfl, ho, hb⟩
  obtain ⟨D3, d3, rfl, hs3, hd3⟩ := ho.form
  rw [HNB.out] at hs3 ⊢
  have HA3 := Lib.hid (HA2.out.below hb)
  have HB3 := Lib.hid hd3
  have HS3 := Lib.hid hs3
  have HX3 := Lib.hid (HX2.out.trans (hb.mono HX2.out.size))
  clear ho hb hd3 hs3 H3 HA2 HX2
  go_wp2_with fail
  refine (H4.out _ HX3.out).mono ?_; rintro e x4 ⟨v4, rfl, ho, hb⟩
  obtain ⟨D4, d4, rfl, hd4⟩ := ho.at
  rw [HPL.out]
  have ha := HA3.out.below hb
  have hbb := HB3.out.below hb
  have HX4 := Lib.hid (HB1.out.trans ((HX3.out.trans (hb.mono HX3.out.size)).mono HB1.out.size))
  have hjk := HJK.out
  have hpl := HPL.out
  have hl1 := HL1.out
  have f3 := HF3.out
  have hlim := HLM.out
  have hlim2 := HLM2.out
  obtain ⟨b, o, hD4, c4⟩ := hd4 j (by omega)
  rw [HPj.out (by omega)] at c4
  subst hD4
  have s2 := fun W : World => slice_to W D2 (p + 1024) d2 p (by have := HS2.out.1; omega)
  have s3 := fun W : World => slice_to W D3 nb d3 p (by have := HS3.out.1; omega)
  have k2 : ∀ q, (convert 22 9 (.slice D2 p d2)).run Tryz.prog (x4.drewN q) = .ok (.string (bs AF)) (x4.drewN q) := fun q => by
    have h := BytsAt.conv (w := x4.drewN q) (ha.take p) d2 (fun e => by have h1 := HS2.out.2.2 e; have h2 := HS2.out.1; exfalso; omega)
    rw [List.length_take, hl1, Nat.min_eq_left (by omega), HF2.out] at h; exact h
  have k3 : ∀ q, (convert 22 9 (.slice D3 p d3)).run Tryz.prog (x4.drewN q) = .ok (.string (bs AF)) (x4.drewN q) := fun q => by
    have h := BytsAt.conv (w := x4.drewN q) (hbb.take p) d3 (fun e => by have h1 := HS3.out.2.2 e; have h2 := HS3.out.1; rw [show p = 0 by omega, List.take_zero])
    rw [List.length_take, HNB.out, Nat.min_eq_left (by omega), HF1.out] at h; exact h
  generalize bs AF = ST at k2 k3
  have c4' : ∀ q, (x4.drewN q).cell? ⟨b, o + j, none⟩ = some (.int .i64 (p : Int)) := fun q => c4
  have t2 : (p : Int) ≤ (nb : Int) := by omega
  have hjl : j < k + 1 := by omega
  have hw1 : IntKind.i64.wrap ((p : Int) + 1024) = (p : Int) + 1024 := by rw [IntKind.wrap_i64]; omega
  have hw2 : IntKind.i64.wrap ((k : Int) + 1) = (k : Int) + 1 := by rw [IntKind.wrap_i64]; omega
  clear hlim hlim2 hl1 hpl HLM HLM2 HL1 HF3 HPL HJK f3 hjk
  clear ho hb hd4 ha hbb H4 HA3 HB3 HS2 HS3 HPj HF1 HF2 HNB
  go_upto_region 6 with fail
  go_quiet (fail)
  go_wp2_with fail
  go_ret
  exact ⟨rfl, below_drewN HX4.out _⟩
end Go.Proofs.YtldffnmoafhidaaGreatDoor
