/- Sorting in place: merging where the second side has one node. -/
import Derived.Test.YtmgndhdikleagaaStbS
set_option linter.unusedVariables false
set_option maxRecDepth 100000
namespace Go.Proofs.Ytmgndhdikleagaa
open Go.RowKit Go.Shelf Go.Lib
open Go.OpenShut
open Go.Sort (grow grow_empty)
variable {P : Program} {k c : Nat} {ok : NodP → Prop} {w0 W : World} {B g n cap : Nat} {xs0 xs : List NodP} {T : List NodeV}
set_option maxHeartbeats 8000000 in
theorem symMerge_last (L : StbL P k c ok) (hok : ∀ y ∈ xs0, ok y) (hn : n ≤ 1000000000000000) (a m b : Nat) (ham : a + 1 < m) (hmb : b = m + 1) (hbn : b ≤ n) (T : List NodeV) (hs : Sorts (rng T a m)) (w : World) (h : SrtT w0 B g n cap xs0 T w) :
    Calls P 24 #[.slice (some ⟨g, 0, none⟩) n cap, .int .i64 a, .int .i64 m, .int .i64 b, .func (.func c) #[] #[]] w fun e w' => e = .returned (.tuple #[]) ∧ SrtT w0 B g n cap xs0 (srt T a b) w' := by
  have mixed := L.mixed; have t0 := L.t0; have a0 := L.a0; have z0 := L.z0; have v0 := L.v0; have t3 := L.t3; have a3 := L.a3; have z3 := L.z3; have v3 := L.v3; have t4 := L.t4; have a4 := L.a4; have z4 := L.z4; have v4 := L.v4; have t22 := L.t22; have a22 := L.a22; have z22 := L.z22; have v22 := L.v22; have t25 := L.t25; have a25 := L.a25; have z25 := L.z25; have v25 := L.v25; have aE := L.aE; have zE := L.zE; have tu := L.tu; have au := L.au; have zu := L.zu; have vu := L.vu
  have u22 := run_underlying L.t22
  have uu := run_underlying L.tu
  have u3 := run_underlying L.t3
  have eg := L.eg
  have hTn := h.len
  have HL : Aside _ := L
  have HOK := Lib.hid hok
  obtain ⟨y, hT, hr, hPl, hZl, -⟩ := srt_last T a m (by omega) (by omega)
  obtain ⟨S, hS⟩ : ∃ S, S = T.drop (m + 1) := ⟨_, rfl⟩
  obtain ⟨Pf, hPf⟩ : ∃ Pf, Pf = T.take a := ⟨_, rfl⟩
  obtain ⟨Z, hZ⟩ : ∃ Z, Z = rng T a m := ⟨_, rfl⟩
  have HE : Hid (srt T a b = Pf ++ sortT (Z ++ [y]) ++ S) := by unfold Hid srt puts; rw [hmb, hr, hPf, hS, hZ]
  rw [← hS, ← hPf, ← hZ] at hT
  rw [← hPf] at hPl
  rw [← hZ] at hZl hs
  obtain ⟨qm, hqm⟩ : ∃ qm, m = a + qm := ⟨m - a, by omega⟩
  have hT0 : T = mvR Pf y Z S qm := by rw [mvR_all _ _ _ _ (by omega)]; conv => lhs; rw [hT]
                                       simp only [List.append_assoc, List.singleton_append]
  rw [HE.out]
  have H0 : Hid (SrtT w0 B g n cap xs0 (mvR Pf y Z S qm) w) := by unfold Hid; rw [← hT0]; exact h
  have hA : pa (mvR Pf y Z S qm) m = y.path := by have := mvR_at Pf y Z S (k := qm) (by omega); rwa [hPl, ← hqm] at this
  have HC : Hid (∀ j (hj : j < Z.length), pa (mvR Pf y Z S qm) (a + j) = Z[j].path) := fun j hj => by
    rw [mvR_all _ _ _ _ (by omega), show Pf ++ (Z ++ [y]) ++ S = Pf ++ (Z ++ ([y] ++ S)) by simp only [List.append_assoc]]
    unfold pa
    rw [List.getElem?_append_right (by omega), hPl, Nat.add_sub_cancel_left, List.getElem?_append_left hj, List.getElem?_eq_getElem hj]
  have HZl : Hid (Z.length = qm) := by unfold Hid; omega
  have HPl := Lib.hid hPl
  have HSo := Lib.hid hs
  have HA := Lib.hid hA
  have HQM := Lib.hid hqm
  obtain ⟨d1, hd1⟩ : ∃ d1, d1 = m - a := ⟨_, rfl⟩
  have hm1 : IntKind.i64.wrap ((m : Int) - (a : Int)) = (d1 : Int) := by rw [IntKind.wrap_i64]; omega
  have hm2 : ((d1 : Int) == 1) = false := by simp; omega
  have hm3 : ¬ (d1 : Int) = 1 := by omega
  have hb1 : IntKind.i64.wrap ((b : Int) - (m : Int)) = 1 := by rw [IntKind.wrap_i64]; omega
  have ham2 : a < m := by omega
  have hmn : m < n := by omega
  clear h hok hTn hT hr hZ hs hS hPf HE hT0 hZl hPl hA ham hqm hd1 hmb hbn
  go_enter L.fsym, Try.ntmps24
  go_wp2
  go_loopw [14, 15] (fun iv jv wr => ∃ i j : Nat, iv = .int .i64 i ∧ jv = .int .i64 j ∧ a ≤ i ∧ i ≤ j ∧ j ≤ m ∧ Hid (Srch (fun q => !decide (pcmp y.path (pa (mvR Pf y Z S qm) q) < 0)) a m i j) ∧ Hid (SrtT w0 B g n cap xs0 (mvR Pf y Z S qm) wr)) (fun iv jv _ => (intOf jv).toNat - (intOf iv).toNat)
  case atStart => exact ⟨a, m, rfl, rfl, Nat.le_refl _, by omega, Nat.le_refl _, Srch.start _ (by omega), H0.out⟩
  case round =>
    obtain ⟨i, j, rfl, rfl, hmi, hij, hjb, HSr, HT⟩ := hrel
    by_cases hlt : i < j
    · obtain ⟨h, hh⟩ : ∃ h, h = (i + j) / 2 := ⟨_, rfl⟩
      have hih : i ≤ h := by omega
      have hhj : h < j := by omega
      have hhn : h < n := by omega
      obtain ⟨xs, hS, hm⟩ := HT.out
      obtain ⟨cI, cJ, l1, l2, hc, HG⟩ := hS.test HL HOK.out m h hmn hhn
      rw [hm, HA.out] at hc
      have HG2 : Hid (∀ q os, SrtT w0 B g n cap xs0 (mvR Pf y Z S qm) (grow (wr.drewN q) os)) := fun q os => ⟨xs, HG.out q os, hm⟩
      obtain ⟨v, hv⟩ : ∃ v, v = pcmp y.path (pa (mvR Pf y Z S qm) h) := ⟨_, rfl⟩
      rw [← hv] at hc
      have HUp : Hid (¬ v < 0 → Srch (fun q => !decide (pcmp y.path (pa (mvR Pf y Z S qm) q) < 0)) a m (h + 1) j) := fun hl => HSr.out.up hih hhj (by simp only [← hv]; rw [decide_eq_false hl]; rfl)
      have HDn : Hid (v < 0 → Srch (fun q => !decide (pcmp y.path (pa (mvR Pf y Z S qm) q) < 0)) a m i h) := fun hl => HSr.out.down hih hhj (by simp only [← hv]; rw [decide_eq_true hl]; rfl)
      obtain ⟨s, hs⟩ : ∃ s, s = i + j := ⟨_, rfl⟩
      have wS : IntKind.i64.wrap ((i : Int) + (j : Int)) = (s : Int) := by rw [IntKind.wrap_i64]; omega
      have wU : IntKind.u64.wrap (s : Int) = (s : Int) := by rw [IntKind.wrap_u64]; omega
      have hH2 : (s : Int) / 2 = (h : Int) := by omega
      have hs2 : s ≤ 2000000000000000 := by omega
      clear hS hm hv HG hh HT HSr hs
      by_cases hlv : v < 0
      · have HU := Lib.hid (HDn.out hlv)
        clear HUp HDn
        go_wp2_with fail
        go_quiet_grown (first | (go_at_fn c; refine Calls.grown_of (hc _ _)))
        have h2 := Lib.hid (HG2.out nq osq)
        clear l1 l2 hc HG2
        go_wp2
        go_roundw
        case rel => exact ⟨i, h, rfl, rfl, hmi, by omega, by omega, HU, h2⟩
        case measure => simp [intOf]; omega
      · have HU := Lib.hid (HUp.out hlv)
        have hd0 : decide (v < 0) = false := decide_eq_false hlv
        have hd1 : (!decide (v < 0)) = true := by rw [hd0]; rfl
        clear HUp HDn
        go_wp2_with fail
        go_quiet_grown (first | (go_at_fn c; refine Calls.grown_of (hc _ _)))
        have h2 := Lib.hid (HG2.out nq osq)
        clear l1 l2 hc HG2
        go_wp2
        go_roundw
        case rel => exact ⟨h + 1, j, by go_num, rfl, by omega, by omega, hjb, HU, h2⟩
        case measure => simp [intOf]; omega
    · obtain rfl : i = j := by omega
      obtain ⟨q, hq⟩ : ∃ q, i = a + q := ⟨i - a, by omega⟩
      have hqZ : q ≤ Z.length := by have := HZl.out; have := HQM.out; omega
      have HIns : Hid (mvR Pf y Z S q = Pf ++ sortT (Z ++ [y]) ++ S) := by
        obtain ⟨-, -, -, g1, g2⟩ := HSr.out
        unfold Hid
        have h1 : ∀ j (hj : j < Z.length), j + 1 = q → pcmp Z[j].path y.path ≤ 0 := by
          intro j' hj' e
          have h3 := g1.resolve_left (by omega)
          have h4 : ¬ pcmp y.path (pa (mvR Pf y Z S qm) (i - 1)) < 0 := by simpa using h3
          rw [show i - 1 = a + j' by omega, HC.out j' hj'] at h4
          have := pcmp_neg y.path Z[j'].path
          omega
        have h2 : ∀ z ∈ Z.drop q, pcmp y.path z.path < 0 := by
          intro z hz
          obtain ⟨t, ht, rfl⟩ := List.mem_drop_iff_getElem.1 hz
          have hqlt : q < Z.length := by omega
          have h3 := g2.resolve_left (by have := HZl.out; have := HQM.out; omega)
          have h4 : pcmp y.path (pa (mvR Pf y Z S qm) i) < 0 := by simpa using h3
          rw [hq, HC.out q hqlt] at h4
          exact pcmp_lt_le h4 (sorts_get HSo.out q (q + t) hqlt (by omega) (by omega))
        rw [ins_left HSo.out y q hqZ h1 h2]
        unfold mvR; simp only [List.append_assoc, List.cons_append]
      have HQ := Lib.hid hq
      obtain ⟨wo, hwo⟩ : ∃ wo, wo = wr := ⟨_, rfl⟩
      subst hwo
      clear HSr hq hqZ H0
      go_wp2
      go_loopw [17] (fun kv wr => ∃ kk p : Nat, kv = .int .i64 kk ∧ Hid (kk = a + p) ∧ Hid (q ≤ p ∧ p ≤ qm) ∧ i ≤ kk ∧ kk ≤ m ∧ Hid (SrtT w0 B g n cap xs0 (mvR Pf y Z S p) wr)) (fun kv _ => (intOf kv).toNat)
      case atStart => exact ⟨m, qm, rfl, HQM.out, ⟨by have := HQ.out; have := HQM.out; omega, Nat.le_refl _⟩, hjb, Nat.le_refl _, HT.out⟩
      case round =>
        obtain ⟨kk, p, rfl, HK, HP, hki, hkm, HX⟩ := hrel
        by_cases hlt : i < kk
        · obtain ⟨xs, hS, hm⟩ := HX.out
          obtain ⟨k1, hk1⟩ : ∃ k1, kk = k1 + 1 := ⟨kk - 1, by omega⟩
          obtain ⟨p1, hp1⟩ : ∃ p1, p = p1 + 1 := ⟨p - 1, by have := HQ.out; have := HK.out; omega⟩
          have hkn : kk < n := by omega
          have hk1n : k1 < n := by omega
          have wK : IntKind.i64.wrap ((kk : Int) - 1) = (k1 : Int) := by rw [IntKind.wrap_i64]; omega
          have hgt : (kk : Int) > (i : Int) := by omega
          obtain ⟨cI2, cJ2, e1, e2, l1, l2, s1, s2, HXX⟩ := hS.exch HL HOK.out kk k1 hkn hk1n
          have HT2 : Hid (SrtT w0 B g n cap xs0 (mvR Pf y Z S p1) ((wr.drew.setCells g (kk * k) cJ2).setCells g (k1 * k) cI2)) := ⟨_, HXX.out, by
            rw [swX_map, hm]
            have := mvR_left Pf y Z S (k := p1) (by have := HZl.out; have := HP.out; omega)
            rw [HPl.out] at this
            have e3 : kk = a + p1 + 1 := by have := HK.out; omega
            have e4 : k1 = a + p1 := by have := HK.out; omega
            rw [hp1, e3, e4]; exact this⟩
          have HK2 : Hid (k1 = a + p1) := by unfold Hid; have := HK.out; omega
          have HP2 : Hid (q ≤ p1 ∧ p1 ≤ qm) := by
            have h1 := HQ.out
            have h2 := HK.out
            have h3 := HP.out
            exact ⟨by omega, by omega⟩
          have hk1i : i ≤ k1 := by omega
          have hk1m : k1 ≤ m := by omega
          have hkk1 : k1 < kk := by omega
          clear hS hm hk1 HXX HK HP HX HT hp1
          go_wp2_with fail
          go_big_region_o
          all_goals go_wp2
          go_roundw
          case rel => exact ⟨k1, p1, by go_num, HK2.out, HP2.out, hk1i, hk1m, HT2⟩
          case measure => simp [intOf]; omega
        · have hpq : p = q := by have := HQ.out; have := HK.out; have := HP.out; omega
          have hf := HX.out
          rw [hpq, HIns.out] at hf
          have HF := Lib.hid hf
          clear hf hpq HX HK HP HT
          go_wp2
          (try simp only [Exit.inBlock, Exit.then]); refine bodyPost_ret (results_none rfl _ _ _) rfl ?_
          exact ⟨rfl, HF.out⟩
end Go.Proofs.Ytmgndhdikleagaa
