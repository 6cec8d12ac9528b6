/- Sorting in place: merging where one side has one node. -/
import Derived.Test.YtmgndhdikleagaaStbR
set_option linter.unusedVariables false
set_option maxRecDepth 100000
namespace Go.Proofs.Ytmgndhdikleagaa
open Go.RowKit Go.Shelf Go.Lib
open Go.OpenShut
open Go.Sort (grow grow_empty)
variable {P : Program} {k c : Nat} {ok : NodP → Prop} {w0 W : World} {B g n cap : Nat} {xs0 xs : List NodP} {T : List NodeV}
theorem srt_split (T : List NodeV) (a b : Nat) (hab : a < b) (hb : b ≤ T.length) : ∃ x Y, T = T.take a ++ x :: Y ++ T.drop b ∧ Y.length = b - (a + 1) ∧ rng T (a + 1) b = Y ∧ rng T a b = x :: Y ∧ (T.take a).length = a := by
  have l0 : (T.take a).length = a := by rw [List.length_take]; omega
  have hl := rng_len T a b hb
  cases hr : rng T a b with
  | nil => rw [hr] at hl; simp at hl; omega
  | cons x Y =>
    rw [hr] at hl
    have hY : Y.length = b - (a + 1) := by rw [List.length_cons] at hl; omega
    have hT : T = T.take a ++ x :: Y ++ T.drop b := by rw [← hr]; exact cut_rng T a b (by omega)
    refine ⟨x, Y, hT, hY, ?_, rfl, l0⟩
    refine rng_eq (P := T.take a ++ [x]) (S := T.drop b) ?_ (by rw [List.length_append, l0]; rfl) (by rw [List.length_append, l0, List.length_singleton]; omega)
    conv => lhs; rw [hT]
    simp only [List.append_assoc, List.cons_append, List.nil_append]
theorem srt_last (T : List NodeV) (a m : Nat) (ham : a ≤ m) (hm : m < T.length) : ∃ y, T = T.take a ++ rng T a m ++ y :: T.drop (m + 1) ∧ rng T a (m + 1) = rng T a m ++ [y] ∧ (T.take a).length = a ∧ (rng T a m).length = m - a ∧ y = T[m] := by
  refine ⟨T[m], ?_, ?_, by rw [List.length_take]; omega, rng_len T a m (by omega), rfl⟩
  · rw [← List.drop_eq_getElem_cons hm]; exact cut_rng T a m ham
  · unfold rng
    rw [List.take_succ_eq_append_getElem hm, List.drop_append_of_le_length (by rw [List.length_take]; omega)]
set_option maxHeartbeats 8000000 in
theorem symMerge_one (L : StbL P k c ok) (hok : ∀ y ∈ xs0, ok y) (hn : n ≤ 1000000000000000) (a m b : Nat) (ham : m = a + 1) (hmb : m < b) (hbn : b ≤ n) (T : List NodeV) (hs : Sorts (rng T m b)) (w : World) (h : SrtT w0 B g n cap xs0 T w) :
    Calls P 24 #[.slice (some ⟨g, 0, none⟩) n cap, .int .i64 a, .int .i64 m, .int .i64 b, .func (.func c) #[] #[]] w fun e w' => e = .returned (.tuple #[]) ∧ SrtT w0 B g n cap xs0 (srt T a b) w' := by
  have mixed := L.mixed; have t0 := L.t0; have a0 := L.a0; have z0 := L.z0; have v0 := L.v0; have t3 := L.t3; have a3 := L.a3; have z3 := L.z3; have v3 := L.v3; have t4 := L.t4; have a4 := L.a4; have z4 := L.z4; have v4 := L.v4; have t22 := L.t22; have a22 := L.a22; have z22 := L.z22; have v22 := L.v22; have t25 := L.t25; have a25 := L.a25; have z25 := L.z25; have v25 := L.v25; have aE := L.aE; have zE := L.zE; have tu := L.tu; have au := L.au; have zu := L.zu; have vu := L.vu
  have u22 := run_underlying L.t22
  have uu := run_underlying L.tu
  have u3 := run_underlying L.t3
  have eg := L.eg
  have hTn := h.len
  have HL : Aside _ := L
  have HOK := Lib.hid hok
  obtain ⟨x, Y, hT, hYl, hr, hr2, hPl⟩ := srt_split T a b (by omega) (by omega)
  rw [ham, hr] at hs
  obtain ⟨S, hS⟩ : ∃ S, S = T.drop b := ⟨_, rfl⟩
  obtain ⟨Pf, hPf⟩ : ∃ Pf, Pf = T.take a := ⟨_, rfl⟩
  have HE : Hid (srt T a b = Pf ++ sortT (x :: Y) ++ S) := by unfold Hid srt puts; rw [hr2, hPf, hS]
  rw [← hS, ← hPf] at hT
  rw [← hPf] at hPl
  have hT0 : T = mvR Pf x Y S 0 := by rw [mvR_zero]; exact hT
  rw [HE.out]
  have H0 : Hid (SrtT w0 B g n cap xs0 (mvR Pf x Y S 0) w) := by unfold Hid; rw [← hT0]; exact h
  have hA : pa (mvR Pf x Y S 0) a = x.path := by have := mvR_at Pf x Y S (k := 0) (Nat.zero_le _); rwa [hPl] at this
  have HC : Hid (∀ j (hj : j < Y.length), pa (mvR Pf x Y S 0) (m + j) = Y[j].path) := fun j hj => by
    have hl : (Pf ++ [x]).length = m := by rw [List.length_append, hPl]; exact ham.symm
    rw [mvR_zero, show Pf ++ x :: Y ++ S = (Pf ++ [x]) ++ (Y ++ S) by simp only [List.append_assoc, List.cons_append, List.nil_append]]
    unfold pa
    rw [List.getElem?_append_right (by omega), hl, Nat.add_sub_cancel_left, List.getElem?_append_left hj, List.getElem?_eq_getElem hj]
  have HYl := Lib.hid hYl
  have HPl := Lib.hid hPl
  have HSo := Lib.hid hs
  have HA := Lib.hid hA
  have HAM := Lib.hid ham
  have hm1 : IntKind.i64.wrap ((m : Int) - (a : Int)) = 1 := by rw [IntKind.wrap_i64]; omega
  have hab : a < m := by omega
  clear h hok hTn hT hr hr2 hs hS hPf HE hT0 hYl hPl hA ham
  go_enter L.fsym, Try.ntmps24
  go_wp2
  go_loopw [10, 11] (fun iv jv wr => ∃ i j : Nat, iv = .int .i64 i ∧ jv = .int .i64 j ∧ m ≤ i ∧ i ≤ j ∧ j ≤ b ∧ Hid (Srch (fun q => decide (pcmp (pa (mvR Pf x Y S 0) q) x.path < 0)) m b i j) ∧ Hid (SrtT w0 B g n cap xs0 (mvR Pf x Y S 0) wr)) (fun iv jv _ => (intOf jv).toNat - (intOf iv).toNat)
  case atStart => exact ⟨m, b, rfl, rfl, Nat.le_refl _, by omega, Nat.le_refl _, Srch.start _ (by omega), H0.out⟩
  case round =>
    obtain ⟨i, j, rfl, rfl, hmi, hij, hjb, HSr, HT⟩ := hrel
    by_cases hlt : i < j
    · obtain ⟨h, hh⟩ : ∃ h, h = (i + j) / 2 := ⟨_, rfl⟩
      have hih : i ≤ h := by omega
      have hhj : h < j := by omega
      have hhn : h < n := by omega
      have han : a < n := by omega
      have hH : ((i : Int) + (j : Int)) / 2 = (h : Int) := by omega
      obtain ⟨xs, hS, hm⟩ := HT.out
      obtain ⟨cI, cJ, l1, l2, hc, HG⟩ := hS.test HL HOK.out h a hhn han
      rw [hm, HA.out] at hc
      have HG2 : Hid (∀ q os, SrtT w0 B g n cap xs0 (mvR Pf x Y S 0) (grow (wr.drewN q) os)) := fun q os => ⟨xs, HG.out q os, hm⟩
      obtain ⟨v, hv⟩ : ∃ v, v = pcmp (pa (mvR Pf x Y S 0) h) x.path := ⟨_, rfl⟩
      rw [← hv] at hc
      have HUp : Hid (v < 0 → Srch (fun q => decide (pcmp (pa (mvR Pf x Y S 0) q) x.path < 0)) m b (h + 1) j) := fun hl => HSr.out.up hih hhj (by simp only [← hv]; exact decide_eq_true hl)
      have HDn : Hid (¬ v < 0 → Srch (fun q => decide (pcmp (pa (mvR Pf x Y S 0) q) x.path < 0)) m b i h) := fun hl => HSr.out.down hih hhj (by simp only [← hv]; exact decide_eq_false hl)
      obtain ⟨s, hs⟩ : ∃ s, s = i + j := ⟨_, rfl⟩
      have wS : IntKind.i64.wrap ((i : Int) + (j : Int)) = (s : Int) := by rw [IntKind.wrap_i64]; omega
      have wU : IntKind.u64.wrap (s : Int) = (s : Int) := by rw [IntKind.wrap_u64]; omega
      have hH2 : (s : Int) / 2 = (h : Int) := by omega
      have hs2 : s ≤ 2000000000000000 := by omega
      clear hS hm hv HG hh HT HSr hH hs
      by_cases hlv : v < 0
      · have HU := Lib.hid (HUp.out hlv)
        clear HUp HDn
        go_wp2_with fail
        go_quiet_grown (first | (go_at_fn c; refine Calls.grown_of (hc _ _)))
        have h2 := Lib.hid (HG2.out nq osq)
        clear l1 l2 hc HG2
        go_wp2
        go_roundw
        case rel => exact ⟨h + 1, j, by go_num, rfl, by omega, by omega, hjb, HU, h2⟩
        case measure => simp [intOf]; omega
      · have HU := Lib.hid (HDn.out hlv)
        clear HUp HDn
        go_wp2_with fail
        go_quiet_grown (first | (go_at_fn c; refine Calls.grown_of (hc _ _)))
        have h2 := Lib.hid (HG2.out nq osq)
        clear l1 l2 hc HG2
        go_wp2
        go_roundw
        case rel => exact ⟨i, h, rfl, rfl, hmi, by omega, by omega, HU, h2⟩
        case measure => simp [intOf]; omega
    · obtain rfl : i = j := by omega
      obtain ⟨q, hq⟩ : ∃ q, i = m + q := ⟨i - m, by omega⟩
      have hqY : q ≤ Y.length := by have := HYl.out; omega
      have HIns : Hid (mvR Pf x Y S q = Pf ++ sortT (x :: Y) ++ S) := by
        obtain ⟨-, -, -, g1, g2⟩ := HSr.out
        unfold Hid
        rw [ins_right HSo.out x q hqY]
        · unfold mvR; simp only [List.append_assoc, List.cons_append]
        · intro j' hj' e
          have h3 := g1.resolve_left (by omega)
          have h4 : pcmp (pa (mvR Pf x Y S 0) (i - 1)) x.path < 0 := of_decide_eq_true h3
          rw [show i - 1 = m + j' by omega, HC.out j' hj'] at h4
          exact h4
        · intro hj'
          have h3 := g2.resolve_left (by have := HYl.out; have := HAM.out; omega)
          have h4 : ¬ pcmp (pa (mvR Pf x Y S 0) i) x.path < 0 := of_decide_eq_false h3
          rw [hq, HC.out q hj'] at h4
          exact h4
      obtain ⟨i1, hi1⟩ : ∃ i1, i1 = a + q := ⟨_, rfl⟩
      have hAM := HAM.out
      have wI : IntKind.i64.wrap ((i : Int) - 1) = (i1 : Int) := by rw [IntKind.wrap_i64]; omega
      have hi1n : i1 < n := by omega
      have HI1 := Lib.hid hi1
      have HQY := Lib.hid hqY
      obtain ⟨wo, hwo⟩ : ∃ wo, wo = wr := ⟨_, rfl⟩
      subst hwo
      clear HSr hq hqY hi1 hAM HAM H0
      go_wp2
      go_loopw [13] (fun kv wr => ∃ kk p : Nat, kv = .int .i64 kk ∧ Hid (kk = a + p) ∧ Hid (p ≤ q) ∧ kk ≤ i1 ∧ Hid (SrtT w0 B g n cap xs0 (mvR Pf x Y S p) wr)) (fun kv _ => i1 - (intOf kv).toNat)
      case atStart => exact ⟨a, 0, rfl, rfl, Nat.zero_le _, by have := HI1.out; omega, HT.out⟩
      case round =>
        obtain ⟨kk, p, rfl, HK, HP, hki, HX⟩ := hrel
        by_cases hlt : kk < i1
        · obtain ⟨xs, hS, hm⟩ := HX.out
          obtain ⟨k1, hk1⟩ : ∃ k1, k1 = kk + 1 := ⟨_, rfl⟩
          have hkn : kk < n := by omega
          have hk1n : k1 < n := by omega
          have wK : IntKind.i64.wrap ((kk : Int) + 1) = (k1 : Int) := by rw [IntKind.wrap_i64]; omega
          obtain ⟨cI2, cJ2, e1, e2, l1, l2, s1, s2, HXX⟩ := hS.exch HL HOK.out kk k1 hkn hk1n
          have hpq : p < q := by have := HI1.out; have := HK.out; omega
          have HT2 : Hid (SrtT w0 B g n cap xs0 (mvR Pf x Y S (p + 1)) ((wr.drew.setCells g (kk * k) cJ2).setCells g (k1 * k) cI2)) := ⟨_, HXX.out, by
            rw [swX_map, hm]
            have := mvR_right Pf x Y S (k := p) (by have := HQY.out; omega)
            rw [HPl.out] at this
            rw [hk1, HK.out]; exact this⟩
          have HK2 : Hid (k1 = a + (p + 1)) := by unfold Hid; rw [hk1, HK.out]; omega
          have HP2 : Hid (p + 1 ≤ q) := hpq
          have hk1i : k1 ≤ i1 := by omega
          have hkk1 : kk < k1 := by omega
          clear hS hm hk1 HXX hpq HK HP HX HT
          go_wp2_with fail
          go_big_region_o
          all_goals go_wp2
          go_roundw
          case rel => exact ⟨k1, p + 1, by go_num, HK2.out, HP2.out, hk1i, HT2⟩
          case measure => simp [intOf]; omega
        · have hpq : p = q := by have := HI1.out; have := HK.out; have := HP.out; omega
          have hf := HX.out
          rw [hpq, HIns.out] at hf
          have HF := Lib.hid hf
          clear hf hpq HX HK HP HT
          go_wp2
          (try simp only [Exit.inBlock, Exit.then]); refine bodyPost_ret (results_none rfl _ _ _) rfl ?_
          exact ⟨rfl, HF.out⟩
end Go.Proofs.Ytmgndhdikleagaa
