/- The law LinkGroups. -/
import Derived.Test.YtoplcelimdkjeaaDoorLnkG
set_option linter.unusedVariables false
set_option maxRecDepth 100000
namespace Go.Proofs.YtoplcelimdkjeaaDoor
open Go.RowKit
open Go.OpenShut
theorem groups_at {l : List NodeV} (hS : Sound l) {i : Nat} (hi : i < l.length) : firstF l i ≤ i ∧ firstF l (firstF l i) = firstF l i ∧ (firstF l i < i → sameAt l i ≠ 0 ∧ sameAt l (firstF l i) = sameAt l i ∧ ∀ h : firstF l i < l.length, l[firstF l i].data = l[i].data) := by
  obtain ⟨h1, h2, h3⟩ := firstF_spec l i
  refine ⟨h1, firstF_first l i, fun hlt => ?_⟩
  have he := h2 hlt
  obtain ⟨a, b⟩ : sameAt l i ≠ 0 ∧ sameAt l (firstF l i) = sameAt l i := of_decide_eq_true he
  exact ⟨a, b, fun h => (eqF_data hS h hi he).2⟩
set_option maxHeartbeats 2000000 in
theorem LinkGroups_walk (A0 : Option Addr) (n0 c0 : Nat) (rs0 : List RawV) (hn0 : rs0.length = n0) (hm0 : n0 ≤ 140737488355328) (hf0 : ∀ r ∈ rs0, r.wf) (w : World) (hr0 : RawsAt w A0 rs0) :
    Calls Tryd.prog 5 #[.slice A0 n0 c0] w fun e w' => e = .returned (.bool true) ∧ Below w.heap.size w w' := by
  have HD := Lib.hid (drawn_any A0 n0 c0 rs0 hn0 hm0 hf0 30 (by omega) w hr0)
  clear hn0 hf0 hr0
  go_enter Tryd.func5, Tryd.ntmps5
  go_wp2_with fail
  refine HD.out.mono ?_; rintro e w1 ⟨l, T, k, d, rfl, hk, -, hS, hN, hk30, hSo, hsz, hB⟩
  have ht := sound_tree hSo (by omega)
  have HT3 := Lib.hid fun (g : Nat) (W : World) (hN : NodesAt W (some ⟨g, 0, none⟩) [smA, smB, smC]) => by
    have h := lFirsts_any (some ⟨g, 0, none⟩) 3 3 [smA, smB, smC] rfl ⟨Nat.le_refl _, by decide, fun e => by cases e⟩ sm_sz3 W hN
    rw [sm_tree3, if_pos rfl, sm_fs] at h
    exact h
  have h1 := lFirsts_any T k d l hk hS hsz w1 hN
  rw [ht, if_pos rfl] at h1
  have H1 := Lib.hid h1
  have HG := Lib.hid fun i (hi : i < l.length) => groups_at hSo hi
  have HB1 := Lib.hid hB
  have HN1 := Lib.hid hN
  have HK := Lib.hid hk
  have HFL : Hid ((fsL l).length = k) := by unfold Hid; rw [fsL_len]; exact hk
  clear hB hN hk hS hSo hsz ht h1 HD
  go_wp2_with fail
  refine H1.out.mono ?_; rintro e w2 ⟨v, rfl, ho, hb⟩
  obtain ⟨A1, c1, rfl, hN1⟩ := ho.at
  rw [HFL.out]
  have HF2 := Lib.hid hN1
  have HN2 := Lib.hid (HN1.out.below hb)
  have HB2 := Lib.hid (HB1.out.trans (hb.mono HB1.out.size))
  clear ho hb hN1 H1 HN1
  go_wp2_with fail
  refine (small_any _).mono ?_; rintro e w3 ⟨g, rfl, hNs, hb⟩
  have H3 := Lib.hid (HT3.out g w3 hNs)
  have HF3 := Lib.hid (HF2.out.below hb)
  have HN3 := Lib.hid (HN2.out.below hb)
  have HB3 := Lib.hid (HB2.out.trans (hb.mono HB2.out.size))
  clear hNs hb HF2 HN2
  go_wp2_with fail
  refine H3.out.mono ?_; rintro e w4 ⟨v, rfl, ho, hb⟩
  obtain ⟨A4, c4, hv4, hN4⟩ := ho.at
  have hv4' : v = .slice A4 3 c4 := hv4
  clear hv4
  subst hv4'
  have HE4 := Lib.hid fun W (h : Below w4.heap.size w4 W) (h2 : NumsAt W (some ⟨w4.heap.size, 0, none⟩) [0, 1, 2]) => by
    have h := equalInts_any A4 (some ⟨w4.heap.size, 0, none⟩) 3 c4 3 3 [0, 1, 2] [0, 1, 2] rfl rfl (by decide) (by decide) W (hN4.below h) h2
    rw [decide_eq_true rfl] at h
    exact h
  have HF4 := Lib.hid (HF3.out.below hb)
  have HN4 := Lib.hid (HN3.out.below hb)
  have HB4 := Lib.hid (HB3.out.trans (hb.mono HB3.out.size))
  have HBa := Lib.hid (belowA (Below.refl w4.heap.size w4) (.cells #[.int .i64 0, .int .i64 1, .int .i64 2] 3))
  clear ho hb hN4 HF3 HN3 H3
  go_wp2_with fail
  refine (HE4.out _ HBa.out (three_ints w4 0 1 2)).mono ?_; rintro e w5 ⟨rfl, hb⟩
  have hb5 := HBa.out.trans (hb.mono HBa.out.size)
  have HF5 := Lib.hid (HF4.out.below hb5)
  have HN5 := Lib.hid (HN4.out.below hb5)
  have HB5 := Lib.hid (HB4.out.trans (hb5.mono HB4.out.size))
  clear hb hb5 HF4 HN4 HE4 HBa
  go_wp2_with fail
  go_loopw [41] (fun iv wr => ∃ i : Nat, i ≤ k ∧ iv = .int .i64 i ∧ Hid (Below w5.heap.size w5 wr)) (fun iv _ => k - (intOf iv).toNat)
  case atStart => exact ⟨0, Nat.zero_le _, rfl, Below.refl _ _⟩
  case round =>
    obtain ⟨i, hi, rfl, HB⟩ := hrel
    by_cases hlt : i < k
    · have i1 : i < l.length := by rw [HK.out]; exact hlt
      obtain ⟨g1, g2, g3⟩ := HG.out i i1
      have hfl : firstF l i < l.length := by omega
      obtain ⟨b1, o1, rfl, e1⟩ := fsL_cell (HF5.out.below HB.out) i i1
      obtain ⟨b2, o2, hb2, e2⟩ := fsL_cell (HF5.out.below HB.out) (firstF l i) hfl
      injection hb2 with hb2
      injection hb2 with hb2 ho2
      subst hb2 ho2
      rw [g2] at e2
      obtain ⟨b, o, D, cc, hbo, -, hSl, hD, hcl⟩ := (HN5.out.below HB.out).cells2 (firstF l i) hfl
      obtain ⟨b', o', E, cd, hbo', -, hSl', hE, hcl'⟩ := (HN5.out.below HB.out).cells2 i i1
      subst hbo
      injection hbo' with hbo'
      injection hbo' with hb' ho'
      subst hb' ho'
      obtain ⟨-, -, x2, -, -, xB⟩ := hcl wr (Below.refl _ _)
      obtain ⟨-, -, y2, -, -, yB⟩ := hcl' wr (Below.refl _ _)
      have k1 := hD.convD cc (fun e => by subst e; exact hD.none_nil)
      have k2 := hE.convD cd (fun e => by subst e; exact hE.none_nil)
      rw [sameAt_at i1, sameAt_at hfl] at g3
      have h3 : (i : Int) < (k : Int) := by omega
      have h4 : (0 : Int) ≤ (i : Int) := by omega
      have h5 : ((firstF l i : Nat) : Int) < (k : Int) := by omega
      have h6 : (0 : Int) ≤ ((firstF l i : Nat) : Int) := by omega
      have h7 : decide (((firstF l i : Nat) : Int) < 0) = false := decide_eq_false (by omega)
      have h8 : decide ((i : Int) < ((firstF l i : Nat) : Int)) = false := decide_eq_false (by omega)
      have HX : Hid (firstF l i < i → l[i].same ≠ 0 ∧ l[firstF l i].same = l[i].same ∧ l[firstF l i].data = l[i].data) := fun h => ⟨(g3 h).1, (g3 h).2.1, (g3 h).2.2 hfl⟩
      clear hcl hcl' hD hE hSl hSl' g2 g3
      generalize l[firstF l i] = x at *
      generalize l[i] = y at *
      generalize firstF l i = f at *
      by_cases hfi : f < i
      · obtain ⟨a1, a2, a3⟩ := HX.out hfi
        have h9 : decide ((f : Int) < (i : Int)) = true := decide_eq_true (by omega)
        have a0 : (y.same == 0) = false := by simpa using a1
        rw [a2] at x2
        rw [a3] at xB k1
        generalize y.same = ys at *
        clear HX a1 a2 a3
        go_upto_region 11 with fail
        go_quiet (fail)
        go_wp2_with fail
        go_roundw
        case rel => exact ⟨i + 1, by omega, by go_num, below_drewN HB.out _⟩
        case measure => simp [intOf]; omega
      · obtain rfl : f = i := by omega
        clear HX k1 k2 x2 y2 xB yB h5 h6 h8 e2 hfi
        have h9 : decide ((f : Int) < (f : Int)) = false := decide_eq_false (by omega)
        go_upto_region 11 with fail
        go_quiet (fail)
        go_wp2_with fail
        go_roundw
        case rel => exact ⟨f + 1, by omega, by go_num, below_drewN HB.out _⟩
        case measure => simp [intOf]; omega
    · obtain rfl : i = k := by omega
      have HB9 := Lib.hid (HB5.out.trans (HB.out.mono HB5.out.size))
      go_wp2_with fail
      go_ret
      exact ⟨rfl, HB9.out⟩
end Go.Proofs.YtoplcelimdkjeaaDoor
