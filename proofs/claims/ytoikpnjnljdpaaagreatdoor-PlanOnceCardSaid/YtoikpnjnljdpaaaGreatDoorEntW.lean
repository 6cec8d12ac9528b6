/- The laws of plans over drawn trees: PlanOnce. -/
import Derived.Test.YtoikpnjnljdpaaaGreatDoorEntV
import Derived.Test.YtoikpnjnljdpaaaGreatDoorLnp
import Derived.Deep.DeepCutAuto
import Derived.Deep.QuietTactic
import Derived.BigQuiet
set_option linter.unusedVariables false
set_option maxRecDepth 100000
namespace Go.Proofs.YtoikpnjnljdpaaaGreatDoor
open Go.RowKit
open Go.OpenShut
theorem fsL_get (l : List NodeV) (i : Nat) (h : i < (fsL l).length) : (fsL l)[i] = ((firstF l i : Nat) : Int) := by
  have hl : i < l.length := by rwa [fsL_len] at h
  have e : (fsL l)[i]? = some ((firstF l i : Nat) : Int) := by
    unfold fsL
    rw [List.getElem?_map, List.getElem?_range hl]; rfl
  rw [List.getElem?_eq_getElem h] at e
  injection e
set_option maxHeartbeats 1000000 in
theorem PlanOnce_walk (A0 : Option Addr) (n0 c0 : Nat) (rs0 : List RawV) (hn0 : rs0.length = n0) (hm0 : n0 ≤ 140737488355328) (hf0 : ∀ r ∈ rs0, r.wf) (w : World) (hr0 : RawsAt w A0 rs0) :
    Calls Tryz.prog 6 #[.slice A0 n0 c0] w fun e w' => e = .returned (.bool true) ∧ Below w.heap.size w w' := by
  have HD := Lib.hid (drawn_any A0 n0 c0 rs0 hn0 hm0 hf0 30 (by omega) w hr0)
  clear hn0 hf0 hr0
  go_enter Tryz.func6, Tryz.ntmps6
  go_wp2_with fail
  refine HD.out.mono ?_; rintro e w1 ⟨l, T, k, d, rfl, hk, -, hS, hN, hk30, hSo, hsz, hB⟩
  have ht := sound_tree hSo (by omega)
  obtain ⟨e1, e2⟩ := run_nil ht
  have HMk := Lib.hid (by
    have h := pMake_any T k d l hk hS hsz none 0 0 [] rfl (by omega) (fun q hq => by cases hq) w1 hN (fun j hj => by cases hj)
    rw [e1, e2] at h
    exact h)
  have HFs := Lib.hid fun (W : World) (hW : Below w1.heap.size w1 W) => by
    have h := lFirsts_any T k d l hk hS hsz W (hN.below hW)
    rw [ht, if_pos rfl] at h
    exact h
  have HSm := Lib.hid fun (g : Nat) (W : World) (hNs : NodesAt W (some ⟨g, 0, none⟩) [smA, smB, smC]) => by
    have h := pMake_any (some ⟨g, 0, none⟩) 3 3 [smA, smB, smC] rfl ⟨Nat.le_refl _, by decide, fun e => by cases e⟩ sm_szE none 0 0 [] rfl (by omega) (fun q hq => by cases hq) W hNs (fun j hj => by cases hj)
    rw [(run_nil sm_treeE).1, (run_nil sm_treeE).2] at h
    exact h
  have HSo := Lib.hid hSo
  have HB1 := Lib.hid hB
  have HN1 := Lib.hid hN
  have HK := Lib.hid hk
  clear hB hN hk hS hSo hsz ht e1 e2 HD
  go_wp2_with fail
  refine HMk.out.mono ?_; rintro e w2 ⟨v, xs, rfl, hm, ho, hb⟩
  obtain ⟨Ax, cx, rfl, hsx, hNx⟩ := ho.at
  rw [hm] at hNx
  have hxl : xs.length = k := by rw [← HK.out, ← planL_len, ← hm, List.length_map]
  rw [hxl]
  have HNx := Lib.hid hNx
  have HX2 := Lib.hid hb
  clear hm ho hb hsx hNx hxl HMk
  go_wp2_with fail
  refine (HFs.out _ HX2.out).mono ?_; rintro e w3 ⟨v, rfl, hO, hb⟩
  obtain ⟨Af, cf, rfl, hNf⟩ := hO.at
  rw [fsL_len, HK.out]
  have HNf := Lib.hid hNf
  have HNx3 := Lib.hid (HNx.out.below hb)
  have HX3 := Lib.hid (HX2.out.trans (hb.mono HX2.out.size))
  clear hO hb hNf HNx HFs
  go_wp2_with fail
  refine (small_any _).mono ?_; rintro e w4 ⟨g, rfl, hNs, hb⟩
  have H4 := Lib.hid (HSm.out g w4 hNs)
  have HX4 := Lib.hid (HX3.out.trans (hb.mono HX3.out.size))
  have HY4 := Lib.hid hb
  clear hNs hb HSm
  go_wp2_with fail
  refine H4.out.mono ?_; rintro e w5 ⟨v, ys, rfl, hm, ho, hb⟩
  obtain ⟨Ay, cy, rfl, -, -⟩ := ho.at
  have hyl : ys.length = 3 := by
    have := congrArg List.length hm
    rw [List.length_map, planL_len] at this
    exact this
  rw [hyl]
  have HX5 := Lib.hid (HX4.out.trans (hb.mono HX4.out.size))
  have HY5 := Lib.hid (HY4.out.trans (hb.mono HY4.out.size))
  clear hm ho hb hyl H4 HY4
  have HNf5 := Lib.hid (HNf.out.below HY5.out)
  have HNx5 := Lib.hid (HNx3.out.below HY5.out)
  have HN5 := Lib.hid (HN1.out.below HX5.out)
  clear HNf HNx3 HN1 HY5
  go_wp2_with fail
  go_loopw [60] (fun iv wr => ∃ i : Nat, i ≤ k ∧ iv = .int .i64 i ∧ Hid (Below w5.heap.size w5 wr)) (fun iv _ => k - (intOf iv).toNat)
  case atStart => exact ⟨0, Nat.zero_le _, rfl, Below.refl _ _⟩
  case round =>
    obtain ⟨i, hi, rfl, HB⟩ := hrel
    by_cases hlt : i < k
    · have hi1 : i < l.length := by rw [HK.out]; exact hlt
      have hi2 : i < (planL l).length := by rw [planL_len]; exact hi1
      have hi3 : i < (fsL l).length := by rw [fsL_len]; exact hi1
      obtain ⟨b3, o3, rfl, f0⟩ := (HNf5.out.below HB.out) i hi3
      rw [fsL_get] at f0
      obtain ⟨b2, o2, D2, cc2, rfl, -, x1, x2, -, xB, -, hD2⟩ := (HNx5.out.below HB.out).cells i hi2
      obtain ⟨b, o, D, cc, rfl, -, c1, -, -, -, cB, -, hD⟩ := (HN5.out.below HB.out).cells i hi1
      rw [planL_at l i hi1] at x1 x2 xB hD2
      have hfl := (firstF_spec l i).1
      have hI1 : (i : Int) < (k : Int) := by omega
      have hI0 : (0 : Int) ≤ (i : Int) := by omega
      by_cases hfi : firstF l i = i
      · rw [planE_self hi1 (by omega)] at x1 x2 xB hD2
        rw [hfi] at f0
        have hcx := hD2.convD cc2 (fun e => by subst e; exact hD2.none_nil)
        have hcy := hD.convD cc (fun e => by subst e; exact hD.none_nil)
        simp only [NodeV.ent] at x1 x2 xB hcx
        obtain ⟨X, hX⟩ := hid_name (bs l[i].data)
        rw [hX.out] at hcx hcy
        obtain ⟨Y, hY⟩ : ∃ Y, Y = X := ⟨_, rfl⟩
        rw [← hY] at hcy
        have hne : (X.toList != Y.toList) = false := by rw [hY]; simp
        have hne2 : (X.toList == Y.toList) = true := by rw [hY]; simp
        generalize l[i].data.length = dl at xB cB hcx hcy
        generalize l[i].kind = kd at x1 c1
        obtain ⟨ke, hke⟩ : ∃ ke, ke = kd := ⟨_, rfl⟩
        rw [← hke] at c1
        have hkk : (kd != ke) = false := by rw [hke]; simp
        clear hD hD2 hfi hfl x2 hX hi1 hi2 hi3 hi hY hke
        go_upto_region 11 with fail
        go_cut [134] (fun s134 wx => s134 = .bool false ∧ Below wr.heap.size wr wx)
        case first =>
          simp only [List.append]
          go_quiet (fail)
          go_wp2_with fail
          go_meet
          exact ⟨rfl, below_drewN (Below.refl _ _) _⟩
        case rest =>
          obtain ⟨rfl, hW⟩ := hcut
          have HW := Lib.hid (HB.out.trans (hW.mono HB.out.size))
          clear hW
          go_wp2_with fail
          go_roundw
          case rel => exact ⟨i + 1, by omega, by go_num, HW.out⟩
          case measure => simp [intOf]; omega
      · have hlk : 0 < l[i].same ∧ firstF l i < i := by
          have hlt2 : firstF l i < i := by omega
          have he := (firstF_spec l i).2.1 hlt2
          obtain ⟨q1, -⟩ : sameAt l i ≠ 0 ∧ sameAt l (firstF l i) = sameAt l i := of_decide_eq_true he
          have := HSo.out.pos i
          rw [sameAt_at hi1] at q1 this
          exact ⟨by omega, hlt2⟩
        rw [planE_link hi1 hlk] at x1 x2 xB
        simp only [List.length_nil] at x1 x2 xB
        have hl0 : decide ((0 : Int) < ((0 : Nat) : Int)) = false := by decide
        have hf1 : firstF l i < l.length := by omega
        obtain ⟨b', o', D', cc', e', z0, -⟩ := (HN5.out.below HB.out).cells (firstF l i) hf1
        injection e' with e'
        injection e' with e1' e2' _
        subst e1' e2'
        obtain ⟨f, hf⟩ : ∃ f, f = firstF l i := ⟨_, rfl⟩
        have hne : ((f : Int) == (i : Int)) = false := by simp; omega
        have hfk : (f : Int) < (k : Int) := by omega
        have hf0 : (0 : Int) ≤ (f : Int) := by omega
        obtain ⟨X, hX⟩ := hid_name (bs (l[firstF l i]'hf1).path)
        rw [hX.out] at z0 x2
        rw [← hf] at f0 z0
        obtain ⟨Y, hY⟩ : ∃ Y, Y = X := ⟨_, rfl⟩
        rw [← hY] at z0
        have hpe : (X.toList != Y.toList) = false := by rw [hY]; simp
        have hpe2 : (X.toList == Y.toList) = true := by rw [hY]; simp
        clear hY
        clear hD hD2 hfi hfl hlk hf cB c1 hX hf1 hi1 hi2 hi3 hi
        go_upto_region 11 with fail
        go_cut [134] (fun s134 wx => s134 = .bool false ∧ Below wr.heap.size wr wx)
        case first =>
          simp only [List.append]
          go_quiet (fail)
          go_wp2_with fail
          go_meet
          exact ⟨rfl, below_drewN (Below.refl _ _) _⟩
        case rest =>
          obtain ⟨rfl, hW⟩ := hcut
          have HW := Lib.hid (HB.out.trans (hW.mono HB.out.size))
          clear hW
          go_wp2_with fail
          go_roundw
          case rel => exact ⟨i + 1, by omega, by go_num, HW.out⟩
          case measure => simp [intOf]; omega
    · obtain rfl : i = k := by omega
      go_wp2_with fail
      go_ret
      exact ⟨rfl, HB1.out.trans ((HX5.out.trans (HB.out.mono HX5.out.size)).mono HB1.out.size)⟩
end Go.Proofs.YtoikpnjnljdpaaaGreatDoor
