/- The laws of plans over drawn trees: PlanBack. -/
import Derived.Test.YtoikpnjnljdpaaaGreatDoorEntV
import Derived.Test.YtoikpnjnljdpaaaGreatDoorLnkK
set_option linter.unusedVariables false
set_option maxRecDepth 100000
namespace Go.Proofs.YtoikpnjnljdpaaaGreatDoor
open Go.RowKit
open Go.OpenShut
theorem back_own {w : World} {B : Nat} {v : Value} {xs : List NodP} {l : List NodeV} (h : OwnN w B v xs) (hm : xs.map (·.1) = l) : ∃ A c, v = .slice A l.length c ∧ SlOk A l.length c ∧ NodesAt w A l := by
  obtain ⟨A, c, e, h1, h2⟩ := h.at
  have hl : xs.length = l.length := by rw [← hm, List.length_map]
  rw [hm] at h2
  rw [hl] at e h1
  exact ⟨A, c, e, h1, h2⟩
set_option maxHeartbeats 4000000 in
theorem PlanBack_walk (A0 : Option Addr) (n0 c0 : Nat) (rs0 : List RawV) (hn0 : rs0.length = n0) (hm0 : n0 ≤ 140737488355328) (hf0 : ∀ r ∈ rs0, r.wf) (w : World) (hr0 : RawsAt w A0 rs0) :
    Calls Tryz.prog 4 #[.slice A0 n0 c0] w fun e w' => e = .returned (.bool true) ∧ Below w.heap.size w w' := by
  have HD := Lib.hid (drawn_any A0 n0 c0 rs0 hn0 hm0 hf0 30 (by omega) w hr0)
  clear hn0 hf0 hr0
  go_enter Tryz.func4, Tryz.ntmps4
  go_wp2_with fail
  refine HD.out.mono ?_; rintro e w1 ⟨l, T, k, d, rfl, hk, -, hS, hN, hk30, hSo, hsz, hB⟩
  have ht := sound_tree hSo (by omega)
  obtain ⟨e1, e2⟩ := run_nil ht
  have hgood : entsE (planL l) = 0 := plan_good hSo (by omega)
  have hentz : ∀ x ∈ planL l, x.sz := fun x hx => entE_sz (ents_good (by have := hgood; unfold entsE at this; split at this; cases this; exact this) x hx)
  have hpl : (planL l).length = k := by rw [planL_len]; exact hk
  have hgl : (growL (planL l)).length = k := by rw [growL_len]; exact hpl
  have HMk := Lib.hid (by
    have h := pMake_any T k d l hk hS hsz none 0 0 [] rfl (by omega) (fun q hq => by cases hq) w1 hN (fun j hj => by cases hj)
    rw [e1, e2] at h
    exact h)
  have HGr := Lib.hid fun (A : Option Addr) (c : Nat) (hs : SlOk A k c) (W : World) (hA : EntsAt W A (planL l)) => by
    have h := pTree_any A k c (planL l) hpl hs hentz W hA
    unfold growT at h
    rw [hgood, if_pos rfl] at h
    exact h
  have HSm := Lib.hid fun (g : Nat) (W : World) (hNs : NodesAt W (some ⟨g, 0, none⟩) [smA, smB, smC]) => by
    have h := pMake_any (some ⟨g, 0, none⟩) 3 3 [smA, smB, smC] rfl ⟨Nat.le_refl _, by decide, fun e => by cases e⟩ sm_szE none 0 0 [] rfl (by omega) (fun q hq => by cases hq) W hNs (fun j hj => by cases hj)
    rw [(run_nil sm_treeE).1, (run_nil sm_treeE).2] at h
    exact h
  have HAl := Lib.hid fun (A : Option Addr) (c : Nat) (W : World) (h1 : NodesAt W A (growL (planL l))) (h2 : NodesAt W T l) => Alike_yes A T k c d (growL (planL l)) l hgl hk (by omega) (grow_alike hSo) W h1 h2
  have HB1 := Lib.hid hB
  have HN1 := Lib.hid hN
  have HPL := Lib.hid hpl
  have HGL := Lib.hid hgl
  clear hB hN hk hS hSo hsz ht e1 e2 HD hgood hentz hpl hgl
  go_wp2_with fail
  refine HMk.out.mono ?_; rintro e w2 ⟨v, xs, rfl, hm, ho, hb⟩
  obtain ⟨Ax, cx, rfl, hsx, hNx⟩ := ho.at
  rw [hm] at hNx
  have hxl : xs.length = k := by rw [← HPL.out, ← hm, List.length_map]
  rw [hxl] at hsx ⊢
  have H2 := Lib.hid (HGr.out Ax cx hsx w2 hNx)
  have HX2 := Lib.hid hb
  clear hm ho hb hsx hNx hxl HMk HGr
  go_wp2_with fail
  refine H2.out.mono ?_; rintro e w3 ⟨v, ys, rfl, hm, ho, hb⟩
  obtain ⟨Ay, cy, rfl, -, hNy⟩ := back_own ho hm
  rw [HGL.out]
  have HNy := Lib.hid hNy
  have HX3 := Lib.hid (HX2.out.trans (hb.mono HX2.out.size))
  clear hm ho hb hNy H2
  go_wp2_with fail
  refine (small_any _).mono ?_; rintro e w4 ⟨g, rfl, hNs, hb⟩
  have H4 := Lib.hid (HSm.out g w4 hNs)
  have HX4 := Lib.hid (HX3.out.trans (hb.mono HX3.out.size))
  have HY4 := Lib.hid hb
  clear hNs hb HSm
  go_wp2_with fail
  refine H4.out.mono ?_; rintro e w5 ⟨v, zs, rfl, hm, ho, hb⟩
  obtain ⟨Az, cz, rfl, -, -⟩ := ho.at
  have hzl : zs.length = 3 := by
    have := congrArg List.length hm
    rw [List.length_map, planL_len] at this
    exact this
  rw [hzl]
  have HX5 := Lib.hid (HX4.out.trans (hb.mono HX4.out.size))
  have HY5 := Lib.hid (HY4.out.trans (hb.mono HY4.out.size))
  have HA5 := Lib.hid (HAl.out Ay cy w5 (HNy.out.below HY5.out) (HN1.out.below HX5.out))
  clear hm ho hb hzl H4 HY4
  go_wp2_with fail
  refine HA5.out.mono ?_; rintro e w6 ⟨rfl, hb⟩
  have HB6 := Lib.hid (HB1.out.trans ((HX5.out.trans (hb.mono HX5.out.size)).mono HB1.out.size))
  clear hb
  go_wp2_with fail
  go_ret
  exact ⟨rfl, HB6.out⟩
end Go.Proofs.YtoikpnjnljdpaaaGreatDoor
