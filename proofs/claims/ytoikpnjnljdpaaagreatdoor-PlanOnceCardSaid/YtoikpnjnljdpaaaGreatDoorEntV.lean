/- The laws of plans over drawn trees: PlanGood. -/
import Derived.Test.YtoikpnjnljdpaaaGreatDoorEntN
import Derived.Test.YtoikpnjnljdpaaaGreatDoorEntK
import Derived.Test.YtoikpnjnljdpaaaGreatDoorEntS
import Derived.Test.YtoikpnjnljdpaaaGreatDoorFltN
import Derived.Test.YtoikpnjnljdpaaaGreatDoorPal
import Derived.Test.YtoikpnjnljdpaaaGreatDoorKep
set_option linter.unusedVariables false
set_option maxRecDepth 100000
namespace Go.Proofs.YtoikpnjnljdpaaaGreatDoor
open Go.RowKit
open Go.OpenShut
theorem entE_sz {x : EntV} (h : entE x = 0) : x.sz := by
  obtain ⟨h1, h2, h3⟩ := entE_parts h
  have hp := pathE_len h1
  have hm : x.md.user.length ≤ 60 ∧ x.md.group.length ≤ 60 := by
    unfold metE at h2
    split at h2
    · split at h2
      · cases h2
      · omega
    · cases h2
  have hk : x.data.length ≤ 2000 ∧ x.target.length ≤ 400 := by
    unfold entK at h3
    split at h3
    · cases h3
    · split at h3
      · cases h3
      · split at h3
        · cases h3
        · omega
  exact ⟨⟨by omega, by omega, by omega⟩, by unfold MetaV.sz; omega⟩
theorem glob_c : globE [99] = 0 := by decide +kernel
theorem taken_c {s : List UInt8} (h : pathE s = 0) : takenF [(false, [99])] s = !decide ([99] = s) := by
  have e : fitsE [99] s = 0 := by unfold fitsE; rw [if_pos glob_c, h]
  have hb : fitsB [99] s = decide ([99] = s) := by
    unfold fitsB
    rw [e, globF_plain [99] s (by intro c hc; simp at hc; subst hc; exact ⟨by decide, by decide, by decide⟩)]; rfl
  show (if fitsB [99] s = true then false else true) = _
  rw [hb]
  by_cases hs : [99] = s <;> simp [hs]
theorem sm_treeE : treeE [smA, smB, smC] = 0 := by decide +kernel
theorem sm_szE : ∀ x ∈ [smA, smB, smC], x.sz := fun x hx => nodE_sz (((treeE_zero _).1 sm_treeE).2.node x hx)
theorem run_nil {l : List NodeV} (h : treeE l = 0) : runE l [] = 0 ∧ runL l [] = l := by
  have e : runE l [] = 0 := by unfold runE; rw [if_pos h]; rfl
  refine ⟨e, ?_⟩
  rw [show runL l [] = selF l [] from if_pos e]
  exact sel_all [] (fun x hx => (((treeE_zero l).1 h).2.node x hx)) fun s _ => rfl
theorem run_c : runE [smA, smB, smC] [(false, [99])] = 0 ∧ (planL (runL [smA, smB, smC] [(false, [99])])).length = 2 := by
  have hr : rulesE [(false, [99])] = 0 := by unfold rulesE rulesP rulesP; rw [if_neg (by simp)]; rw [if_pos glob_c]
  have e : runE [smA, smB, smC] [(false, [99])] = 0 := by unfold runE; rw [if_pos sm_treeE, hr]
  refine ⟨e, ?_⟩
  rw [planL_len, show runL [smA, smB, smC] [(false, [99])] = selF [smA, smB, smC] [(false, [99])] from if_pos e]
  obtain ⟨p1, p2, p3⟩ := small_path
  obtain ⟨u1, u2, u3⟩ := up_a
  have a1 : allF [(false, [99])] [97] = true := by rw [allF_step _ (by decide), taken_c p1, u1]; rfl
  have a2 : allF [(false, [99])] [97, 47, 98] = true := by rw [allF_step _ (by decide), taken_c p2, u2, a1]; rfl
  have a3 : allF [(false, [99])] [99] = false := by rw [allF_step _ (by decide), taken_c p3]; rfl
  unfold selF
  rw [List.filter_cons_of_pos (by show allF _ [97] = true; exact a1), List.filter_cons_of_pos (by show allF _ [97, 47, 98] = true; exact a2), List.filter_cons_of_neg (by show ¬ allF _ [99] = true; rw [a3]; decide)]; rfl
/-- a member alone -/
def entAB : EntV := ⟨[97, 47, 98], 1, [], ⟨0, 0, 0, [], [], 0, 0⟩, []⟩
theorem ab_ents : entsE [entAB] = 10 := by decide +kernel
theorem ab_sz : ∀ x ∈ [entAB], x.sz := fun x hx => by
  obtain rfl : x = entAB := by simpa using hx
  refine ⟨⟨by decide, by decide, by decide⟩, ?_⟩
  unfold MetaV.sz entAB
  simp
theorem one_ent (W : World) (y : EntV) (hd : y.data = []) : EntsAt (W.alloc (.cells (entV y (.slice none 0 0)).toArray 45)) (some ⟨W.heap.size, 0, none⟩) [y] := fun j hj => by
  obtain rfl : j = 0 := by simpa using hj
  refine ⟨_, 0, none, 0, rfl, fun i hi => ?_, ?_, ?_⟩
  · rw [show 0 + 0 * 11 + i = i by omega, (Blk.new W 45 (entV y (.slice none 0 0)).toArray).cell i]
    show (entV y (.slice none 0 0)).toArray[i]? = (entC y none 0)[i]?
    rw [entC_eq, hd, List.getElem?_toArray]; rfl
  · show SlOk none y.data.length 0
    rw [hd]; exact ⟨Nat.le_refl _, by decide, fun _ => rfl⟩
  · show BytsAt _ none y.data
    rw [hd]; exact BytsAt.nil _ _
set_option maxHeartbeats 8000000 in
theorem PlanGood_walk (A0 : Option Addr) (n0 c0 : Nat) (rs0 : List RawV) (A1 : Option Addr) (n1 c1 : Nat) (rs1 : List RawV) (hn0 : rs0.length = n0) (hm0 : n0 ≤ 140737488355328) (hf0 : ∀ r ∈ rs0, r.wf) (hn1 : rs1.length = n1) (hm1 : n1 ≤ 140737488355328) (hf1 : ∀ r ∈ rs1, r.wf) (w : World) (hr0 : RawsAt w A0 rs0) (hr1 : RawsAt w A1 rs1) :
    Calls Tryz.prog 5 #[.slice A0 n0 c0, .slice A1 n1 c1] w fun e w' => e = .returned (.bool true) ∧ Below w.heap.size w w' := by
  have HD := Lib.hid (drawn_any A0 n0 c0 rs0 hn0 hm0 hf0 30 (by omega) w hr0)
  have HRu := Lib.hid fun W (h : Below w.heap.size w W) => Rules_any 4 (by omega) A1 n1 c1 rs1 hn1 hm1 hf1 W (hr1.below h)
  have hqs : ∀ q ∈ (rs1.take 4).map ruleT, q.2 ∈ patsL := fun q hq => by
    obtain ⟨r, -, rfl⟩ := List.mem_map.1 hq
    exact ruleT_mem r
  have hql : ((rs1.take 4).map ruleT).length ≤ 4 := by rw [List.length_map, List.length_take]; omega
  generalize (rs1.take 4).map ruleT = qs at HRu hqs hql
  clear hn0 hf0 hn1 hf1 hr0 hr1
  go_enter Tryz.func5, Tryz.ntmps5
  go_wp2_with fail
  refine HD.out.mono ?_; rintro e w1 ⟨l, T, k, d, rfl, hk, -, hS, hN, hk30, hSo, hsz, hB⟩
  have ht := sound_tree hSo (by omega)
  obtain ⟨e1, e2⟩ := run_pats ht hqs (by omega)
  have hgood : entsE (planL (selF l qs)) = 0 := by
    obtain ⟨g1, g2⟩ := (treeE_zero _).1 (sel_tree ht qs)
    exact plan_good g2 g1
  have hentz : ∀ x ∈ planL (selF l qs), x.sz := fun x hx => entE_sz (ents_good (by have := hgood; unfold entsE at this; split at this; cases this; exact this) x hx)
  have HMk := Lib.hid fun (A : Option Addr) (c : Nat) (W : World) (hW : Below w1.heap.size w1 W) (hA : RulesAt W A qs) => by
    have h := pMake_any T k d l hk hS hsz A qs.length c qs rfl (by omega) (okR_pats qs hqs) W (hN.below hW) hA
    rw [e1, e2] at h
    exact h
  have HGd := Lib.hid hgood
  have HEz := Lib.hid hentz
  have HB1 := Lib.hid hB
  generalize selF l qs = S at *
  clear hB hN hk hS hSo hsz ht hqs e1 e2 hgood hentz HD
  go_wp2_with fail
  refine (HRu.out _ HB1.out).mono ?_; rintro e w2 ⟨v, rfl, hR, hb⟩
  obtain ⟨A2, c2, rfl, -⟩ := hR.any
  have H2 := Lib.hid (HMk.out A2 c2 w2 hb hR.at)
  have HB2 := Lib.hid (HB1.out.trans (hb.mono HB1.out.size))
  clear hR hb HMk HRu
  go_wp2_with fail
  refine H2.out.mono ?_; rintro e w3 ⟨v, xs, rfl, hm, ho, hb⟩
  obtain ⟨Ax, cx, rfl, hsx, hNx⟩ := ho.at
  rw [hm] at hNx
  have hxl : xs.length = (planL S).length := by rw [← hm, List.length_map]
  rw [hxl] at hsx ⊢
  obtain ⟨np, Hnp⟩ := hid_name (planL S).length
  rw [Hnp.out] at hsx ⊢
  have HC := Lib.hid fun W (h : Below w3.heap.size w3 W) => by
    have h := entPPCheck_any Ax np cx (planL S) Hnp.out hsx HEz.out W (hNx.below h)
    rw [HGd.out] at h
    exact h
  have HB3 := Lib.hid (HB2.out.trans (hb.mono HB2.out.size))
  clear hm ho hb hsx hNx hxl H2 HGd HEz
  go_wp2_with fail
  refine (small_any _).mono ?_; rintro e w4 ⟨g, rfl, hNs, hb⟩
  have hone : RulesAt (w4.alloc (.cells #[.bool false, .string ⟨#[99]⟩] 39)) (some ⟨w4.heap.size, 0, none⟩) [(false, [99])] := fun j hj => by
    have hbk := Blk.new w4 39 #[.bool false, .string ⟨#[99]⟩]
    match j, hj with
    | 0, _ => exact ⟨_, 0, rfl, hbk.cell 0, by show World.cell? _ ⟨_, 0 + 0 * 2 + 1, none⟩ = _; exact hbk.cell 1⟩
  have ha := (Below.refl w4.heap.size w4).alloc (Nat.le_refl _) (.cells #[.bool false, .string ⟨#[99]⟩] 39)
  have HRs := Lib.hid (pMake_any (some ⟨g, 0, none⟩) 3 3 [smA, smB, smC] rfl ⟨Nat.le_refl _, by decide, fun e => by cases e⟩ sm_szE (some ⟨w4.heap.size, 0, none⟩) 1 1 [(false, [99])] rfl (by omega) (by intro q hq; simp at hq; subst hq; simp) (w4.alloc (.cells #[.bool false, .string ⟨#[99]⟩] 39)) (hNs.below ha) hone)
  rw [run_c.1] at HRs
  have HX3 := Lib.hid (hb.trans (ha.mono hb.size))
  clear hNs hb hone ha
  go_wp2_with fail
  refine HRs.out.mono ?_; rintro e w5 ⟨v, ys, rfl, hm, ho, hb⟩
  obtain ⟨Ay, cy, rfl, -, -⟩ := ho.at
  have hyl : ys.length = 2 := by rw [← run_c.2, ← hm, List.length_map]
  rw [hyl]
  have HX5 := Lib.hid (HX3.out.trans (hb.mono HX3.out.size))
  clear hm ho hb hyl HRs HX3
  go_wp2_with fail
  refine (HC.out _ HX5.out).mono ?_; rintro e w6 ⟨rfl, hb⟩
  have HX6 := Lib.hid (HX5.out.trans (hb.mono HX5.out.size))
  have ho := one_ent w6 entAB rfl
  have HO := Lib.hid (entPPCheck_any (some ⟨w6.heap.size, 0, none⟩) 1 1 [entAB] rfl ⟨Nat.le_refl _, by decide, fun e => by cases e⟩ ab_sz _ ho)
  rw [ab_ents] at HO
  have HX7 := Lib.hid (HX6.out.alloc HX6.out.size (.cells (entV entAB (.slice none 0 0)).toArray 45))
  clear hb ho HX5
  go_wp2_with fail
  refine HO.out.mono ?_; rintro e w8 ⟨rfl, hb⟩
  have HX8 := Lib.hid (HX7.out.trans (hb.mono HX7.out.size))
  clear hb
  go_wp2_with fail
  go_ret
  exact ⟨rfl, HB3.out.trans (HX8.out.mono HB3.out.size)⟩
end Go.Proofs.YtoikpnjnljdpaaaGreatDoor
