/- The law of rules for all: FilterAll. -/
import Derived.Test.YtilmfnlhpnbngaaGreatDoorFltN
import Derived.Test.YtilmfnlhpnbngaaGreatDoorFltQ
import Derived.Test.YtilmfnlhpnbngaaGreatDoorPal
import Derived.Test.YtilmfnlhpnbngaaGreatDoorKep
set_option linter.unusedVariables false
set_option maxRecDepth 100000
namespace Go.Proofs.YtilmfnlhpnbngaaGreatDoor
open Go.RowKit
open Go.OpenShut
theorem own_sel {w : World} {B : Nat} {v : Value} {xs : List NodP} {l : List NodeV} (h : OwnN w B v xs) (hm : xs.map (·.1) = l) : ∃ A c, v = .slice A l.length c ∧ SlOk A l.length c ∧ NodesAt w A l := by
  obtain ⟨A, c, e, h1, h2⟩ := h.at
  have hl : xs.length = l.length := by rw [← hm, List.length_map]
  rw [hm] at h2
  rw [hl] at e h1
  exact ⟨A, c, e, h1, h2⟩
theorem pats_drawn (m : Nat) (rs : List RawV) : ∀ q ∈ (rs.take m).map ruleT, q.2 ∈ patsL := fun q hq => by
  obtain ⟨r, -, rfl⟩ := List.mem_map.1 hq
  exact ruleT_mem r
theorem sm_tree2 : treeE [smA, smB, smC] = 0 := by decide +kernel
/-- a rule alone -/
theorem one_rule (W : World) (b : Bool) (P : ByteArray) : RulesAt (W.alloc (.cells #[.bool b, .string P] 33)) (some ⟨W.heap.size, 0, none⟩) [(b, P.data.toList)] := fun j hj => by
  have hb := Blk.new W 33 #[.bool b, .string P]
  match j, hj with
  | 0, _ => exact ⟨_, 0, rfl, hb.cell 0, by show World.cell? _ ⟨_, 0 + 0 * 2 + 1, none⟩ = _; exact hb.cell 1⟩
set_option maxHeartbeats 8000000 in
theorem FilterAll_walk (A0 : Option Addr) (n0 c0 : Nat) (rs0 : List RawV) (A1 : Option Addr) (n1 c1 : Nat) (rs1 : List RawV) (hn0 : rs0.length = n0) (hm0 : n0 ≤ 140737488355328) (hf0 : ∀ r ∈ rs0, r.wf) (hn1 : rs1.length = n1) (hm1 : n1 ≤ 140737488355328) (hf1 : ∀ r ∈ rs1, r.wf) (w : World) (hr0 : RawsAt w A0 rs0) (hr1 : RawsAt w A1 rs1) :
    Calls Tryz.prog 4 #[.slice A0 n0 c0, .slice A1 n1 c1] w fun e w' => e = .returned (.bool true) ∧ Below w.heap.size w w' := by
  have HD := Lib.hid (drawn_any A0 n0 c0 rs0 hn0 hm0 hf0 20 (by omega) w hr0)
  have HRu := Lib.hid fun W (h : Below w.heap.size w W) => Rules_any 5 (by omega) A1 n1 c1 rs1 hn1 hm1 hf1 W (hr1.below h)
  have hqs := pats_drawn 5 rs1
  have hql : ((rs1.take 5).map ruleT).length ≤ 5 := by rw [List.length_map, List.length_take]; omega
  generalize (rs1.take 5).map ruleT = qs at HRu hqs hql
  have HQ := Lib.hid hqs
  clear hn0 hf0 hn1 hf1 hr0 hr1 hqs
  go_enter Tryz.func4, Tryz.ntmps4
  go_wp2_with fail
  refine HD.out.mono ?_; rintro e w1 ⟨l, T, k, d, rfl, hk, -, hS, hN, hk20, hSo, hsz, hB⟩
  have ht := sound_tree hSo (by omega)
  have HRun := Lib.hid fun (A : Option Addr) (n c : Nat) (ps : List RuleV) (hn : ps.length = n) (hq : ∀ q ∈ ps, q.2 ∈ patsL) (hl : ps.length ≤ 12) (W : World) (hW : Below w1.heap.size w1 W) (hA : RulesAt W A ps) => by
    have h := fRun_any T k d l hk hS hsz A n c ps hn (by omega) (okR_pats ps hq) W (hN.below hW) hA
    obtain ⟨e1, e2⟩ := run_pats ht hq hl
    rw [e1, e2] at h
    exact h
  have hnode : ∀ x ∈ l, nodE x = 0 := fun x hx => hSo.node x hx
  have HS0 : Hid (selF l [] = l) := sel_all [] hnode fun s _ => rfl
  have HS1 : Hid (selF l (qs ++ [(true, [42, 42])]) = l) := sel_all _ hnode fun s h => taken_two qs true h
  have HS2 : Hid (selF l (qs ++ [(false, [42, 42])]) = []) := sel_none _ hnode fun s h => taken_two qs false h
  have HB1 := Lib.hid hB
  have HN1 := Lib.hid hN
  have HK := Lib.hid hk
  clear hB hN hk hS hSo hsz ht hnode
  go_wp2_with fail
  refine (HRun.out none 0 0 [] rfl (fun q hq => by cases hq) (by simp) w1 (Below.refl _ _) (fun j hj => by cases hj)).mono ?_; rintro e w2 ⟨v, xs, rfl, hm, ho, hb⟩
  rw [HS0.out] at hm
  obtain ⟨Ax, cx, rfl, -, hNx⟩ := own_sel ho hm
  rw [HK.out]
  have HNx := Lib.hid hNx
  have HC2 := Lib.hid hb
  clear hm ho hNx hb HS0
  go_wp2_with fail
  refine (HRu.out _ (HB1.out.trans (HC2.out.mono HB1.out.size))).mono ?_; rintro e w3 ⟨v, rfl, hR, hb⟩
  have hk3 := Blk.new w3 33 #[.bool true, .string ⟨#[42, 42]⟩]
  have hc3 := hb.alloc hb.size (.cells #[.bool true, .string ⟨#[42, 42]⟩] 33)
  have HR3 := Lib.hid (Rls.alloc hR (.cells #[.bool true, .string ⟨#[42, 42]⟩] 33))
  have HK3 := Lib.hid hk3
  have HC3 := Lib.hid hc3
  obtain ⟨A3, c3, rfl, -⟩ := hR.any
  clear hR hb hk3 hc3
  go_wp2_with (at_builtin; refine Stay.go ?_)
  refine Stay.on ?_
  refine append_rule rfl (.tmp 24) (.tmp 26) rfl w2.heap.size _ qs rfl HR3.out w3.heap.size 1 (true, [42, 42]) rfl ⟨HK3.out.cell 0, HK3.out.cell 1⟩ (by omega) HC3.out.size ?_
  intro v4 w4 ho4 hg4
  have HX4 : Hid (Below w2.heap.size w2 w4) := HC3.out.grown hg4 HC3.out.size fun g0 e => (own_block HR3.out g0 e).1
  obtain ⟨A4, c4, rfl, -⟩ := ho4.any
  have HR4 := Lib.hid ho4.at
  clear ho4 hg4 HR3 HK3 HC3
  go_wp2_with fail
  refine (HRun.out A4 (qs.length + 1) c4 (qs ++ [(true, [42, 42])]) (by rw [List.length_append, List.length_singleton]) (fun q hq => by
    rcases List.mem_append.1 hq with a | a
    · exact HQ.out q a
    · obtain rfl : q = (true, [42, 42]) := by simpa using a
      decide) (by rw [List.length_append, List.length_singleton]; omega) w4 (HC2.out.trans (HX4.out.mono HC2.out.size)) HR4.out).mono ?_; rintro e w5 ⟨v, ys, rfl, hm, ho, hb⟩
  rw [HS1.out] at hm
  obtain ⟨Ay, cy, rfl, -, hNy⟩ := own_sel ho hm
  rw [HK.out]
  have HNy := Lib.hid hNy
  have HX5 := Lib.hid (HX4.out.trans (hb.mono HX4.out.size))
  have HC5 := Lib.hid (HC2.out.trans (HX5.out.mono HC2.out.size))
  clear hm ho hNy hb HS1 HX4 HR4
  go_wp2_with fail
  refine (HRu.out _ (HB1.out.trans (HC5.out.mono HB1.out.size))).mono ?_; rintro e w6 ⟨v, rfl, hR, hb⟩
  have hk3 := Blk.new w6 33 #[.bool false, .string ⟨#[42, 42]⟩]
  have hc3 := hb.alloc hb.size (.cells #[.bool false, .string ⟨#[42, 42]⟩] 33)
  have HR3 := Lib.hid (Rls.alloc hR (.cells #[.bool false, .string ⟨#[42, 42]⟩] 33))
  have HK3 := Lib.hid hk3
  have HC3 := Lib.hid hc3
  obtain ⟨A6, c6, rfl, -⟩ := hR.any
  clear hR hb hk3 hc3
  go_wp2_with (at_builtin; refine Stay.go ?_)
  refine Stay.on ?_
  refine append_rule rfl (.tmp 34) (.tmp 36) rfl w5.heap.size _ qs rfl HR3.out w6.heap.size 1 (false, [42, 42]) rfl ⟨HK3.out.cell 0, HK3.out.cell 1⟩ (by omega) HC3.out.size ?_
  intro v7 w7 ho4 hg4
  have HX7 : Hid (Below w5.heap.size w5 w7) := HC3.out.grown hg4 HC3.out.size fun g0 e => (own_block HR3.out g0 e).1
  obtain ⟨A7, c7, rfl, -⟩ := ho4.any
  have HR4 := Lib.hid ho4.at
  clear ho4 hg4 HR3 HK3 HC3
  go_wp2_with fail
  refine (HRun.out A7 (qs.length + 1) c7 (qs ++ [(false, [42, 42])]) (by rw [List.length_append, List.length_singleton]) (fun q hq => by
    rcases List.mem_append.1 hq with a | a
    · exact HQ.out q a
    · obtain rfl : q = (false, [42, 42]) := by simpa using a
      decide) (by rw [List.length_append, List.length_singleton]; omega) w7 (HC5.out.trans (HX7.out.mono HC5.out.size)) HR4.out).mono ?_; rintro e w8 ⟨v, zs, rfl, hm, ho, hb⟩
  rw [HS2.out] at hm
  obtain ⟨Az, cz, rfl, -, -⟩ := own_sel ho hm
  have HX8 := Lib.hid (HX7.out.trans (hb.mono HX7.out.size))
  clear hm ho hb HS2 HX7 HR4
  go_wp2_with fail
  refine (small_any _).mono ?_; rintro e w9 ⟨g, rfl, hN9, hb⟩
  have HX9 := Lib.hid (HX8.out.trans (hb.mono HX8.out.size))
  have hone := one_rule w9 false ⟨#[97]⟩
  have ha := (Below.refl w9.heap.size w9).alloc (Nat.le_refl _) (.cells #[.bool false, .string ⟨#[97]⟩] 33)
  have HRs := Lib.hid (fRun_any (some ⟨g, 0, none⟩) 3 3 [smA, smB, smC] rfl ⟨Nat.le_refl _, by decide, fun e => by cases e⟩ sm_sz (some ⟨w9.heap.size, 0, none⟩) 1 1 [(false, [97])] rfl (by omega) (okR_pats _ (by intro q hq; simp at hq; subst hq; decide)) (w9.alloc (.cells #[.bool false, .string ⟨#[97]⟩] 33)) (hN9.below ha) hone)
  obtain ⟨e1, e2⟩ := run_pats (l := [smA, smB, smC]) (qs := [(false, [97])]) sm_tree2 (by intro q hq; simp at hq; subst hq; decide) (by simp)
  rw [e1, e2, sel_a] at HRs
  have HXa := Lib.hid (HX9.out.alloc HX9.out.size (.cells #[.bool false, .string ⟨#[97]⟩] 33))
  clear hN9 hb hone ha e1 e2 HX8
  go_wp2_with fail
  refine HRs.out.mono ?_; rintro e w10 ⟨v, os, rfl, hm, ho, hb⟩
  obtain ⟨Ao, co, rfl, -, -⟩ := own_sel ho hm
  have HX10 := Lib.hid (HXa.out.trans (hb.mono HXa.out.size))
  have HT1 := Lib.hid fun W (h : Below w10.heap.size w10 W) => keepTree_any Ax T k cx k d l l HK.out HK.out (by omega) (by omega) W (HNx.out.below ((HX5.out.trans (HX10.out.mono HX5.out.size)).trans (h.mono (HX5.out.trans (HX10.out.mono HX5.out.size)).size))) (HN1.out.below ((HC5.out.trans (HX10.out.mono HC5.out.size)).trans (h.mono (HC5.out.trans (HX10.out.mono HC5.out.size)).size)))
  have HT2 := Lib.hid fun W (h : Below w10.heap.size w10 W) => keepTree_any Ay T k cy k d l l HK.out HK.out (by omega) (by omega) W (HNy.out.below (HX10.out.trans (h.mono HX10.out.size))) (HN1.out.below ((HC5.out.trans (HX10.out.mono HC5.out.size)).trans (h.mono (HC5.out.trans (HX10.out.mono HC5.out.size)).size)))
  rw [decide_eq_true rfl] at HT1 HT2
  have HBf := Lib.hid (HB1.out.trans ((HC5.out.trans (HX10.out.mono HC5.out.size)).mono HB1.out.size))
  clear hm ho hb HRs HXa
  go_wp2_with fail
  refine (HT1.out _ (Below.refl _ _)).mono ?_; rintro e w11 ⟨rfl, hb⟩
  have HX11 := Lib.hid hb
  clear hb
  go_wp2_with fail
  refine (HT2.out _ HX11.out).mono ?_; rintro e w12 ⟨rfl, hb⟩
  have HX12 := Lib.hid (HX11.out.trans (hb.mono HX11.out.size))
  clear hb
  go_wp2_with fail
  go_ret
  exact ⟨rfl, HBf.out.trans (HX12.out.mono HBf.out.size)⟩
end Go.Proofs.YtilmfnlhpnbngaaGreatDoor
