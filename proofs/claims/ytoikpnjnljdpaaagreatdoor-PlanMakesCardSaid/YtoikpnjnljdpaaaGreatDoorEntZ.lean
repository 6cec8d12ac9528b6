/- The law of plan.Make against the reference: PlanMakes. -/
import Derived.Test.YtoikpnjnljdpaaaGreatDoorEntK
import Derived.Test.YtoikpnjnljdpaaaGreatDoorEna
set_option linter.unusedVariables false
set_option maxRecDepth 100000
namespace Go.Proofs.YtoikpnjnljdpaaaGreatDoor
open Go.RowKit
open Go.OpenShut
set_option maxHeartbeats 1000000 in
theorem PlanMakes_walk (A0 : Option Addr) (n0 c0 : Nat) (rs0 : List NodeV) (A1 : Option Addr) (n1 c1 : Nat) (rs1 : List RuleV) (hn0 : rs0.length = n0) (hm0 : n0 * 144 ≤ 140737488351232) (hf0 : ∀ r ∈ rs0, r.wf) (hc0 : SlOk A0 n0 c0) (hn1 : rs1.length = n1) (hm1 : n1 ≤ 140737488355328) (hf1 : ∀ r ∈ rs1, r.2.length ≤ 140737488351232) (w : World) (hr0 : NodesAt w A0 rs0) (hr1 : RulesAt w A1 rs1) :
    Calls Tryz.prog 3 #[.slice A0 n0 c0, .slice A1 n1 c1] w fun e w' => e = .returned (.bool true) ∧ Below w.heap.size w w' := by
  have H1 := Lib.hid (pMake_any A0 n0 c0 rs0 hn0 hc0 (fun x hx => (hf0 x hx).sz) A1 n1 c1 rs1 hn1 hm1 hf1 w hr0 hr1)
  have H2 := Lib.hid fun W (h : Below w.heap.size w W) => rPlan_any A0 n0 c0 rs0 hn0 hc0 (fun x hx => (hf0 x hx).sz) A1 n1 c1 rs1 hn1 hm1 hf1 W (hr0.below h) (hr1.below h)
  have hl : (planL (runL rs0 rs1)).length ≤ 140737488355328 := by
    rw [planL_len]
    unfold runL
    split
    · have := List.length_filter_le (fun x : NodeV => allF rs1 x.path) rs0
      omega
    · simp
  clear hn0 hc0 hf0 hn1 hf1 hr0 hr1
  generalize runE rs0 rs1 = E at H1 H2
  generalize planL (runL rs0 rs1) = R at H1 H2 hl
  go_enter Tryz.func3, Tryz.ntmps3
  go_wp2_with fail
  refine H1.out.mono ?_; rintro e x1 ⟨v, xs, rfl, h1, h2, hb⟩
  have HB1 := Lib.hid hb
  obtain ⟨Ax, cx, rfl, -, hNx⟩ := h2.at
  rw [h1] at hNx
  have hxl : xs.length = R.length := by rw [← h1, List.length_map]
  have HNx := Lib.hid hNx
  rw [hxl]
  obtain ⟨nr, Hnr⟩ := hid_name R.length
  rw [Hnr.out] at hl ⊢
  clear hb h1 h2 hNx hxl
  go_wp2_with fail
  refine (H2.out _ HB1.out).mono ?_; rintro e x2 ⟨v, ys, rfl, h1, h2, hb⟩
  have HB2 := Lib.hid (HB1.out.trans (hb.mono HB1.out.size))
  obtain ⟨Ay, cy, rfl, -, hNy⟩ := h2.at
  rw [h1] at hNy
  have hyl : ys.length = nr := by rw [← Hnr.out, ← h1, List.length_map]
  have HS := Lib.hid fun W (h : Below x2.heap.size x2 W) => sameEntries_any Ax Ay nr cx nr cy R R Hnr.out Hnr.out hl hl W ((HNx.out.below hb).below h) (hNy.below h)
  rw [hyl]
  rw [decide_eq_true rfl] at HS
  clear hb h1 h2 hNy hyl
  go_wp2_with fail
  refine (HS.out _ (Below.refl _ _)).mono ?_; rintro e x3 ⟨rfl, hb⟩
  have HB3 := Lib.hid (HB2.out.trans (hb.mono HB2.out.size))
  clear hb HS
  go_wp2_with fail
  go_ret
  exact ⟨rfl, HB3.out⟩
end Go.Proofs.YtoikpnjnljdpaaaGreatDoor
