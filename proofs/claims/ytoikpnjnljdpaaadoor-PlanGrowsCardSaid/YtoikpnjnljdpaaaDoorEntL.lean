/- The laws of package plan against the reference: PlanRights, PlanChecks, PlanGrows. -/
import Derived.Test.YtoikpnjnljdpaaaDoorEntS
import Derived.Test.YtoikpnjnljdpaaaDoorNodF
set_option linter.unusedVariables false
set_option maxRecDepth 100000
namespace Go.Proofs.YtoikpnjnljdpaaaDoor
open Go.RowKit
open Go.OpenShut
set_option maxHeartbeats 1000000 in
theorem PlanRights_walk (a0 : EntV) (D0 : Option Addr) (c0 : Nat) (w0 : a0.wf) (s0 : SlOk D0 a0.data.length c0) (w : World) (hr0 : BytsAt w D0 a0.data) :
    Calls Tryd.prog 3 #[.agg (entC a0 D0 c0).toArray] w fun e w' => e = .returned (.bool true) ∧ Below w.heap.size w w' := by
  have H1 := Lib.hid fun W => pRight_any a0 D0 c0 w0.sz W
  have H2 := Lib.hid fun W => rEnt_any a0 D0 c0 w0.sz W
  unfold entC at H1 H2 ⊢
  generalize entE a0 = E at H1 H2
  have hw0 : Below w.heap.size w (w.alloc (.cells #[.string (bs a0.path), .int .i64 a0.kind, .string (bs a0.target), .int .i64 a0.md.mode, .int .i64 a0.md.uid, .int .i64 a0.md.gid, .string (bs a0.md.user), .string (bs a0.md.group), .int .i64 a0.md.second, .int .i64 a0.md.nano, .slice D0 a0.data.length c0] 26)) := belowA (Below.refl _ _) _
  have HW0 := Lib.hid hw0
  have hbx := Blk.new w 26 #[.string (bs a0.path), .int .i64 a0.kind, .string (bs a0.target), .int .i64 a0.md.mode, .int .i64 a0.md.uid, .int .i64 a0.md.gid, .string (bs a0.md.user), .string (bs a0.md.group), .int .i64 a0.md.second, .int .i64 a0.md.nano, .slice D0 a0.data.length c0]
  clear hw0 hr0 s0
  go_enter Tryd.func3, Tryd.ntmps3
  go_wp2_with fail
  refine (H1.out _).mono ?_; rintro e x1 ⟨rfl, hb⟩
  have hb1 := hbx.below hb hbx.lt
  have HB1 := Lib.hid hb
  obtain ⟨⟨c0', c1', c3', c4', c5', c6', c7', c8', c9', cA', cB'⟩, -⟩ := blk11 hb1
  clear hb hbx hb1
  go_wp2_with fail
  refine (H2.out _).mono ?_; rintro e x2 ⟨rfl, hb⟩
  have HB2 := Lib.hid (HB1.out.trans (hb.mono HB1.out.size))
  clear hb
  go_wp2_with fail
  go_ret
  exact ⟨rfl, by first | exact HB2.out | exact HW0.out.trans (HB2.out.mono HW0.out.size)⟩
set_option maxHeartbeats 1000000 in
theorem PlanChecks_walk (A0 : Option Addr) (n0 c0 : Nat) (rs0 : List EntV) (hn0 : rs0.length = n0) (hm0 : n0 * 136 ≤ 140737488351232) (hf0 : ∀ r ∈ rs0, r.wf) (hc0 : SlOk A0 n0 c0) (w : World) (hr0 : EntsAt w A0 rs0) :
    Calls Tryd.prog 4 #[.slice A0 n0 c0] w fun e w' => e = .returned (.bool true) ∧ Below w.heap.size w w' := by
  have H1 := Lib.hid fun W (h : Below w.heap.size w W) => entPPCheck_any A0 n0 c0 rs0 hn0 hc0 (fun x hx => (hf0 x hx).sz) W (hr0.below h)
  have H2 := Lib.hid fun W (h : Below w.heap.size w W) => rEnts_any A0 n0 c0 rs0 hn0 hc0 (fun x hx => (hf0 x hx).sz) W (hr0.below h)
  generalize entsE rs0 = E at H1 H2
  clear hn0 hf0 hc0 hr0
  go_enter Tryd.func4, Tryd.ntmps4
  go_wp2_with fail
  refine (H1.out _ (Below.refl _ _)).mono ?_; rintro e x1 ⟨rfl, hb⟩
  have HB1 := Lib.hid hb
  clear hb
  go_wp2_with fail
  refine (H2.out _ HB1.out).mono ?_; rintro e x2 ⟨rfl, hb⟩
  have HB2 := Lib.hid (HB1.out.trans (hb.mono HB1.out.size))
  clear hb
  go_wp2_with fail
  go_ret
  exact ⟨rfl, HB2.out⟩
set_option maxHeartbeats 1000000 in
theorem PlanGrows_walk (A0 : Option Addr) (n0 c0 : Nat) (rs0 : List EntV) (hn0 : rs0.length = n0) (hm0 : n0 * 136 ≤ 140737488351232) (hf0 : ∀ r ∈ rs0, r.wf) (hc0 : SlOk A0 n0 c0) (w : World) (hr0 : EntsAt w A0 rs0) :
    Calls Tryd.prog 5 #[.slice A0 n0 c0] w fun e w' => e = .returned (.bool true) ∧ Below w.heap.size w w' := by
  have H1 := Lib.hid (pTree_any A0 n0 c0 rs0 hn0 hc0 (fun x hx => (hf0 x hx).sz) w hr0)
  have H2 := Lib.hid fun W (h : Below w.heap.size w W) => rGrow_any A0 n0 c0 rs0 hn0 hc0 (fun x hx => (hf0 x hx).sz) W (hr0.below h)
  have hl : (growT rs0).length ≤ 140737488355328 := by
    unfold growT
    split
    · rw [growL_len]; omega
    · simp
  clear hn0 hc0 hf0 hr0
  generalize entsE rs0 = E at H1 H2
  generalize growT rs0 = R at H1 H2 hl
  go_enter Tryd.func5, Tryd.ntmps5
  go_wp2_with fail
  refine H1.out.mono ?_; rintro e x1 ⟨v, xs, rfl, h1, h2, hb⟩
  have HB1 := Lib.hid hb
  obtain ⟨Ax, cx, rfl, -, hNx⟩ := h2.at
  rw [h1] at hNx
  have hxl : xs.length = R.length := by rw [← h1, List.length_map]
  have HNx := Lib.hid hNx
  rw [hxl]
  obtain ⟨nr, Hnr⟩ := hid_name R.length
  rw [Hnr.out] at hl ⊢
  clear hb h1 h2 hNx hxl
  go_wp2_with fail
  refine (H2.out _ HB1.out).mono ?_; rintro e x2 ⟨v, ys, rfl, h1, h2, hb⟩
  have HB2 := Lib.hid (HB1.out.trans (hb.mono HB1.out.size))
  obtain ⟨Ay, cy, rfl, -, hNy⟩ := h2.at
  rw [h1] at hNy
  have hyl : ys.length = nr := by rw [← Hnr.out, ← h1, List.length_map]
  have HS := Lib.hid fun W (h : Below x2.heap.size x2 W) => sameTree_any Ax Ay nr cx nr cy R R Hnr.out Hnr.out hl hl W ((HNx.out.below hb).below h) (hNy.below h)
  rw [hyl]
  rw [decide_eq_true rfl] at HS
  clear hb h1 h2 hNy hyl
  go_wp2_with fail
  refine (HS.out _ (Below.refl _ _)).mono ?_; rintro e x3 ⟨rfl, hb⟩
  have HB3 := Lib.hid (HB2.out.trans (hb.mono HB2.out.size))
  clear hb HS
  go_wp2_with fail
  go_ret
  exact ⟨rfl, HB3.out⟩
end Go.Proofs.YtoikpnjnljdpaaaDoor
