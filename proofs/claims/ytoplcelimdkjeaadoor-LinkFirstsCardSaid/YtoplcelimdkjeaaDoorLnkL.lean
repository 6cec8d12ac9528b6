/- The laws of hard links: LinkFirsts, LinkAnews. -/
import Derived.Test.YtoplcelimdkjeaaDoorLnkP
import Derived.Test.YtoplcelimdkjeaaDoorNodF
set_option linter.unusedVariables false
set_option maxRecDepth 100000
namespace Go.Proofs.YtoplcelimdkjeaaDoor
open Go.RowKit
open Go.OpenShut
theorem firsts_len (l : List NodeV) : (if treeE l = 0 then fsL l else []).length ≤ 40 := by
  split
  · rename_i h
    rw [fsL_len]; exact sound_path' h
  · exact Nat.zero_le _
theorem lnkLNames_len (l : List NodeV) : (if treeE l = 0 then nmL l else []).length ≤ 40 := by
  split
  · rename_i h
    rw [nmL_len]; exact sound_path' h
  · exact Nat.zero_le _
theorem anew_len40 (l : List NodeV) : (if treeE l = 0 then anewF l else []).length ≤ 40 := by
  split
  · rename_i h
    rw [anewF_len]; exact sound_path' h
  · exact Nat.zero_le _
set_option maxHeartbeats 1000000 in
theorem LinkFirsts_walk (A0 : Option Addr) (n0 c0 : Nat) (rs0 : List NodeV) (hn0 : rs0.length = n0) (hm0 : n0 * 144 ≤ 140737488351232) (hf0 : ∀ r ∈ rs0, r.wf) (hc0 : SlOk A0 n0 c0) (w : World) (hr0 : NodesAt w A0 rs0) :
    Calls Tryd.prog 3 #[.slice A0 n0 c0] w fun e w' => e = .returned (.bool true) ∧ Below w.heap.size w w' := by
  have H1 := Lib.hid (lFirsts_any A0 n0 c0 rs0 hn0 hc0 (fun x hx => (hf0 x hx).sz) w hr0)
  have H2 := Lib.hid fun W (h : Below w.heap.size w W) => lNames_any A0 n0 c0 rs0 hn0 hc0 (fun x hx => (hf0 x hx).sz) W (hr0.below h)
  have H3 := Lib.hid fun W (h : Below w.heap.size w W) => rFirsts_any A0 n0 c0 rs0 hn0 hc0 (fun x hx => (hf0 x hx).sz) W (hr0.below h)
  have H4 := Lib.hid fun W (h : Below w.heap.size w W) => rNames_any A0 n0 c0 rs0 hn0 hc0 (fun x hx => (hf0 x hx).sz) W (hr0.below h)
  have hl1 := firsts_len rs0
  have hl2 := lnkLNames_len rs0
  clear hn0 hc0 hf0 hr0
  generalize (if treeE rs0 = 0 then fsL rs0 else []) = F at H1 H3 hl1
  generalize (if treeE rs0 = 0 then nmL rs0 else []) = G at H2 H4 hl2
  generalize treeE rs0 = E at H1 H2 H3 H4
  obtain ⟨nf, Hnf⟩ := hid_name F.length
  obtain ⟨ng, Hng⟩ := hid_name G.length
  rw [Hnf.out] at hl1
  rw [Hng.out] at hl2
  go_enter Tryd.func3, Tryd.ntmps3
  go_wp2_with fail
  refine H1.out.mono ?_; rintro e x1 ⟨v, rfl, h1, hb⟩
  have HB1 := Lib.hid hb
  obtain ⟨A1, c1, rfl, hN1⟩ := h1.at
  rw [Hnf.out]
  have HN1 := Lib.hid hN1
  clear hb h1 hN1
  go_wp2_with fail
  refine (H2.out _ HB1.out).mono ?_; rintro e x2 ⟨v, rfl, h1, hb⟩
  have HB2 := Lib.hid (HB1.out.trans (hb.mono HB1.out.size))
  have HN1b := Lib.hid (HN1.out.below hb)
  obtain ⟨A2, c2, rfl, hN2⟩ := h1.at
  rw [Hng.out]
  have HN2 := Lib.hid hN2
  clear hb h1 hN2 HN1
  go_wp2_with fail
  refine (H3.out _ HB2.out).mono ?_; rintro e x3 ⟨v, rfl, h1, hb⟩
  have HB3 := Lib.hid (HB2.out.trans (hb.mono HB2.out.size))
  have HN1c := Lib.hid (HN1b.out.below hb)
  have HN2c := Lib.hid (HN2.out.below hb)
  obtain ⟨A3, c3, rfl, hN3⟩ := h1.at
  rw [Hnf.out]
  have HN3 := Lib.hid hN3
  clear hb h1 hN3 HN1b HN2
  go_wp2_with fail
  refine (H4.out _ HB3.out).mono ?_; rintro e x4 ⟨v, rfl, h1, hb⟩
  have HB4 := Lib.hid (HB3.out.trans (hb.mono HB3.out.size))
  obtain ⟨A4, c4, rfl, hN4⟩ := h1.at
  rw [Hng.out]
  have HS1 := Lib.hid (sameInts_any A1 A3 nf c1 nf c3 F F Hnf.out Hnf.out (by omega) (by omega) x4 (HN1c.out.below hb) (HN3.out.below hb))
  have HS2 := Lib.hid fun W (h : Below x4.heap.size x4 W) => sameInts_any A2 A4 ng c2 ng c4 G G Hng.out Hng.out (by omega) (by omega) W ((HN2c.out.below hb).below h) (hN4.below h)
  rw [decide_eq_true rfl] at HS1 HS2
  clear hb h1 hN4 HN1c HN2c HN3
  go_wp2_with fail
  refine HS1.out.mono ?_; rintro e x5 ⟨rfl, hb⟩
  have HB5 := Lib.hid (HB4.out.trans (hb.mono HB4.out.size))
  have HS3 := Lib.hid (HS2.out _ hb)
  clear hb HS1 HS2
  go_wp2_with fail
  refine HS3.out.mono ?_; rintro e x6 ⟨rfl, hb⟩
  have HB6 := Lib.hid (HB5.out.trans (hb.mono HB5.out.size))
  clear hb HS3
  go_wp2_with fail
  go_ret
  exact ⟨rfl, HB6.out⟩
set_option maxHeartbeats 1000000 in
theorem LinkAnews_walk (A0 : Option Addr) (n0 c0 : Nat) (rs0 : List NodeV) (hn0 : rs0.length = n0) (hm0 : n0 * 144 ≤ 140737488351232) (hf0 : ∀ r ∈ rs0, r.wf) (hc0 : SlOk A0 n0 c0) (w : World) (hr0 : NodesAt w A0 rs0) :
    Calls Tryd.prog 4 #[.slice A0 n0 c0] w fun e w' => e = .returned (.bool true) ∧ Below w.heap.size w w' := by
  have H1 := Lib.hid (lAnew_any A0 n0 c0 rs0 hn0 hc0 (fun x hx => (hf0 x hx).sz) w hr0)
  have H2 := Lib.hid fun W (h : Below w.heap.size w W) => rAnew_any A0 n0 c0 rs0 hn0 hc0 (fun x hx => (hf0 x hx).sz) W (hr0.below h)
  have hl := anew_len40 rs0
  clear hn0 hc0 hf0 hr0
  generalize (if treeE rs0 = 0 then anewF rs0 else []) = R at H1 H2 hl
  generalize treeE rs0 = E at H1 H2
  go_enter Tryd.func4, Tryd.ntmps4
  go_wp2_with fail
  refine H1.out.mono ?_; rintro e x1 ⟨v, xs, rfl, h1, h2, hb⟩
  have HB1 := Lib.hid hb
  obtain ⟨Ax, cx, rfl, -, hNx⟩ := h2.at
  rw [h1] at hNx
  have hxl : xs.length = R.length := by rw [← h1, List.length_map]
  have HNx := Lib.hid hNx
  rw [hxl]
  obtain ⟨nr, Hnr⟩ := hid_name R.length
  rw [Hnr.out] at hl ⊢
  clear hb h1 h2 hNx hxl
  go_wp2_with fail
  refine (H2.out _ HB1.out).mono ?_; rintro e x2 ⟨v, ys, rfl, h1, h2, hb⟩
  have HB2 := Lib.hid (HB1.out.trans (hb.mono HB1.out.size))
  obtain ⟨Ay, cy, rfl, -, hNy⟩ := h2.at
  rw [h1] at hNy
  have hyl : ys.length = nr := by rw [← Hnr.out, ← h1, List.length_map]
  have HS := Lib.hid fun W (h : Below x2.heap.size x2 W) => sameTree_any Ax Ay nr cx nr cy R R Hnr.out Hnr.out (by omega) (by omega) W ((HNx.out.below hb).below h) (hNy.below h)
  rw [hyl]
  rw [decide_eq_true rfl] at HS
  clear hb h1 h2 hNy hyl
  go_wp2_with fail
  refine (HS.out _ (Below.refl _ _)).mono ?_; rintro e x3 ⟨rfl, hb⟩
  have HB3 := Lib.hid (HB2.out.trans (hb.mono HB2.out.size))
  clear hb HS
  go_wp2_with fail
  go_ret
  exact ⟨rfl, HB3.out⟩
end Go.Proofs.YtoplcelimdkjeaaDoor
