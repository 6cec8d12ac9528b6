/- The laws on tree.Right, tree.Check and tree.Find. -/
import Derived.Test.YtggbjpjmedkjeaaDoorTrgD
import Derived.Test.YtggbjpjmedkjeaaDoorNodH
set_option linter.unusedVariables false
set_option maxRecDepth 100000
namespace Go.Proofs.YtggbjpjmedkjeaaDoor
open Go.RowKit
open Go.OpenShut
set_option maxHeartbeats 1000000 in
theorem TreeRights_walk (a0 : NodeV) (D0 : Option Addr) (c0 : Nat) (w0 : a0.wf) (s0 : SlOk D0 a0.data.length c0) (w : World) (hr0 : BytsAt w D0 a0.data) :
    Calls Tryd.prog 3 #[.agg (nodC a0 D0 c0).toArray] w fun e w' => e = .returned (.bool true) ∧ Below w.heap.size w w' := by
  have H1 := Lib.hid fun W => Right_any a0 D0 c0 w0.sz W
  have H2 := Lib.hid fun W => rNode_any a0 D0 c0 w0.sz W
  generalize nodE a0 = r at *
  clear w0 hr0 s0
  obtain ⟨path, kind, same, target, ⟨m0, m1, m2, m3, m4, m5, m6⟩, data⟩ := a0
  unfold nodC at H1 H2 ⊢
  simp only at H1 H2 ⊢
  have hb0 := Blk.new w 26 #[.string (bs path), .int .i64 kind, .int .i64 same, .string (bs target), .int .i64 m0, .int .i64 m1, .int .i64 m2, .string (bs m3), .string (bs m4), .int .i64 m5, .int .i64 m6, .slice D0 data.length c0]
  have hw0 : Below w.heap.size w (w.alloc (.cells #[.string (bs path), .int .i64 kind, .int .i64 same, .string (bs target), .int .i64 m0, .int .i64 m1, .int .i64 m2, .string (bs m3), .string (bs m4), .int .i64 m5, .int .i64 m6, .slice D0 data.length c0] 26)) := (Below.refl _ _).alloc (Nat.le_refl _) _
  go_enter Tryd.func3, Tryd.ntmps3
  go_wp2_with fail
  refine (H1.out _).mono ?_; rintro e1 w1 ⟨rfl, hb⟩
  have hb1 := hb0.below hb hb0.lt
  have hw1 := hw0.trans (hb.mono hw0.size)
  clear hb0 hw0 hb
  obtain ⟨⟨q0, q1, q2, q3, q4, q5, q6, q7, q8, q9, qA, qB⟩, -⟩ := blk12 hb1
  go_wp2_with fail
  refine (H2.out _).mono ?_; rintro e1 w2 ⟨rfl, hb⟩
  have HW2 := Lib.hid (hw1.trans (hb.mono hw1.size))
  clear hb1 hw1 hb q0 q1 q2 q3 q4 q5 q6 q7 q8 q9 qA qB
  go_wp2_with fail
  go_ret
  exact ⟨rfl, HW2.out⟩
set_option maxHeartbeats 2000000 in
theorem TreeChecks_walk (A0 : Option Addr) (n0 c0 : Nat) (l0 : List NodeV) (a1 : ByteArray) (hn0 : l0.length = n0) (hm0 : n0 * 144 ≤ 140737488351232) (hf0 : ∀ r ∈ l0, r.wf) (hs0 : SlOk A0 n0 c0) (w1 : a1.size ≤ maxLen) (w : World) (hr0 : NodesAt w A0 l0) :
    Calls Tryd.prog 4 #[.slice A0 n0 c0, .string a1] w fun e w' => e = .returned (.bool true) ∧ Below w.heap.size w w' := by
  have hsz : ∀ x ∈ l0, x.sz := fun x hx => (hf0 x hx).sz
  have HA := Lib.hid hr0
  have H1 := Lib.hid fun W h => trCheck_any A0 n0 c0 l0 hn0 hs0 hsz W h
  have H2 := Lib.hid fun W h => Find_any A0 n0 c0 l0 a1 hn0 (by omega) hsz W h
  have H3 := Lib.hid fun W h => rTree_any A0 n0 c0 l0 hn0 hs0 hsz W h
  have H4 := Lib.hid fun W h => rFind_any A0 n0 c0 l0 a1.data.toList hn0 (by omega) W h
  rw [bs_of] at H4
  have hle := findL_le l0 a1.data.toList
  rw [hn0] at hle
  generalize findL l0 a1.data.toList = f at *
  generalize treeE l0 = t at *
  clear hr0 hf0 hsz w1 hn0 hs0
  by_cases hlt : f < n0
  · rw [if_pos hlt] at H2
    clear hlt hle
    go_enter Tryd.func4, Tryd.ntmps4
    go_wp2_with fail
    refine (H1.out _ HA.out).mono ?_; rintro e1 wa ⟨rfl, hb⟩
    have HB1 := Lib.hid hb
    clear hb
    go_wp2_with fail
    refine (H2.out _ (HA.out.below HB1.out)).mono ?_; rintro e1 wb ⟨rfl, hb⟩
    have HB2 := Lib.hid (HB1.out.trans (hb.mono HB1.out.size))
    clear hb
    go_wp2_with fail
    refine (H3.out _ (HA.out.below HB2.out)).mono ?_; rintro e1 wc ⟨rfl, hb⟩
    have HB3 := Lib.hid (HB2.out.trans (hb.mono HB2.out.size))
    clear hb
    go_wp2_with fail
    refine (H4.out _ (HA.out.below HB3.out)).mono ?_; rintro e1 wd ⟨rfl, rfl⟩
    go_wp2_with fail
    go_ret
    exact ⟨rfl, HB3.out⟩
  · rw [if_neg hlt] at H2
    obtain rfl : f = n0 := by omega
    clear hlt hle
    go_enter Tryd.func4, Tryd.ntmps4
    go_wp2_with fail
    refine (H1.out _ HA.out).mono ?_; rintro e1 wa ⟨rfl, hb⟩
    have HB1 := Lib.hid hb
    clear hb
    go_wp2_with fail
    refine (H2.out _ (HA.out.below HB1.out)).mono ?_; rintro e1 wb ⟨rfl, hb⟩
    have HB2 := Lib.hid (HB1.out.trans (hb.mono HB1.out.size))
    clear hb
    go_wp2_with fail
    refine (H3.out _ (HA.out.below HB2.out)).mono ?_; rintro e1 wc ⟨rfl, hb⟩
    have HB3 := Lib.hid (HB2.out.trans (hb.mono HB2.out.size))
    clear hb
    go_wp2_with fail
    refine (H4.out _ (HA.out.below HB3.out)).mono ?_; rintro e1 wd ⟨rfl, rfl⟩
    go_wp2_with fail
    go_ret
    exact ⟨rfl, HB3.out⟩
end Go.Proofs.YtggbjpjmedkjeaaDoor
