/- The laws on tree.Copy, tree.Put and tree.Remove. -/
import Derived.Test.YtggbjpjmedkjeaaDoorTrgM
set_option linter.unusedVariables false
set_option maxRecDepth 100000
namespace Go.Proofs.YtggbjpjmedkjeaaDoor
open Go.RowKit
open Go.OpenShut
set_option maxHeartbeats 2000000 in
theorem TreeRemoves_walk (A0 : Option Addr) (n0 c0 : Nat) (l0 : List NodeV) (a1 : ByteArray) (hn0 : l0.length = n0) (hm0 : n0 * 144 ≤ 140737488351232) (hf0 : ∀ r ∈ l0, r.wf) (hs0 : SlOk A0 n0 c0) (w1 : a1.size ≤ maxLen) (w : World) (hr0 : NodesAt w A0 l0) :
    Calls Tryd.prog 6 #[.slice A0 n0 c0, .string a1] w fun e w' => e = .returned (.bool true) ∧ Below w.heap.size w w' := by
  have hsz : ∀ x ∈ l0, x.sz := fun x hx => (hf0 x hx).sz
  have HA := Lib.hid hr0
  have H1 := Lib.hid fun W h => Remove_any A0 n0 c0 l0 a1 hn0 hm0 hs0 hsz w1 W h
  have H2 := Lib.hid fun W h => rRemove_any A0 n0 c0 l0 a1 hn0 hs0 hsz w1 W h
  have hlen : (remT l0 a1.data.toList).1.length ≤ n0 := by
    rw [← hn0]
    unfold remT
    split
    · exact Nat.zero_le _
    · split
      · exact Nat.zero_le _
      · exact remL_len _ _
  generalize remT l0 a1.data.toList = r at *
  obtain ⟨r1, r2⟩ := r
  simp only at H1 H2 hlen
  clear hr0 hf0 hsz w1 hn0 hs0
  go_enter Tryd.func6, Tryd.ntmps6
  go_wp2_with fail
  refine (H1.out _ HA.out).mono ?_; rintro e1 wa ⟨v1, xs1, rfl, hx1, hO1, hb⟩
  have HB1 := Lib.hid hb
  have HO1 := Lib.hid hO1
  have HX1 := Lib.hid hx1
  clear hb hO1 hx1
  go_wp2_with fail
  refine (H2.out _ (HA.out.below HB1.out)).mono ?_; rintro e1 wb ⟨v2, xs2, rfl, hx2, hO2, hb⟩
  have HB2 := Lib.hid (HB1.out.trans (hb.mono HB1.out.size))
  obtain ⟨A1, d1, rfl, -, hat1⟩ := (HO1.out.below hb).at
  obtain ⟨A2, d2, rfl, -, hat2⟩ := hO2.at
  rw [HX1.out] at hat1
  rw [hx2] at hat2
  have hl1 : xs1.length = r1.length := by rw [← HX1.out, List.length_map]
  have hl2 : xs2.length = r1.length := by rw [← hx2, List.length_map]
  rw [hl1, hl2]
  have HS := Lib.hid (sameTree_any A1 A2 r1.length d1 r1.length d2 r1 r1 rfl rfl (by omega) (by omega) wb hat1 hat2)
  rw [decide_eq_true rfl] at HS
  obtain ⟨q, hq⟩ := hid_name r1.length
  rw [hq.out] at HS ⊢
  clear hb hO2 hx2 hat1 hat2 hl1 hl2 hlen
  go_wp2_with fail
  refine HS.out.mono ?_; rintro e wc ⟨rfl, hb⟩
  have HB3 := Lib.hid (HB2.out.trans (hb.mono HB2.out.size))
  clear hb
  go_wp2_with fail
  go_ret
  exact ⟨rfl, HB3.out⟩
theorem putT_len (l : List NodeV) (x : NodeV) : (putT l x).1.length ≤ 41 := by
  unfold putT
  split
  · exact Nat.zero_le _
  · split
    · exact Nat.zero_le _
    · rename_i h
      have := ((treeE_zero (putL l x)).1 (by simpa using h)).1
      show (putL l x).length ≤ 41
      omega
set_option maxHeartbeats 4000000 in
theorem TreePuts_walk (A0 : Option Addr) (n0 c0 : Nat) (l0 : List NodeV) (a1 : NodeV) (D1 : Option Addr) (c1 : Nat) (hn0 : l0.length = n0) (hm0 : n0 * 144 ≤ 140737488351232) (hf0 : ∀ r ∈ l0, r.wf) (hs0 : SlOk A0 n0 c0) (w1 : a1.wf) (s1 : SlOk D1 a1.data.length c1) (hb : a1.path.length ≤ 1048576) (w : World) (hr0 : NodesAt w A0 l0) (hr1 : BytsAt w D1 a1.data) :
    Calls Tryd.prog 5 #[.slice A0 n0 c0, .agg (nodC a1 D1 c1).toArray] w fun e w' => e = .returned (.bool true) ∧ Below w.heap.size w w' := by
  have hsz : ∀ x ∈ l0, x.sz := fun x hx => (hf0 x hx).sz
  have HA := Lib.hid hr0
  have HD := Lib.hid hr1
  have H0 := Lib.hid fun W h => Copy_any A0 n0 c0 l0 hn0 hm0 hsz W h
  have H1 := Lib.hid fun W h h' => Put_any A0 n0 c0 l0 hn0 hs0 hsz a1 D1 c1 w1.sz s1 W h h'
  have H2 := Lib.hid fun W h => rCopy_any A0 n0 c0 l0 hn0 hm0 hsz W h
  have H3 := Lib.hid fun W h h' => rPut_any A0 n0 c0 l0 hn0 hs0 hsz a1 D1 c1 w1.sz (by omega) s1 W h h'
  have hlen := putT_len l0 a1
  have HN := Lib.hid hn0
  generalize putT l0 a1 = r at *
  obtain ⟨r1, r2⟩ := r
  simp only at H1 H3 hlen
  clear hr0 hr1 hf0 hsz w1 hn0 hs0 s1 hb
  obtain ⟨path, kind, same, target, ⟨m0, m1, m2, m3, m4, m5, m6⟩, data⟩ := a1
  unfold nodC at H1 H3 ⊢
  simp only at H1 H3 HD ⊢
  have hb0 := Blk.new w 26 #[.string (bs path), .int .i64 kind, .int .i64 same, .string (bs target), .int .i64 m0, .int .i64 m1, .int .i64 m2, .string (bs m3), .string (bs m4), .int .i64 m5, .int .i64 m6, .slice D1 data.length c1]
  have hw0 : Below w.heap.size w (w.alloc (.cells #[.string (bs path), .int .i64 kind, .int .i64 same, .string (bs target), .int .i64 m0, .int .i64 m1, .int .i64 m2, .string (bs m3), .string (bs m4), .int .i64 m5, .int .i64 m6, .slice D1 data.length c1] 26)) := (Below.refl _ _).alloc (Nat.le_refl _) _
  have HAa := Lib.hid (HA.out.below hw0)
  go_enter Tryd.func5, Tryd.ntmps5
  go_wp2_with fail
  refine (H0.out _ HAa.out).mono ?_; rintro e1 wa ⟨v0, xs0, rfl, hx0, hO0, hb⟩
  have hb1 := hb0.below hb hb0.lt
  have HB1 := Lib.hid (hw0.trans (hb.mono hw0.size))
  have HO0 := Lib.hid hO0
  have HX0 := Lib.hid hx0
  clear hb0 hw0 hb hO0 hx0
  obtain ⟨⟨q0, q1, q2, q3, q4, q5, q6, q7, q8, q9, qA, qB⟩, -⟩ := blk12 hb1
  go_wp2_with fail
  refine (H1.out _ (HA.out.below HB1.out) (HD.out.below HB1.out)).mono ?_; rintro e1 wb ⟨v1, xs1, rfl, hx1, hO1, hb⟩
  have hb2 := hb1.below hb hb1.lt
  have HB2 := Lib.hid (HB1.out.trans (hb.mono HB1.out.size))
  have HO0b := Lib.hid (HO0.out.below hb)
  have HO1 := Lib.hid hO1
  have HX1 := Lib.hid hx1
  clear hb1 hb hO1 hx1 q0 q1 q2 q3 q4 q5 q6 q7 q8 q9 qA qB HO0
  go_wp2_with fail
  refine (H2.out _ (HA.out.below HB2.out)).mono ?_; rintro e1 wc ⟨v2, xs2, rfl, hx2, hO2, hb⟩
  have hb3 := hb2.below hb hb2.lt
  have HB3 := Lib.hid (HB2.out.trans (hb.mono HB2.out.size))
  have HO0c := Lib.hid (HO0b.out.below hb)
  have HO1c := Lib.hid (HO1.out.below hb)
  have HO2 := Lib.hid hO2
  have HX2 := Lib.hid hx2
  clear hb2 hb hO2 hx2 HO0b HO1
  obtain ⟨⟨q0, q1, q2, q3, q4, q5, q6, q7, q8, q9, qA, qB⟩, -⟩ := blk12 hb3
  go_wp2_with fail
  refine (H3.out _ (HA.out.below HB3.out) (HD.out.below HB3.out)).mono ?_; rintro e1 wd ⟨v3, xs3, rfl, hx3, hO3, hb⟩
  have HB4 := Lib.hid (HB3.out.trans (hb.mono HB3.out.size))
  obtain ⟨A0', d0, rfl, -, hat0⟩ := (HO0c.out.below hb).at
  obtain ⟨A1, d1, rfl, -, hat1⟩ := (HO1c.out.below hb).at
  obtain ⟨A2, d2, rfl, -, hat2⟩ := (HO2.out.below hb).at
  obtain ⟨A3, d3, rfl, -, hat3⟩ := hO3.at
  rw [HX0.out] at hat0
  rw [HX1.out] at hat1
  rw [HX2.out] at hat2
  rw [hx3] at hat3
  have hl0 : xs0.length = n0 := by rw [← HN.out, ← HX0.out, List.length_map]
  have hl1 : xs1.length = r1.length := by rw [← HX1.out, List.length_map]
  have hl2 : xs2.length = n0 := by rw [← HN.out, ← HX2.out, List.length_map]
  have hl3 : xs3.length = r1.length := by rw [← hx3, List.length_map]
  rw [hl0, hl1, hl2, hl3]
  have HS := Lib.hid fun W h h' => sameTree_any A0' A2 n0 d0 n0 d2 l0 l0 HN.out HN.out (by omega) (by omega) W h h'
  have HS2 := Lib.hid fun W h h' => sameTree_any A1 A3 r1.length d1 r1.length d3 r1 r1 rfl rfl (by omega) (by omega) W h h'
  rw [decide_eq_true rfl] at HS HS2
  have HT0 := Lib.hid hat0
  have HT1 := Lib.hid hat1
  have HT2 := Lib.hid hat2
  have HT3 := Lib.hid hat3
  obtain ⟨q, hq⟩ := hid_name r1.length
  rw [hq.out] at HS2 ⊢
  clear hb hO3 hx3 hat0 hat1 hat2 hat3 hl0 hl1 hl2 hl3 hlen q0 q1 q2 q3 q4 q5 q6 q7 q8 q9 qA qB hb3
  go_wp2_with fail
  refine (HS.out _ HT0.out HT2.out).mono ?_; rintro e we ⟨rfl, hb⟩
  have HB5 := Lib.hid (HB4.out.trans (hb.mono HB4.out.size))
  have HT1b := Lib.hid (HT1.out.below hb)
  have HT3b := Lib.hid (HT3.out.below hb)
  clear hb
  go_wp2_with fail
  refine (HS2.out _ HT1b.out HT3b.out).mono ?_; rintro e wf ⟨rfl, hb⟩
  have HB6 := Lib.hid (HB5.out.trans (hb.mono HB5.out.size))
  clear hb
  go_wp2_with fail
  go_ret
  exact ⟨rfl, HB6.out⟩
end Go.Proofs.YtggbjpjmedkjeaaDoor
