/- Trees that are the same. -/
import Derived.Test.YtoikpnjnljdpaaaDoorNodE
import Derived.Deep.DeepCutAuto
set_option linter.unusedVariables false
set_option maxRecDepth 100000
namespace Go.Proofs.YtoikpnjnljdpaaaDoor
open Go.RowKit
open Go.OpenShut
set_option maxHeartbeats 4000000 in
theorem EqualFunc_any (f : Nat) (hf : ∀ (x y : NodeV) (D E : Option Addr) (c d : Nat) (w : World), BytsAt w D x.data → BytsAt w E y.data → Calls Tryd.prog f #[.agg (nodC x D c).toArray, .agg (nodC y E d).toArray] w fun e w' => e = .returned (.bool (decide (x = y))) ∧ Below w.heap.size w w')
    (ef : ∀ args w, (callFunc f args).run Tryd.prog w = .ok (.enter f args) w)
    (A A2 : Option Addr) (n c n2 c2 : Nat) (l l2 : List NodeV) (hn : l.length = n) (hn2 : l2.length = n2) (hm : n ≤ 140737488355328) (hm2 : n2 ≤ 140737488355328) (w : World) (hA : NodesAt w A l) (hA2 : NodesAt w A2 l2) :
    Calls Tryd.prog 26 #[.slice A n c, .slice A2 n2 c2, .func (.func f) #[] #[]] w fun e w' => e = .returned (.bool (decide (l = l2))) ∧ Below w.heap.size w w' := by
  have HN := Lib.hid hn
  have HN2 := Lib.hid hn2
  have HA := Lib.hid hA
  have HA2 := Lib.hid hA2
  have HF := Lib.hid hf
  clear hn hn2 hA hA2 hf
  by_cases hne : n = n2
  · subst hne
    go_enter Tryd.func26, Tryd.ntmps26
    go_wp2_with fail
    go_loopw [17] (fun i wr => ∃ k : Nat, k ≤ n ∧ i = .int .i64 k ∧ Hid (l.take k = l2.take k) ∧ Hid (Below w.heap.size w wr)) (fun i _ => n - (intOf i).toNat)
    case atStart => exact ⟨0, Nat.zero_le _, rfl, by unfold Hid; simp, Below.refl _ _⟩
    case round =>
      obtain ⟨k, hk, rfl, HE, HB⟩ := hrel
      by_cases hlt : k < n
      · have hk1 : k < l.length := by rw [HN.out]; exact hlt
        have hk2 : k < l2.length := by rw [HN2.out]; exact hlt
        obtain ⟨b, o, D, cc, rfl, c0, c1, c2', c3, ⟨c4, c5, c6, c7, c8, c9, cA⟩, cB, -, hD⟩ := (HA.out.below HB.out).cells k hk1
        obtain ⟨b2, o2, D2, cc2, rfl, d0, d1, d2, d3, ⟨d4, d5, d6, d7, d8, d9, dA⟩, dB, -, hD2⟩ := (HA2.out.below HB.out).cells k hk2
        have hb1 : b < wr.heap.size := World.block_lt_of_cell? wr _ c0
        have hb2 : b2 < wr.heap.size := World.block_lt_of_cell? wr _ d0
        have hne1 : b2 ≠ wr.heap.size := by omega
        generalize hx : l[k] = x at *
        generalize hy : l2[k] = y at *
        have HC := Lib.hid fun W h h' => HF.out x y D D2 cc cc2 W h h'
        unfold nodC at HC
        have HD := Lib.hid hD
        have HD2 := Lib.hid hD2
        clear hD hD2
        by_cases e : x = y
        · have HE2 : Hid (l.take (k + 1) = l2.take (k + 1)) := by
            unfold Hid
            rw [List.take_succ_eq_append_getElem hk1, List.take_succ_eq_append_getElem hk2, HE.out, hx, hy, e]
          rw [decide_eq_true e] at HC
          clear e hx hy
          go_upto_region 7 with fail
          generalize hwa : (wr.alloc _).alloc _ = wa
          have HBa : Hid (Below wr.heap.size wr wa) := by rw [← hwa]; exact belowA (belowA (Below.refl _ _) _) _
          have HBl1 := Blk.alloc (Blk.new wr 48 #[.string (bs x.path), .int .i64 x.kind, .int .i64 x.same, .string (bs x.target), .int .i64 x.md.mode, .int .i64 x.md.uid, .int .i64 x.md.gid, .string (bs x.md.user), .string (bs x.md.group), .int .i64 x.md.second, .int .i64 x.md.nano, .slice D x.data.length cc]) (.cells #[.string (bs y.path), .int .i64 y.kind, .int .i64 y.same, .string (bs y.target), .int .i64 y.md.mode, .int .i64 y.md.uid, .int .i64 y.md.gid, .string (bs y.md.user), .string (bs y.md.group), .int .i64 y.md.second, .int .i64 y.md.nano, .slice D2 y.data.length cc2] 48)
          have HBl2 := Blk.new (wr.alloc (.cells #[.string (bs x.path), .int .i64 x.kind, .int .i64 x.same, .string (bs x.target), .int .i64 x.md.mode, .int .i64 x.md.uid, .int .i64 x.md.gid, .string (bs x.md.user), .string (bs x.md.group), .int .i64 x.md.second, .int .i64 x.md.nano, .slice D x.data.length cc] 48)) 48 #[.string (bs y.path), .int .i64 y.kind, .int .i64 y.same, .string (bs y.target), .int .i64 y.md.mode, .int .i64 y.md.uid, .int .i64 y.md.gid, .string (bs y.md.user), .string (bs y.md.group), .int .i64 y.md.second, .int .i64 y.md.nano, .slice D2 y.data.length cc2]
          rw [hwa] at HBl1 HBl2
          rw [hszA] at HBl2
          obtain ⟨e0, e1, e2, e3, e4, e5, e6, e7, e8, e9, eA, eB⟩ := blk12 HBl1
          obtain ⟨g0, g1, g2, g3, g4, g5, g6, g7, g8, g9, gA, gB⟩ := blk12 HBl2
          clear hwa c0 c1 c2' c3 c4 c5 c6 c7 c8 c9 cA cB d0 d1 d2 d3 d4 d5 d6 d7 d8 d9 dA dB HBl1 HBl2
          go_wp2_with fail
          refine (HC.out _ (HD.out.below HBa.out) (HD2.out.below HBa.out)).mono ?_; rintro e' w4 ⟨rfl, hb4⟩
          have HB4 := Lib.hid (HB.out.trans ((HBa.out.trans (hb4.mono HBa.out.size)).mono HB.out.size))
          clear hb4 e0 e1 e2 e3 e4 e5 e6 e7 e8 e9 eA eB g0 g1 g2 g3 g4 g5 g6 g7 g8 g9 gA gB
          go_wp2_with fail
          go_roundw
          case rel => exact ⟨k + 1, by omega, by go_num, HE2, HB4⟩
          case measure => simp [intOf]; omega
        · have HV : Hid (decide (l = l2) = false) := decide_eq_false (fun e2 => e (by rw [← hx, ← hy]; subst e2; rfl))
          rw [decide_eq_false e] at HC
          clear e hx hy
          go_upto_region 7 with fail
          generalize hwa : (wr.alloc _).alloc _ = wa
          have HBa : Hid (Below wr.heap.size wr wa) := by rw [← hwa]; exact belowA (belowA (Below.refl _ _) _) _
          have HBl1 := Blk.alloc (Blk.new wr 48 #[.string (bs x.path), .int .i64 x.kind, .int .i64 x.same, .string (bs x.target), .int .i64 x.md.mode, .int .i64 x.md.uid, .int .i64 x.md.gid, .string (bs x.md.user), .string (bs x.md.group), .int .i64 x.md.second, .int .i64 x.md.nano, .slice D x.data.length cc]) (.cells #[.string (bs y.path), .int .i64 y.kind, .int .i64 y.same, .string (bs y.target), .int .i64 y.md.mode, .int .i64 y.md.uid, .int .i64 y.md.gid, .string (bs y.md.user), .string (bs y.md.group), .int .i64 y.md.second, .int .i64 y.md.nano, .slice D2 y.data.length cc2] 48)
          have HBl2 := Blk.new (wr.alloc (.cells #[.string (bs x.path), .int .i64 x.kind, .int .i64 x.same, .string (bs x.target), .int .i64 x.md.mode, .int .i64 x.md.uid, .int .i64 x.md.gid, .string (bs x.md.user), .string (bs x.md.group), .int .i64 x.md.second, .int .i64 x.md.nano, .slice D x.data.length cc] 48)) 48 #[.string (bs y.path), .int .i64 y.kind, .int .i64 y.same, .string (bs y.target), .int .i64 y.md.mode, .int .i64 y.md.uid, .int .i64 y.md.gid, .string (bs y.md.user), .string (bs y.md.group), .int .i64 y.md.second, .int .i64 y.md.nano, .slice D2 y.data.length cc2]
          rw [hwa] at HBl1 HBl2
          rw [hszA] at HBl2
          obtain ⟨e0, e1, e2, e3, e4, e5, e6, e7, e8, e9, eA, eB⟩ := blk12 HBl1
          obtain ⟨g0, g1, g2, g3, g4, g5, g6, g7, g8, g9, gA, gB⟩ := blk12 HBl2
          clear hwa c0 c1 c2' c3 c4 c5 c6 c7 c8 c9 cA cB d0 d1 d2 d3 d4 d5 d6 d7 d8 d9 dA dB HBl1 HBl2
          go_wp2_with fail
          refine (HC.out _ (HD.out.below HBa.out) (HD2.out.below HBa.out)).mono ?_; rintro e' w4 ⟨rfl, hb4⟩
          have HB4 := Lib.hid (HB.out.trans ((HBa.out.trans (hb4.mono HBa.out.size)).mono HB.out.size))
          clear hb4 e0 e1 e2 e3 e4 e5 e6 e7 e8 e9 eA eB g0 g1 g2 g3 g4 g5 g6 g7 g8 g9 gA gB
          go_wp2_with fail
          go_ret
          exact ⟨ret_bool HV.out.symm, HB4.out⟩
      · obtain rfl : k = n := by omega
        have HV : Hid (decide (l = l2) = true) := by
          have := HE.out
          rw [List.take_of_length_le (by rw [HN.out]; omega), List.take_of_length_le (by rw [HN2.out]; omega)] at this
          exact decide_eq_true this
        go_wp2_with fail
        go_ret
        exact ⟨ret_bool HV.out.symm, HB.out⟩
  · have HV : Hid (decide (l = l2) = false) := decide_eq_false (fun e => hne (by rw [← HN.out, ← HN2.out, e]))
    have hne2 : ((n : Int) != (n2 : Int)) = true := by simp; omega
    clear hne
    go_enter Tryd.func26, Tryd.ntmps26
    go_wp2_with fail
    go_ret
    exact ⟨ret_bool HV.out.symm, Below.refl _ _⟩
theorem sameTree_any (A A2 : Option Addr) (n c n2 c2 : Nat) (l l2 : List NodeV) (hn : l.length = n) (hn2 : l2.length = n2) (hm : n ≤ 140737488355328) (hm2 : n2 ≤ 140737488355328) (w : World) (hA : NodesAt w A l) (hA2 : NodesAt w A2 l2) :
    Calls Tryd.prog 12 #[.slice A n c, .slice A2 n2 c2] w fun e w' => e = .returned (.bool (decide (l = l2))) ∧ Below w.heap.size w w' := by
  go_enter Tryd.func12, Tryd.ntmps12
  go_wp2_with fail
  refine (EqualFunc_any 27 (fun x y D E c d w => sameNode_any x y D E c d w) (enters_of Tryd.func27 (by kernel_rfl) rfl) A A2 n c n2 c2 l l2 hn hn2 hm hm2 _ hA hA2).mono ?_; rintro e w1 ⟨rfl, hb⟩
  go_wp2_with fail
  go_ret
  exact ⟨rfl, hb⟩
end Go.Proofs.YtoikpnjnljdpaaaDoor
