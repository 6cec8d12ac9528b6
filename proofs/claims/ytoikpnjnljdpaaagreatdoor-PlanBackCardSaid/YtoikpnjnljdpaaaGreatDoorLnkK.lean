/- Trees alike: creelkeep.Alike. -/
import Derived.Test.YtoikpnjnljdpaaaGreatDoorMth
import Derived.Test.YtoikpnjnljdpaaaGreatDoorLnp
import Derived.Test.YtoikpnjnljdpaaaGreatDoorKep
set_option linter.unusedVariables false
set_option maxRecDepth 100000
namespace Go.Proofs.YtoikpnjnljdpaaaGreatDoor
open Go.RowKit
open Go.OpenShut
set_option maxHeartbeats 4000000 in
theorem Alike_yes (A A2 : Option Addr) (n c c2 : Nat) (l l2 : List NodeV) (hn : l.length = n) (hn2 : l2.length = n) (hm : n ≤ 1000) (hal : alikeF l l2) (w : World) (hA : NodesAt w A l) (hA2 : NodesAt w A2 l2) :
    Calls Tryz.prog 13 #[.slice A n c, .slice A2 n c2] w fun e w' => e = .returned (.bool true) ∧ Below w.heap.size w w' := by
  have HN := Lib.hid hn
  have HN2 := Lib.hid hn2
  have HA := Lib.hid hA
  have HA2 := Lib.hid hA2
  have HL1 := Lib.hid hal.2.1
  have HL2 := Lib.hid hal.2.2
  clear hn hn2 hA hA2 hal
  go_enter Tryz.func13, Tryz.ntmps13
  go_wp2_with fail
  go_loopw [16] (fun iv wr => ∃ i : Nat, i ≤ n ∧ iv = .int .i64 i ∧ Hid (Below w.heap.size w wr)) (fun iv _ => n - (intOf iv).toNat)
  case atStart => exact ⟨0, Nat.zero_le _, rfl, Below.refl _ _⟩
  case round =>
    obtain ⟨i, hi, rfl, HB⟩ := hrel
    by_cases hlt : i < n
    · have i1 : i < l.length := by rw [HN.out]; exact hlt
      have i2 : i < l2.length := by rw [HN2.out]; exact hlt
      obtain ⟨b, o, D, cc, hbo, hb1, hSl, hD, hcl⟩ := HA.out.cells2 i i1
      obtain ⟨b', o', E, cd, hbo', hb1', hSl', hE, hcl'⟩ := HA2.out.cells2 i i2
      subst hbo hbo'
      have HE1 := Lib.hid (HL1.out i i1 i2)
      obtain ⟨c0, c1, c2', c3, ⟨c4, c5, c6, c7, c8, c9, cA⟩, cB⟩ := hcl wr HB.out
      obtain ⟨d0, d1, d2', d3, ⟨d4, d5, d6, d7, d8, d9, dA⟩, dB⟩ := hcl' wr HB.out
      have P1 := fun o1 => hcl _ (belowA HB.out o1)
      have Q1 := fun o1 => hcl' _ (belowA HB.out o1)
      have P2 := fun o1 o2 => hcl _ (belowA (belowA HB.out o1) o2)
      have Q2 := fun o1 o2 => hcl' _ (belowA (belowA HB.out o1) o2)
      simp only [forall_and] at P1 Q1 P2 Q2
      obtain ⟨p0, p1, p2', p3, ⟨p4, p5, p6, p7, p8, p9, pA⟩, pB⟩ := P1
      obtain ⟨q0, q1, q2', q3, ⟨q4, q5, q6, q7, q8, q9, qA⟩, qB⟩ := Q1
      obtain ⟨r0, r1, r2', r3, ⟨r4, r5, r6, r7, r8, r9, rA⟩, rB⟩ := P2
      obtain ⟨s0, s1, s2', s3, ⟨s4, s5, s6, s7, s8, s9, sA⟩, sB⟩ := Q2
      have HD := Lib.hid hD
      have HE := Lib.hid hE
      generalize l[i] = x at *
      generalize l2[i] = y at *
      clear hcl hcl' hSl hSl' hb1 hb1' hD hE
      have h3 : (i : Int) < (n : Int) := by omega
      have h4 : (0 : Int) ≤ (i : Int) := by omega
      go_upto_region 6 with fail
      go_region
      all_goals
        clear c0 c1 c2' c3 c4 c5 c6 c7 c8 c9 cA cB d0 d1 d2' d3 d4 d5 d6 d7 d8 d9 dA dB p0 p1 p2' p3 p4 p5 p6 p7 p8 p9 pA pB q0 q1 q2' q3 q4 q5 q6 q7 q8 q9 qA qB r0 r1 r2' r3 r4 r5 r6 r7 r8 r9 rA rB s0 s1 s2' s3 s4 s5 s6 s7 s8 s9 sA sB
        go_wp2_with fail
        refine (keepSame_any { x with same := 0 } { y with same := 0 } D E cc cd _ (HD.out.below (Below.drew (belowA (belowA HB.out _) _))) (HE.out.below (Below.drew (belowA (belowA HB.out _) _)))).mono ?_; rintro e w5 ⟨rfl, hb⟩
        rw [decide_eq_true HE1.out]
        have HB5 := Lib.hid ((Below.drew (belowA (belowA HB.out _) _)).trans (hb.mono (Below.drew (belowA (belowA HB.out _) _)).size))
        clear hb HD HE HE1 
        go_wp2_with fail
        go_loopw [34] (fun kv wy => ∃ k : Nat, k ≤ i ∧ kv = .int .i64 k ∧ Hid (Below w.heap.size w wy)) (fun kv _ => i - (intOf kv).toNat)
        case atStart => exact ⟨0, Nat.zero_le _, rfl, HB5.out⟩
        case round =>
          obtain ⟨k, hk, rfl, HY⟩ := hrel
          rename World => wy
          by_cases hlt2 : k < i
          · have k1 : k < l.length := by omega
            have k2 : k < l2.length := by omega
            obtain ⟨b3, o3, hb3, e1, e2⟩ := (HA.out.below HY.out).same2 i k i1 k1
            obtain ⟨b4, o4, hb4, f1, f2⟩ := (HA2.out.below HY.out).same2 i k i2 k2
            injection hb3 with hb3
            injection hb3 with hb3 ho3
            injection hb4 with hb4
            injection hb4 with hb4 ho4
            subst hb3 ho3 hb4 ho4
            have hiff := HL2.out i k hlt2 i1
            have h5 : (k : Int) < (n : Int) := by omega
            have h6 : (0 : Int) ≤ (k : Int) := by omega
            have HYc := Lib.hid HY.out
            generalize sameAt l i = si at e1 hiff
            generalize sameAt l k = sk at e2 hiff
            generalize sameAt l2 i = ti at f1 hiff
            generalize sameAt l2 k = tk at f2 hiff
            by_cases z1 : 0 < si
            · have z1' : decide (0 < si) = true := decide_eq_true z1
              by_cases z2 : si = sk
              · subst z2
                obtain ⟨z3, z4⟩ := hiff.1 ⟨z1, rfl⟩
                subst z4
                have z3' : decide (0 < ti) = true := decide_eq_true z3
                clear hiff
                go_upto_region 13 with fail
                go_quiet (fail)
                go_wp2_with fail
                go_roundw
                case rel => exact ⟨k + 1, by omega, by go_num, below_drewN HYc.out _⟩
                case measure => simp [intOf]; omega
              · have z2' : (si == sk) = false := by simpa using z2
                by_cases z3 : 0 < ti
                · have z3' : decide (0 < ti) = true := decide_eq_true z3
                  have z4 : (ti == tk) = false := by
                    apply Classical.byContradiction
                    intro hc
                    rw [Bool.not_eq_false, beq_iff_eq] at hc
                    exact z2 (hiff.2 ⟨z3, hc⟩).2
                  clear hiff z2
                  go_upto_region 13 with fail
                  go_quiet (fail)
                  go_wp2_with fail
                  go_roundw
                  case rel => exact ⟨k + 1, by omega, by go_num, below_drewN HYc.out _⟩
                  case measure => simp [intOf]; omega
                · have z3' : decide (0 < ti) = false := decide_eq_false z3
                  clear hiff z2
                  go_upto_region 13 with fail
                  go_quiet (fail)
                  go_wp2_with fail
                  go_roundw
                  case rel => exact ⟨k + 1, by omega, by go_num, below_drewN HYc.out _⟩
                  case measure => simp [intOf]; omega
            · have z1' : decide (0 < si) = false := decide_eq_false z1
              by_cases z3 : 0 < ti
              · have z3' : decide (0 < ti) = true := decide_eq_true z3
                have z4 : (ti == tk) = false := by
                  apply Classical.byContradiction
                  intro hc
                  rw [Bool.not_eq_false, beq_iff_eq] at hc
                  exact z1 (hiff.2 ⟨z3, hc⟩).1
                clear hiff
                go_upto_region 13 with fail
                go_quiet (fail)
                go_wp2_with fail
                go_roundw
                case rel => exact ⟨k + 1, by omega, by go_num, below_drewN HYc.out _⟩
                case measure => simp [intOf]; omega
              · have z3' : decide (0 < ti) = false := decide_eq_false z3
                clear hiff
                go_upto_region 13 with fail
                go_quiet (fail)
                go_wp2_with fail
                go_roundw
                case rel => exact ⟨k + 1, by omega, by go_num, below_drewN HYc.out _⟩
                case measure => simp [intOf]; omega
          · obtain rfl : k = i := by omega
            have HYc := Lib.hid HY.out
            go_wp2_with fail
            go_roundw
            case rel => exact ⟨k + 1, by omega, by go_num, HYc.out⟩
            case measure => simp [intOf]; omega
    · obtain rfl : i = n := by omega
      go_wp2_with fail
      go_ret
      exact ⟨rfl, HB.out⟩
end Go.Proofs.YtoikpnjnljdpaaaGreatDoor
