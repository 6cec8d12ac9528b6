/- The reference's first block of bytes: first. (Stage 17, ahead.) -/
import Derived.Test.YtldffnmoafhidaaGreatDoorMcv
import Derived.Test.YtldffnmoafhidaaGreatDoorMgh
import Derived.Test.YtldffnmoafhidaaGreatDoorHdo
import Derived.Test.YtldffnmoafhidaaGreatDoorPdc
import Derived.Deep.RegionHeld3
import Derived.Deep.RegionWith
set_option linter.unusedVariables false
set_option maxRecDepth 100000
namespace Go.Proofs.YtldffnmoafhidaaGreatDoor
open Go.RowKit
open Go.OpenShut
theorem own_set11 {B g : Nat} {W : World} {v : Value} {l : List UInt8} (h : OwnB W B v l) (hg : g < B) (v0 v1 v2 v3 v4 v5 v6 v7 v8 v9 v10 : Value) : OwnB (((((((((((W.setCell ⟨g, 0, none⟩ v0).setCell ⟨g, 1, none⟩ v1).setCell ⟨g, 2, none⟩ v2).setCell ⟨g, 3, none⟩ v3).setCell ⟨g, 4, none⟩ v4).setCell ⟨g, 5, none⟩ v5).setCell ⟨g, 6, none⟩ v6).setCell ⟨g, 7, none⟩ v7).setCell ⟨g, 8, none⟩ v8).setCell ⟨g, 9, none⟩ v9).setCell ⟨g, 10, none⟩ v10) B v l :=
  (ownsRow_setCell_below (ownsRow_setCell_below (ownsRow_setCell_below (ownsRow_setCell_below (ownsRow_setCell_below (ownsRow_setCell_below (ownsRow_setCell_below (ownsRow_setCell_below (ownsRow_setCell_below (ownsRow_setCell_below (ownsRow_setCell_below h (a := ⟨g, 0, none⟩) hg v0) (a := ⟨g, 1, none⟩) hg v1) (a := ⟨g, 2, none⟩) hg v2) (a := ⟨g, 3, none⟩) hg v3) (a := ⟨g, 4, none⟩) hg v4) (a := ⟨g, 5, none⟩) hg v5) (a := ⟨g, 6, none⟩) hg v6) (a := ⟨g, 7, none⟩) hg v7) (a := ⟨g, 8, none⟩) hg v8) (a := ⟨g, 9, none⟩) hg v9) (a := ⟨g, 10, none⟩) hg v10)
theorem padC_le (l : List UInt8) (n : Int) : (padC l n).1.1.length ≤ l.length := by
  unfold padC
  split
  · split
    · simp
    · split
      · simp only [List.length_take]; omega
      · simp
  · simp
theorem keepB {x W W' : World} (h : Below x.heap.size x W) (hb : Below W.heap.size W W') : Below x.heap.size x W' := h.trans (hb.mono h.size)
theorem zhead_eq : headC headZ = #[.string ⟨#[]⟩, .string ⟨#[]⟩, .string ⟨#[]⟩, .int .i64 0, .int .i64 0, .int .i64 0, .int .i64 0, .int .i64 0, .int .u8 0, .string ⟨#[]⟩, .string ⟨#[]⟩] := rfl
set_option maxHeartbeats 8000000 in
theorem rFirst_any (A : Option Addr) (n c : Nat) (l : List UInt8) (hn : l.length = n) (hn2 : n ≤ 140737488351232) (hc : SlOk A n c) (w : World) (hA : BytsAt w A l) :
    Calls Tryz.prog 33 #[.slice A n c] w fun e w' => ∃ v, e = .returned (.tuple #[.agg (headC (firstM l).1.1), v, .int .i64 ((firstM l).1.2.2 : Nat), .int .i64 (firstM l).2]) ∧ OwnB w' w.heap.size v (firstM l).1.2.1 ∧ Below w.heap.size w w' := by
  have hZ0 := Blk.new w 36 (headC headZ)
  have hB0 := (Below.refl w.heap.size w).alloc (Nat.le_refl _) (.cells (headC headZ) 36)
  rw [zhead_eq] at hZ0 hB0
  by_cases h5 : l.length < 512
  · have HF := Lib.hid (firstM_short h5)
    rw [HF.out]
    simp only
    rw [zhead_eq]
    obtain ⟨⟨q0, q1, q2, q3, q4, q5, q6, q7, q8, q9, qA⟩, f0, f1, f2, f3, f4, f5, f6, f7, f8, f9, fA⟩ := blk11 hZ0
    have HB0 := Lib.hid hB0
    have h5' : (n : Int) < 512 := by omega
    clear hA hB0 hZ0 hc h5
    go_enter Tryz.func33, Tryz.ntmps33
    go_wp2_with fail
    refine bodyPost_ret (v := .tuple #[.agg #[.string ⟨#[]⟩, .string ⟨#[]⟩, .string ⟨#[]⟩, .int .i64 0, .int .i64 0, .int .i64 0, .int .i64 0, .int .i64 0, .int .u8 0, .string ⟨#[]⟩, .string ⟨#[]⟩], .slice none 0 0, .int .i64 0, .int .i64 7]) (by simp [results, Tryz.results33, go_sem, *]) rfl ?_
    refine ⟨_, rfl, OwnB.nil _ _, ?_⟩
    exact HB0.out
  · have h5' : ¬ (n : Int) < 512 := by omega
    have hs1 : ∀ W : World, (Instr.slice 22 (.slice A n c) none (some (.int .i64 512)) none).run Tryz.prog W = .ok (.slice A 512 c) W := fun W => slice_to W A n c 512 (by have := hc.1; omega)
    have hs2 : ∀ W : World, (Instr.slice 22 (.slice A n c) (some (.int .i64 512)) none none).run Tryz.prog W = .ok (.slice (cutA A c 512) (n - 512) (c - 512)) W := fun W => slice_from W A n c 512 (by omega)
    have ht : (l.take 512).length = 512 := by rw [List.length_take]; omega
    have hcv := ((hA.below hB0).take 512).conv c (fun e => by have := hc.2.2 e; have := hc.1; omega)
    rw [ht] at hcv
    have HO := Lib.hid fun W => rHOf_any (bs (l.take 512)) W (by rw [bs_size, ht]; decide)
    rw [bs_list] at HO
    have HA2 := Lib.hid ((hA.cut (c := c) (by have := hc.1; omega) 512 (by omega)))
    have hl2 : (l.drop 512).length = n - 512 := by rw [List.length_drop, hn]
    have hsl2 := hc.cut 512 (by omega) (n - 512) (by have := hc.1; omega)
    have HCu := Lib.hid fun x W h => rCut_any (cutA A c 512) (n - 512) (c - 512) (l.drop 512) x hl2 (by omega) hsl2 W h
    have HF1 := Lib.hid (firstM_head h5)
    have HF2 := Lib.hid (firstM_cut h5)
    have HF3 := Lib.hid (firstM_ok h5)
    generalize firstM l = FM at HF1 HF2 HF3 ⊢
    generalize headR (l.take 512) = HR at HO HF1 HF2 HF3
    generalize bs (l.take 512) = LB at hcv HO
    generalize l.drop 512 = L2 at HA2 hl2 HCu HF1 HF2 HF3
    obtain ⟨⟨n0, n1, n2, n3, n4, n5, n6, n7, n8, n9, nA⟩, E1⟩ := HR
    simp only at HO HF1 HF2 HF3
    by_cases h0 : E1 = 0
    · subst h0
      have HG2 := Lib.hid (HF2.out rfl)
      have HG3 := Lib.hid (HF3.out rfl)
      have HCn := Lib.hid fun W h => HCu.out n6 W h
      clear HF1 HF2 HF3 HCu
      have hpc : (padC L2 n6).1.1.length ≤ 140737488351232 := Nat.le_trans (padC_le L2 n6) (by omega)
      generalize padC L2 n6 = PC at HCn HG2 HG3 hpc
      obtain ⟨⟨D1, D2⟩, E2⟩ := PC
      simp only at HCn HG2 HG3 hpc
      unfold headC at HO
      have HZ := Lib.hid hZ0
      have HB0 := Lib.hid hB0
      have hc1 := hc.1
      have hc2 := hc.2.1
      clear hA hB0 hZ0 hc h5 hl2 hsl2 ht
      go_enter Tryz.func33, Tryz.ntmps33
      go_wp2_with fail
      refine (HO.out _).mono ?_; rintro e x1 ⟨rfl, hb⟩
      have hB1 := HB0.out.trans (hb.mono HB0.out.size)
      have hB2 := hB1.alloc hB1.size (.cells #[.string (bs n0), .string (bs n1), .string (bs n2), .int .i64 n3, .int .i64 n4, .int .i64 n5, .int .i64 n6, .int .i64 n7, .int .u8 (n8.toNat : Int), .string (bs n9), .string (bs nA)] 36)
      have hZ2 := (HZ.out.below hb HZ.out.lt).alloc (.cells #[.string (bs n0), .string (bs n1), .string (bs n2), .int .i64 n3, .int .i64 n4, .int .i64 n5, .int .i64 n6, .int .i64 n7, .int .u8 (n8.toNat : Int), .string (bs n9), .string (bs nA)] 36)
      have hne : w.heap.size ≠ x1.heap.size := by have := hb.size; rw [hszA] at this; omega
      have hH2 := Blk.new x1 36 #[.string (bs n0), .string (bs n1), .string (bs n2), .int .i64 n3, .int .i64 n4, .int .i64 n5, .int .i64 n6, .int .i64 n7, .int .u8 (n8.toNat : Int), .string (bs n9), .string (bs nA)]
      clear hb hB1
      go_upto_region 4 with fail
      generalize x1.alloc (.cells #[.string (bs n0), .string (bs n1), .string (bs n2), .int .i64 n3, .int .i64 n4, .int .i64 n5, .int .i64 n6, .int .i64 n7, .int .u8 (n8.toNat : Int), .string (bs n9), .string (bs nA)] 36) = x2 at hB2 hZ2 hH2 ⊢
      generalize x1.heap.size = gH at hH2 hne ⊢
      have HB2 := Lib.hid hB2
      have HZ2 := Lib.hid hZ2
      have HH2 := Lib.hid hH2
      clear hB2 hZ2 hH2 HO HB0 HZ hcv hs1
      go_upto_region 6 with fail
      go_cut [8, 7] (fun v e wx => e = .int .i64 E2 ∧ Below x2.heap.size x2 wx ∧ OwnB wx x2.heap.size v D1)
      case first =>
        have r0 : ∀ W : World, Below x2.heap.size x2 W → W.cell? ⟨gH, 6, none⟩ = some (.int .i64 n6) := fun W h => by
          have := (HH2.out.below h HH2.out.lt).cell 6
          exact this
        have HC := Lib.hid fun W (h : Below x2.heap.size x2 W) => HCn.out W (HA2.out.below (HB2.out.trans (h.mono HB2.out.size)))
        have hS := Below.refl x2.heap.size x2
        go_region_held3 (fun W => Below x2.heap.size x2 W)
          (first
            | (with_reducible assumption)
            | (with_reducible refine Below.drew ?_; with_reducible assumption)
            | (with_reducible exact keepB (by with_reducible assumption) (by with_reducible assumption)))
          (first
            | (go_at_call 79; refine (HC.out _ (by first | with_reducible assumption | with_reducible exact Below.drew (by with_reducible assumption))).mono ?_; rintro e w3 ⟨v1, v2, rfl, ho1, -, hb3⟩))
        all_goals
          go_wp2_with fail
          go_meet
          refine ⟨rfl, ?_, ?_⟩
          · first
              | with_reducible exact keepB (by with_reducible assumption) hb3
              | exact keepB (Below.drew (Below.refl _ _)) hb3
          · exact OwnB.mono ho1 (Nat.le_refl _)
      case rest =>
        obtain ⟨rfl, hB3, hO3⟩ := hcut
        rename World => x3
        have HB3 := Lib.hid (HB2.out.trans (hB3.mono HB2.out.size))
        obtain ⟨⟨q0, q1, q2, q3, q4, q5, q6, q7, q8, q9, qA⟩, f0, f1, f2, f3, f4, f5, f6, f7, f8, f9, fA⟩ := blk11 (HZ2.out.below hB3 HZ2.out.lt)
        have hH3 := HH2.out.below hB3 HH2.out.lt
        obtain ⟨A1, c1, rfl, hs3, ha3⟩ := hO3.form
        have HO3 := Lib.hid hO3
        have hRlt : w.heap.size < x2.heap.size := HZ2.out.lt
        by_cases h2 : E2 = 0
        · subst h2
          have HF := Lib.hid (HG3.out rfl)
          have hpl := padF_length D1
          have HFi := Lib.hid fun W h => rFill_any A1 D1.length c1 D1 rfl hpc hs3.2.2 W h
          have HA3 := Lib.hid ha3
          have hZ3 := HZ2.out.below hB3 HZ2.out.lt
          have HPL : Hid ((padF D1).length = 512 * padN D1.length) := hpl
          have hpb : (padF D1).length ≤ 281474976710656 := by have := padN_lt D1.length; omega
          generalize hPF : padF D1 = PF at HFi HPL hpb
          have hwr : IntKind.i64.wrap (512 + (PF.length : Int)) = 512 + (PF.length : Int) := by rw [IntKind.wrap_i64]; omega
          clear hpl hPF hB3 hO3 ha3
          obtain ⟨⟨g0, g1, g2, g3, g4, g5, g6, g7, g8, g9, gA⟩, -⟩ := blk11 hH3
          go_upto_region 9 with fail
          go_region_with
            (first
              | (go_at_call 80; refine (HFi.out _ (by first | with_reducible exact HA3.out | exact HA3.out)).mono ?_; rintro e w4 ⟨v4, rfl, ho4, hb4⟩; obtain ⟨A4, c4, rfl, -, -⟩ := ho4.form; have hK4 : Below x3.heap.size x3 w4 := (by first | exact hb4 | exact (Below.drew (Below.refl x3.heap.size x3)).trans hb4); obtain ⟨⟨p0, p1, p2, p3, p4, p5, p6, p7, p8, p9, pA⟩, -⟩ := blk11 (hH3.below hK4 hH3.lt); obtain ⟨⟨r0, r1, r2, r3, r4, r5, r6, r7, r8, r9, rA⟩, s0, s1, s2, s3, s4, s5, s6, s7, s8, s9, sA⟩ := blk11 (hZ3.below hK4 hZ3.lt); clear ho4 hb4))
          all_goals
            have HB9 := Lib.hid (HB3.out.trans (hK4.mono HB3.out.size))
            have HO9 := Lib.hid (HO3.out.below hK4)
            clear hK4 hH3 hZ3
            go_wp2_with fail
            refine bodyPost_ret (v := .tuple #[.agg #[.string (bs n0), .string (bs n1), .string (bs n2), .int .i64 n3, .int .i64 n4, .int .i64 n5, .int .i64 n6, .int .i64 n7, .int .u8 (n8.toNat : Int), .string (bs n9), .string (bs nA)], .slice A1 D1.length c1, .int .i64 (512 + (PF.length : Int)), .int .i64 0]) (by simp [results, Tryz.results33, go_sem, *]) rfl ?_
            rw [HF.out]
            simp only
            have e9 : (512 + (PF.length : Int)) = ((512 + 512 * padN D1.length : Nat) : Int) := by have := HPL.out; omega
            rw [e9]
            refine ⟨_, rfl, OwnB.mono (own_set11 HO9.out hRlt _ _ _ _ _ _ _ _ _ _ _) (Nat.le_of_lt hRlt), ?_⟩
            exact below_set11 HB9.out (Nat.le_refl _) _ _ _ _ _ _ _ _ _ _ _
        · have HF := Lib.hid (HG2.out h2)
          have hne2 : (E2 != 0) = true := by simpa using h2
          clear hO3 ha3 hB3 hH3
          go_wp2_with fail
          refine bodyPost_ret (v := .tuple #[.agg #[.string ⟨#[]⟩, .string ⟨#[]⟩, .string ⟨#[]⟩, .int .i64 0, .int .i64 0, .int .i64 0, .int .i64 0, .int .i64 0, .int .u8 0, .string ⟨#[]⟩, .string ⟨#[]⟩], .slice none 0 0, .int .i64 0, .int .i64 E2]) (by simp [results, Tryz.results33, go_sem, *]) rfl ?_
          rw [HF.out]
          refine ⟨_, rfl, OwnB.nil _ _, ?_⟩
          exact below_set11 HB3.out (Nat.le_refl _) _ _ _ _ _ _ _ _ _ _ _
    · have HF := Lib.hid (HF1.out h0)
      rw [HF.out]
      simp only
      rw [zhead_eq]
      have hne : (E1 != 0) = true := by simpa using h0
      have HZ := Lib.hid hZ0
      have HB0 := Lib.hid hB0
      clear hA hB0 hZ0 hc h5 HF1 HF2 HF3 HF HCu HA2 hl2 hsl2 h0 hs2 ht
      unfold headC at HO
      go_enter Tryz.func33, Tryz.ntmps33
      go_wp2_with fail
      refine (HO.out _).mono ?_; rintro e x1 ⟨rfl, hb⟩
      have hB1 := HB0.out.trans (hb.mono HB0.out.size)
      have hB2 := hB1.alloc hB1.size (.cells #[.string (bs n0), .string (bs n1), .string (bs n2), .int .i64 n3, .int .i64 n4, .int .i64 n5, .int .i64 n6, .int .i64 n7, .int .u8 (n8.toNat : Int), .string (bs n9), .string (bs nA)] 36)
      have hZ2 := (HZ.out.below hb HZ.out.lt).alloc (.cells #[.string (bs n0), .string (bs n1), .string (bs n2), .int .i64 n3, .int .i64 n4, .int .i64 n5, .int .i64 n6, .int .i64 n7, .int .u8 (n8.toNat : Int), .string (bs n9), .string (bs nA)] 36)
      clear hb hB1
      go_upto_region 4 with fail
      generalize x1.alloc (.cells #[.string (bs n0), .string (bs n1), .string (bs n2), .int .i64 n3, .int .i64 n4, .int .i64 n5, .int .i64 n6, .int .i64 n7, .int .u8 (n8.toNat : Int), .string (bs n9), .string (bs nA)] 36) = x2 at hB2 hZ2 ⊢
      have HB := Lib.hid hB2
      obtain ⟨⟨q0, q1, q2, q3, q4, q5, q6, q7, q8, q9, qA⟩, f0, f1, f2, f3, f4, f5, f6, f7, f8, f9, fA⟩ := blk11 hZ2
      clear hB2 hZ2 hs1 hcv hn hn2 h5'
      go_wp2_with fail
      clear hne
      refine bodyPost_ret (v := .tuple #[.agg #[.string ⟨#[]⟩, .string ⟨#[]⟩, .string ⟨#[]⟩, .int .i64 0, .int .i64 0, .int .i64 0, .int .i64 0, .int .i64 0, .int .u8 0, .string ⟨#[]⟩, .string ⟨#[]⟩], .slice none 0 0, .int .i64 0, .int .i64 E1]) (by simp [results, Tryz.results33, go_sem, *]) rfl ?_
      refine ⟨_, rfl, OwnB.nil _ _, ?_⟩
      exact below_set11 HB.out (Nat.le_refl _) _ _ _ _ _ _ _ _ _ _ _
end Go.Proofs.YtldffnmoafhidaaGreatDoor
