/- Texts of one kind, in one file: MemD, MemW, StpD, MemT. -/
import Derived.Test.YtmejnabngfpbeaaGreatDoorMcv
import Derived.Test.YtmejnabngfpbeaaGreatDoorMgh
import Derived.Test.YtmejnabngfpbeaaGreatDoorHdo
import Derived.Test.YtmejnabngfpbeaaGreatDoorPda
import Derived.Deep.RegionHeld3
import Derived.Deep.RegionWith
import Derived.Test.YtmejnabngfpbeaaGreatDoorMth
import Derived.Test.YtmejnabngfpbeaaGreatDoorHdp
import Derived.Lib.MinMax
import Derived.Test.YtmejnabngfpbeaaGreatDoorRca
import Derived.Test.YtmejnabngfpbeaaGreatDoorEna
set_option linter.unusedVariables false
set_option maxRecDepth 100000
namespace Go.Proofs.YtmejnabngfpbeaaGreatDoor
open Go.RowKit
open Go.OpenShut
theorem own_set11 {B g : Nat} {W : World} {v : Value} {l : List UInt8} (h : OwnB W B v l) (hg : g < B) (v0 v1 v2 v3 v4 v5 v6 v7 v8 v9 v10 : Value) : OwnB (((((((((((W.setCell ⟨g, 0, none⟩ v0).setCell ⟨g, 1, none⟩ v1).setCell ⟨g, 2, none⟩ v2).setCell ⟨g, 3, none⟩ v3).setCell ⟨g, 4, none⟩ v4).setCell ⟨g, 5, none⟩ v5).setCell ⟨g, 6, none⟩ v6).setCell ⟨g, 7, none⟩ v7).setCell ⟨g, 8, none⟩ v8).setCell ⟨g, 9, none⟩ v9).setCell ⟨g, 10, none⟩ v10) B v l :=
 (ownsRow_setCell_below (ownsRow_setCell_below (ownsRow_setCell_below (ownsRow_setCell_below (ownsRow_setCell_below (ownsRow_setCell_below (ownsRow_setCell_below (ownsRow_setCell_below (ownsRow_setCell_below (ownsRow_setCell_below (ownsRow_setCell_below h (a := ⟨g, 0, none⟩) hg v0) (a := ⟨g, 1, none⟩) hg v1) (a := ⟨g, 2, none⟩) hg v2) (a := ⟨g, 3, none⟩) hg v3) (a := ⟨g, 4, none⟩) hg v4) (a := ⟨g, 5, none⟩) hg v5) (a := ⟨g, 6, none⟩) hg v6) (a := ⟨g, 7, none⟩) hg v7) (a := ⟨g, 8, none⟩) hg v8) (a := ⟨g, 9, none⟩) hg v9) (a := ⟨g, 10, none⟩) hg v10)
theorem keepB {x W W' : World} (h : Below x.heap.size x W) (hb : Below W.heap.size W W') : Below x.heap.size x W' := h.trans (hb.mono h.size)
theorem zhead_eq : headC headZ = #[.string ⟨#[]⟩, .string ⟨#[]⟩, .string ⟨#[]⟩, .int .i64 0, .int .i64 0, .int .i64 0, .int .i64 0, .int .i64 0, .int .u8 0, .string ⟨#[]⟩, .string ⟨#[]⟩] := rfl
theorem padC_le2 (l : List UInt8) (n : Int) : (padC l n).1.1.length ≤ 8589934592 := by
 unfold padC
 split
 ·split
  ·simp
  ·split
   ·simp only [List.length_take]; omega
   ·simp
 ·simp
set_option maxHeartbeats 8000000 in
theorem decode_any (A : Option Addr) (n c : Nat) (l : List UInt8) (hn : l.length = n) (hn2 : n ≤ 281474976000000) (hc : SlOk A n c) (w : World) (hA : BytsAt w A l) :
  Calls Tryz.prog 49 #[.slice A n c] w fun e w' => ∃ v, e = .returned (.tuple #[.agg (headC (firstM l).1.1), v, .int .i64 ((firstM l).1.2.2 : Nat), .int .i64 (firstM l).2]) ∧ OwnB w' w.heap.size v (firstM l).1.2.1 ∧ Below w.heap.size w w' := by
 have hZ0 := Blk.new w 74 (headC headZ)
 have hB0 := (Below.refl w.heap.size w).alloc (Nat.le_refl _) (.cells (headC headZ) 74)
 rw [zhead_eq] at hZ0 hB0
 by_cases h5 : l.length < 512
 ·have HF := Lib.hid (firstM_short h5)
  rw [HF.out]
  simp only
  rw [zhead_eq]
  obtain ⟨⟨q0, q1, q2, q3, q4, q5, q6, q7, q8, q9, qA⟩, f0, f1, f2, f3, f4, f5, f6, f7, f8, f9, fA⟩ := blk11 hZ0
  have HB0 := Lib.hid hB0
  have h5' : (n : Int) < 512 := by omega
  clear hA hB0 hZ0 hc h5
  go_enter Tryz.func49, Tryz.ntmps49
  go_wp2_with fail
  refine bodyPost_ret (v := .tuple #[.agg #[.string ⟨#[]⟩, .string ⟨#[]⟩, .string ⟨#[]⟩, .int .i64 0, .int .i64 0, .int .i64 0, .int .i64 0, .int .i64 0, .int .u8 0, .string ⟨#[]⟩, .string ⟨#[]⟩], .slice none 0 0, .int .i64 0, .int .i64 7]) (by simp [results, Tryz.results49, go_sem, *]) rfl ?_
  refine ⟨_, rfl, OwnB.nil _ _, ?_⟩
  exact HB0.out
 ·have h5' : ¬ (n : Int) < 512 := by omega
  have hs1 : ∀ W : World, (Instr.slice 22 (.slice A n c) none (some (.int .i64 512)) none).run Tryz.prog W = .ok (.slice A 512 c) W := fun W => slice_to W A n c 512 (by have := hc.1; omega)
  have hs2 : ∀ W : World, (Instr.slice 22 (.slice A n c) (some (.int .i64 512)) none none).run Tryz.prog W = .ok (.slice (cutA A c 512) (n - 512) (c - 512)) W := fun W => slice_from W A n c 512 (by omega)
  have ht : (l.take 512).length = 512 := by rw [List.length_take]; omega
  have hcv := ((hA.below hB0).take 512).conv c (fun e => by have := hc.2.2 e; have := hc.1; omega)
  rw [ht] at hcv
  have HO := Lib.hid fun W => hRead_any (bs (l.take 512)) W (by rw [bs_size, ht]; decide)
  rw [bs_list] at HO
  have hl0 : n = l.length := hn.symm
  have HF1 := Lib.hid (firstM_head h5)
  have HF2 := Lib.hid (firstM_cut h5)
  have HF3 := Lib.hid (firstM_ok h5)
  have hSz := fun h => (firstM_size (b := l) h).1
  generalize hFM : firstM l = FM at HF1 HF2 HF3 hSz ⊢
  generalize headR (l.take 512) = HR at HO HF1 HF2 HF3 hSz
  generalize bs (l.take 512) = LB at hcv HO
  obtain ⟨⟨n0, n1, n2, n3, n4, n5, n6, n7, n8, n9, nA⟩, E1⟩ := HR
  simp only at HO HF1 HF2 HF3 hSz
  by_cases h0 : E1 = 0
  ·subst h0
   obtain ⟨k, hk, hk2⟩ := padB_nat n6
   have HBl := Lib.hid fun W => Blocks_any n6 W
   rw [hk] at HBl hSz
   rw [Int.toNat_natCast] at hSz
   have hw1 : IntKind.i64.wrap (1 + (k : Int)) = ((1 + k : Nat) : Int) := by rw [IntKind.wrap_i64]; omega
   obtain ⟨k1, hk1⟩ : ∃ k1, k1 = 1 + k := ⟨_, rfl⟩
   rw [← hk1] at hw1
   obtain ⟨sz, hsz⟩ : ∃ sz, sz = k1 * 512 := ⟨_, rfl⟩
   have hw2 : IntKind.i64.wrap ((k1 : Int) * 512) = (sz : Int) := by rw [IntKind.wrap_i64]; omega
   obtain ⟨m, hm⟩ : ∃ m, m = min n sz := ⟨_, rfl⟩
   have hmin : min (n : Int) (sz : Int) = (m : Int) := by omega
   have hm5 : 512 ≤ m := by omega
   have hmn : m ≤ n := by omega
   have hs3 : ∀ W : World, (Instr.slice 22 (.slice A n c) (some (.int .i64 512)) (some (.int .i64 (m : Int))) none).run Tryz.prog W = .ok (.slice (cutA A c 512) (m - 512) (c - 512)) W := fun W => slice_mid W A n c 512 m hm5 (by have := hc.1; omega)
   have hlm : (l.take m).length = m := by rw [List.length_take]; omega
   have hA3 := ((hA.take m).cut (c := c) (by have := hc.1; omega) 512 (by omega))
   have hl3 : ((l.take m).drop 512).length = m - 512 := by rw [List.length_drop, hlm]
   have e3 : (l.take m).drop 512 = (l.drop 512).take (512 * (padB n6).1.toNat) := by
    rw [List.drop_take, hk, Int.toNat_natCast]
    by_cases hq : n ≤ sz
    ·rw [List.take_of_length_le (by rw [List.length_drop]; omega), List.take_of_length_le (by rw [List.length_drop]; omega)]
    ·rw [show m - 512 = 512 * k by omega]
   have hsl3 := hc.cut 512 (by omega) (m - 512) (by have := hc.1; omega)
   have hCn := fun W h => Cut_any (cutA A c 512) (m - 512) (c - 512) ((l.take m).drop 512) n6 hl3 (by omega) hsl3 W h
   obtain ⟨p1, p2⟩ := padC_part (l.drop 512) n6
   rw [← e3] at p1 p2
   rw [p1, p2] at hCn
   generalize (padC ((l.take m).drop 512) n6).1.2 = D2 at hCn
   have HCn := Lib.hid hCn
   have HA2 := Lib.hid hA3
   generalize (l.take m).drop 512 = L3 at HCn HA2
   have HG2 := Lib.hid (HF2.out rfl)
   have HG3 := Lib.hid (HF3.out rfl)
   clear HF1 HF2 HF3 hCn hA3 p1 p2 e3 hl3 hlm hsl3
   have hpc : (padC (l.drop 512) n6).1.1.length ≤ 140737488351232 := Nat.le_trans (padC_le2 (l.drop 512) n6) (by decide)
   generalize padC (l.drop 512) n6 = PC at HCn HG2 HG3 hpc
   obtain ⟨⟨D1, D3⟩, E2⟩ := PC
   simp only at HCn HG2 HG3 hpc
   have HSZ : Hid (E2 = 0 → 512 + 512 * padN D1.length = sz) := by
    intro h
    have h3 := HG3.out h
    rw [h3] at hSz
    have := hSz rfl
    simp only at this
    omega
   unfold headC at HO
   have HZ := Lib.hid hZ0
   have HB0 := Lib.hid hB0
   have hc1 := hc.1
   have hc2 := hc.2.1
   clear hA hB0 hZ0 hc h5 ht hSz hFM hk hk1 hsz hm hm5 hmn hl0 hk2
   go_enter Tryz.func49, Tryz.ntmps49
   go_wp2_with fail
   refine (HO.out _).mono ?_; rintro e x1 ⟨rfl, hb⟩
   have hB1 := HB0.out.trans (hb.mono HB0.out.size)
   have hB2 := hB1.alloc hB1.size (.cells #[.string (bs n0), .string (bs n1), .string (bs n2), .int .i64 n3, .int .i64 n4, .int .i64 n5, .int .i64 n6, .int .i64 n7, .int .u8 (n8.toNat : Int), .string (bs n9), .string (bs nA)] 74)
   have hZ2 := (HZ.out.below hb HZ.out.lt).alloc (.cells #[.string (bs n0), .string (bs n1), .string (bs n2), .int .i64 n3, .int .i64 n4, .int .i64 n5, .int .i64 n6, .int .i64 n7, .int .u8 (n8.toNat : Int), .string (bs n9), .string (bs nA)] 74)
   have hne : w.heap.size ≠ x1.heap.size := by have := hb.size; rw [hszA] at this; omega
   have hH2 := Blk.new x1 74 #[.string (bs n0), .string (bs n1), .string (bs n2), .int .i64 n3, .int .i64 n4, .int .i64 n5, .int .i64 n6, .int .i64 n7, .int .u8 (n8.toNat : Int), .string (bs n9), .string (bs nA)]
   clear hb hB1
   go_upto_region 4 with fail
   generalize x1.alloc (.cells #[.string (bs n0), .string (bs n1), .string (bs n2), .int .i64 n3, .int .i64 n4, .int .i64 n5, .int .i64 n6, .int .i64 n7, .int .u8 (n8.toNat : Int), .string (bs n9), .string (bs nA)] 74) = x2 at hB2 hZ2 hH2 ⊢
   generalize x1.heap.size = gH at hH2 hne ⊢
   have HB2 := Lib.hid hB2
   have HZ2 := Lib.hid hZ2
   have HH2 := Lib.hid hH2
   clear hB2 hZ2 hH2 HO HB0 HZ hcv hs1
   obtain ⟨⟨g0, g1, g2, g3, g4, g5, g6, g7, g8, g9, gA⟩, -⟩ := blk11 HH2.out
   go_wp2_with fail
   refine (HBl.out _).mono ?_; rintro e w' ⟨rfl, rfl⟩
   clear g0 g1 g2 g3 g4 g5 g6 g7 g8 g9 gA
   go_upto_region 8 with fail
   go_cut [11, 7] (fun v e wx => e = .int .i64 E2 ∧ Below x2.heap.size x2 wx ∧ OwnB wx x2.heap.size v D1)
   case first =>
    have r0 : ∀ W : World, Below x2.heap.size x2 W → W.cell? ⟨gH, 6, none⟩ = some (.int .i64 n6) := fun W h => by
     have := (HH2.out.below h HH2.out.lt).cell 6
     exact this
    have HC := Lib.hid fun W (h : Below x2.heap.size x2 W) => HCn.out W (HA2.out.below (HB2.out.trans (h.mono HB2.out.size)))
    have hS := Below.refl x2.heap.size x2
    go_region_held3 (fun W => Below x2.heap.size x2 W)
     (first
      | (with_reducible assumption)
      | (with_reducible refine Below.drew ?_; with_reducible assumption)
      | (with_reducible exact keepB (by with_reducible assumption) (by with_reducible assumption)))
     (first
      | (go_at_call 85; refine (HC.out _ (by first | with_reducible assumption | with_reducible exact Below.drew (by with_reducible assumption))).mono ?_; rintro e w3 ⟨v1, v2, rfl, ho1, -, hb3⟩))
    all_goals
     go_wp2_with fail
     go_meet
     refine ⟨rfl, ?_, ?_⟩
     ·first
       | with_reducible exact keepB (by with_reducible assumption) hb3
       | exact keepB (Below.drew (Below.refl _ _)) hb3
     ·exact OwnB.mono ho1 (Nat.le_refl _)
   case rest =>
    obtain ⟨rfl, hB3, hO3⟩ := hcut
    rename World => x3
    have HB3 := Lib.hid (HB2.out.trans (hB3.mono HB2.out.size))
    obtain ⟨⟨q0, q1, q2, q3, q4, q5, q6, q7, q8, q9, qA⟩, f0, f1, f2, f3, f4, f5, f6, f7, f8, f9, fA⟩ := blk11 (HZ2.out.below hB3 HZ2.out.lt)
    have hH3 := HH2.out.below hB3 HH2.out.lt
    obtain ⟨A1, c1, rfl, hs3, ha3⟩ := hO3.form
    have HO3 := Lib.hid hO3
    have hRlt : w.heap.size < x2.heap.size := HZ2.out.lt
    by_cases h2 : E2 = 0
    ·subst h2
     have HF := Lib.hid (HG3.out rfl)
     have hZ3 := HZ2.out.below hB3 HZ2.out.lt
     have HE9 := Lib.hid (HSZ.out rfl)
     clear hB3 hO3 ha3
     obtain ⟨⟨g0, g1, g2, g3, g4, g5, g6, g7, g8, g9, gA⟩, -⟩ := blk11 hH3
     clear hZ3 hH3
     go_wp2_with fail
     refine bodyPost_ret (v := .tuple #[.agg #[.string (bs n0), .string (bs n1), .string (bs n2), .int .i64 n3, .int .i64 n4, .int .i64 n5, .int .i64 n6, .int .i64 n7, .int .u8 (n8.toNat : Int), .string (bs n9), .string (bs nA)], .slice A1 D1.length c1, .int .i64 (sz : Int), .int .i64 0]) (by simp [results, Tryz.results49, go_sem, *]) rfl ?_
     rw [HF.out]
     simp only
     rw [HE9.out]
     refine ⟨_, rfl, OwnB.mono (own_set11 HO3.out hRlt _ _ _ _ _ _ _ _ _ _ _) (Nat.le_of_lt hRlt), ?_⟩
     exact below_set11 HB3.out (Nat.le_refl _) _ _ _ _ _ _ _ _ _ _ _
    ·have HF := Lib.hid (HG2.out h2)
     have hne2 : (E2 != 0) = true := by simpa using h2
     clear hO3 ha3 hB3 hH3
     go_wp2_with fail
     refine bodyPost_ret (v := .tuple #[.agg #[.string ⟨#[]⟩, .string ⟨#[]⟩, .string ⟨#[]⟩, .int .i64 0, .int .i64 0, .int .i64 0, .int .i64 0, .int .i64 0, .int .u8 0, .string ⟨#[]⟩, .string ⟨#[]⟩], .slice none 0 0, .int .i64 0, .int .i64 E2]) (by simp [results, Tryz.results49, go_sem, *]) rfl ?_
     rw [HF.out]
     refine ⟨_, rfl, OwnB.nil _ _, ?_⟩
     exact below_set11 HB3.out (Nat.le_refl _) _ _ _ _ _ _ _ _ _ _ _
  ·have HF := Lib.hid (HF1.out h0)
   rw [HF.out]
   simp only
   rw [zhead_eq]
   have hne : (E1 != 0) = true := by simpa using h0
   have HZ := Lib.hid hZ0
   have HB0 := Lib.hid hB0
   clear hA hB0 hZ0 hc h5 HF1 HF2 HF3 HF h0 hs2 ht hSz hFM hl0
   unfold headC at HO
   go_enter Tryz.func49, Tryz.ntmps49
   go_wp2_with fail
   refine (HO.out _).mono ?_; rintro e x1 ⟨rfl, hb⟩
   have hB1 := HB0.out.trans (hb.mono HB0.out.size)
   have hB2 := hB1.alloc hB1.size (.cells #[.string (bs n0), .string (bs n1), .string (bs n2), .int .i64 n3, .int .i64 n4, .int .i64 n5, .int .i64 n6, .int .i64 n7, .int .u8 (n8.toNat : Int), .string (bs n9), .string (bs nA)] 74)
   have hZ2 := (HZ.out.below hb HZ.out.lt).alloc (.cells #[.string (bs n0), .string (bs n1), .string (bs n2), .int .i64 n3, .int .i64 n4, .int .i64 n5, .int .i64 n6, .int .i64 n7, .int .u8 (n8.toNat : Int), .string (bs n9), .string (bs nA)] 74)
   clear hb hB1
   go_upto_region 4 with fail
   generalize x1.alloc (.cells #[.string (bs n0), .string (bs n1), .string (bs n2), .int .i64 n3, .int .i64 n4, .int .i64 n5, .int .i64 n6, .int .i64 n7, .int .u8 (n8.toNat : Int), .string (bs n9), .string (bs nA)] 74) = x2 at hB2 hZ2 ⊢
   have HB := Lib.hid hB2
   obtain ⟨⟨q0, q1, q2, q3, q4, q5, q6, q7, q8, q9, qA⟩, f0, f1, f2, f3, f4, f5, f6, f7, f8, f9, fA⟩ := blk11 hZ2
   clear hB2 hZ2 hs1 hcv hn hn2 h5'
   go_wp2_with fail
   clear hne
   refine bodyPost_ret (v := .tuple #[.agg #[.string ⟨#[]⟩, .string ⟨#[]⟩, .string ⟨#[]⟩, .int .i64 0, .int .i64 0, .int .i64 0, .int .i64 0, .int .i64 0, .int .u8 0, .string ⟨#[]⟩, .string ⟨#[]⟩], .slice none 0 0, .int .i64 0, .int .i64 E1]) (by simp [results, Tryz.results49, go_sem, *]) rfl ?_
   refine ⟨_, rfl, OwnB.nil _ _, ?_⟩
   exact below_set11 HB.out (Nat.le_refl _) _ _ _ _ _ _ _ _ _ _ _
theorem hasPre_minus (l : List UInt8) : Lib.hasPrefix l [45] = minusL l := by
 cases l with
 | nil => rfl
 | cons c r => show (45 == c && List.isPrefixOf [] r) = (c == 45); simp [Bool.beq_comm]
theorem trimPre_minus (l : List UInt8) : Lib.trimPrefix l [45] = sizeL l := by
 unfold Lib.trimPrefix sizeL; rw [hasPre_minus]; rfl
theorem parseO_bad {l : List UInt8} (h : numO (Lib.atoiAll (wholeL (sizeL l))) = none ∨ fracO (digsL (sizeL l)) = none) : parseO l = none := by
 unfold parseO
 rcases h with h | h
 ·rw [h]
 ·rw [h]; cases numO (Lib.atoiAll (wholeL (sizeL l))) <;> rfl
theorem parseO_good {l : List UInt8} {a b : Int} (h1 : numO (Lib.atoiAll (wholeL (sizeL l))) = some a) (h2 : fracO (digsL (sizeL l)) = some b) : parseO l = some (if minusL l = true then negV a b else (a, b)) := by
 unfold parseO; rw [h1, h2]
theorem sizeL_len (l : List UInt8) : (sizeL l).length ≤ l.length := by
 unfold sizeL; split
 ·rw [List.length_drop]; omega
 ·exact Nat.le_refl _
theorem numO_bd {l : List UInt8} {a : Int} (h : numO (Lib.atoiAll l) = some a) : -9223372036854775808 ≤ a ∧ a ≤ 9223372036854775807 := by
 rcases ha : Lib.atoiAll l with x | _ | _
 ·rw [ha] at h; obtain rfl : x = a := Option.some.inj h; exact Lib.atoiAll_bounds ha
 ·rw [ha] at h; cases h
 ·rw [ha] at h; cases h
theorem tail_cases (l : List UInt8) (a b : Int) (h : parseO l = some (a, b)) :
  (tText a b = (bs l, 0) ∧ tparse l = (a, b, 0)) ∨ ((tText a b).2 ≠ 0 ∧ tparse l = (0, 0, 3)) ∨ ((tText a b).2 = 0 ∧ (tText a b).1 ≠ bs l ∧ tparse l = (0, 0, 3)) := by
 cases hi : inT a b
 ·refine .inr (.inl ⟨by rw [tText_no hi]; decide, tparse_no h (by rw [hi]; rintro ⟨x, _⟩; cases x)⟩)
 ·by_cases he : textL a b = l
  ·exact .inl ⟨by rw [tText_yes hi, he], tparse_yes h hi he⟩
  ·refine .inr (.inr ⟨by rw [tText_yes hi], ?_, tparse_no h (fun x => he x.2)⟩)
   rw [tText_yes hi]
   intro e
   exact he (congrArg (fun s : ByteArray => s.data.toList) e)
set_option maxHeartbeats 1600000 in
theorem stpDParse_any (s : ByteArray) (w : World) (S : Std w) (hs : s.size ≤ 140737488351232) :
  Calls Tryz.prog 144 #[.string s] w fun e w' => e = .returned (.tuple #[.int .i64 (tparse s.data.toList).1, .int .i64 (tparse s.data.toList).2.1, .int .i64 (tparse s.data.toList).2.2]) ∧ Below w.heap.size w w' := by
 have HCP : Hid (∀ W, Calls Tryz.prog 216 #[.string s, .string ⟨#[45]⟩] W fun e w' => e = .returned (.tuple #[.string (bs (sizeL s.data.toList)), .bool (minusL s.data.toList)]) ∧ w' = W) := fun W => by
  have h := Tryz.strings_CutPrefix s ⟨#[45]⟩ W
  rw [show (⟨#[45]⟩ : ByteArray).data.toList = [45] from rfl, hasPre_minus, trimPre_minus] at h
  exact h
 have hzl := sizeL_len s.data.toList
 rw [size_list] at hzl
 have hcut := fun W => Cut_one (bs (sizeL s.data.toList)) 46 W (by unfold maxLen; rw [bs_size]; omega)
 rw [bs_list] at hcut
 have hwl : (wholeL (sizeL s.data.toList)).length ≤ 140737488351232 := by unfold wholeL; rw [List.length_take]; omega
 have hdl : (digsL (sizeL s.data.toList)).length ≤ 140737488351232 := by unfold digsL; rw [List.length_drop]; omega
 have HC : Hid (∀ W, Calls Tryz.prog 210 #[.string (bs (sizeL s.data.toList)), .string ⟨#[46]⟩] W fun e w' => e = .returned (.tuple #[.string (bs (wholeL (sizeL s.data.toList))), .string (bs (digsL (sizeL s.data.toList))), .bool (hasB 46 (sizeL s.data.toList))]) ∧ ∃ n, w' = W.drewN n) := hcut
 have HN1 := @parseO_bad s.data.toList
 have HN2 := @parseO_good s.data.toList
 have HT := tail_cases s.data.toList
 rw [bs_of] at HT
 generalize hf : hasB 46 (sizeL s.data.toList) = fnd at HC
 generalize hZ : bs (sizeL s.data.toList) = Z at HC HCP
 generalize hW : bs (wholeL (sizeL s.data.toList)) = W0 at HC
 generalize hD : bs (digsL (sizeL s.data.toList)) = D0 at HC
 rw [show wholeL (sizeL s.data.toList) = W0.data.toList by rw [← hW, bs_list]] at hwl HN1 HN2
 rw [show digsL (sizeL s.data.toList) = D0.data.toList by rw [← hD, bs_list]] at hdl HN1 HN2
 rw [size_list] at hwl hdl
 have HNN := fun h => tparse_none (HN1 h)
 clear hcut hzl hf hZ hW hD HN1
 generalize hq : minusL s.data.toList = neg at *
 generalize hq2 : tparse s.data.toList = tp at *
 generalize hq3 : parseO s.data.toList = po at *
 clear hq hq2 hq3
 have HPF := Lib.hid fun W S => parseFraction_any D0 W S (by unfold maxLen; omega)
 cases hA : numO (Lib.atoiAll W0.data.toList) with
 | none =>
  have HA := Lib.hid fun W S => Atoi_no W0 W S (by omega) hA
  obtain rfl := HNN (.inl hA)
  clear HN2 HNN HT hA
  go_enter Tryz.func144, Tryz.ntmps144
  go_wp2_with fail
  refine (HCP.out _).mono ?_; rintro e w1 ⟨rfl, rfl⟩
  go_wp2_with fail
  refine (HC.out _).mono ?_; rintro e w1 ⟨rfl, n1, rfl⟩
  go_wp2_with fail
  refine (HA.out _ (S.drewN n1)).mono ?_; rintro e w2 ⟨⟨x, N, rfl⟩, hb2⟩
  have S2 := (S.drewN n1).below hb2
  have HB2 : Hid (Below w1.heap.size w1 w2) := (below_drewN (Below.refl _ _) n1).trans hb2
  clear hb2
  go_wp2_with fail
  refine (HPF.out _ S2).mono ?_; rintro e w3 ⟨⟨y, rfl, -⟩, hb3⟩
  have HB3 := Lib.hid (HB2.out.trans (hb3.mono HB2.out.size))
  clear hb3
  go_wp2_with fail
  go_ret3
  exact ⟨rfl, HB3.out⟩
 | some a =>
  have HA := Lib.hid fun W => Atoi_ok W0 a W (by omega) hA
  obtain ⟨ab1, ab2⟩ := numO_bd hA
  cases hB : fracO D0.data.toList with
  | none =>
   rw [hB] at HPF
   obtain rfl := HNN (.inr hB)
   clear HN2 HNN HT hA hB
   go_enter Tryz.func144, Tryz.ntmps144
   go_wp2_with fail
   refine (HCP.out _).mono ?_; rintro e w1 ⟨rfl, rfl⟩
   go_wp2_with fail
   refine (HC.out _).mono ?_; rintro e w1 ⟨rfl, n1, rfl⟩
   go_wp2_with fail
   refine (HA.out _).mono ?_; rintro e w2 ⟨rfl, hb2⟩
   have S2 := (S.drewN n1).below hb2
   have HB2 : Hid (Below w1.heap.size w1 w2) := (below_drewN (Below.refl _ _) n1).trans hb2
   clear hb2
   go_wp2_with fail
   refine (HPF.out _ S2).mono ?_; rintro e w3 ⟨⟨y, rfl, -⟩, hb3⟩
   have HB3 := Lib.hid (HB2.out.trans (hb3.mono HB2.out.size))
   clear hb3
   go_wp2_with fail
   go_ret3
   exact ⟨rfl, HB3.out⟩
  | some b =>
   have HPB := Lib.hid HPF.out
   rw [hB] at HPB
   obtain ⟨bb1, bb2⟩ := fracO_bd _ b hB
   have hpo := HN2 hA hB
   clear HN2 HNN hA hB HPF
   cases neg with
   | false =>
    rw [if_neg (by decide)] at hpo
    have ht := HT a b hpo
    have HTx := Lib.hid fun W T => Text_any a b W T
    clear HT hpo
    generalize tText a b = tt at ht HTx
    obtain ⟨t, te⟩ := tt
    rcases ht with ⟨e1, rfl⟩ | ⟨e1, rfl⟩ | ⟨e1, e2, rfl⟩
    ·obtain ⟨rfl, rfl⟩ := Prod.mk.inj e1
     go_enter Tryz.func144, Tryz.ntmps144
     go_wp2_with fail
     refine (HCP.out _).mono ?_; rintro e w1 ⟨rfl, rfl⟩
     go_wp2_with fail
     refine (HC.out _).mono ?_; rintro e w1 ⟨rfl, n1, rfl⟩
     go_wp2_with fail
     refine (HA.out _).mono ?_; rintro e w2 ⟨rfl, hb2⟩
     have S2 := (S.drewN n1).below hb2
     have HB2 : Hid (Below w1.heap.size w1 w2) := (below_drewN (Below.refl _ _) n1).trans hb2
     clear hb2
     go_wp2_with fail
     refine (HPB.out _ S2).mono ?_; rintro e w3 ⟨⟨y, rfl, hy⟩, hb3⟩
     obtain rfl := hy b rfl
     have T3 := (S2.below hb3).tab
     have HB3 := Lib.hid (HB2.out.trans (hb3.mono HB2.out.size))
     clear hb3 hy S2
     go_wp2_with fail
     refine (HTx.out _ T3).mono ?_; rintro e w4 ⟨rfl, hb4⟩
     have HB4 := Lib.hid (HB3.out.trans (hb4.mono HB3.out.size))
     clear hb4
     go_wp2_with fail
     go_ret3
     exact ⟨rfl, HB4.out⟩
    ·have e1' : (te != 0) = true := by simpa using e1
     clear e1
     go_enter Tryz.func144, Tryz.ntmps144
     go_wp2_with fail
     refine (HCP.out _).mono ?_; rintro e w1 ⟨rfl, rfl⟩
     go_wp2_with fail
     refine (HC.out _).mono ?_; rintro e w1 ⟨rfl, n1, rfl⟩
     go_wp2_with fail
     refine (HA.out _).mono ?_; rintro e w2 ⟨rfl, hb2⟩
     have S2 := (S.drewN n1).below hb2
     have HB2 : Hid (Below w1.heap.size w1 w2) := (below_drewN (Below.refl _ _) n1).trans hb2
     clear hb2
     go_wp2_with fail
     refine (HPB.out _ S2).mono ?_; rintro e w3 ⟨⟨y, rfl, hy⟩, hb3⟩
     obtain rfl := hy b rfl
     have T3 := (S2.below hb3).tab
     have HB3 := Lib.hid (HB2.out.trans (hb3.mono HB2.out.size))
     clear hb3 hy S2
     go_wp2_with fail
     refine (HTx.out _ T3).mono ?_; rintro e w4 ⟨rfl, hb4⟩
     have HB4 := Lib.hid (HB3.out.trans (hb4.mono HB3.out.size))
     clear hb4
     go_wp2_with fail
     go_ret3
     exact ⟨rfl, HB4.out⟩
    ·obtain rfl : te = 0 := e1
     have e2' : (t.toList == s.toList) = false := by rw [str_eq]; exact decide_eq_false e2
     clear e2
     go_enter Tryz.func144, Tryz.ntmps144
     go_wp2_with fail
     refine (HCP.out _).mono ?_; rintro e w1 ⟨rfl, rfl⟩
     go_wp2_with fail
     refine (HC.out _).mono ?_; rintro e w1 ⟨rfl, n1, rfl⟩
     go_wp2_with fail
     refine (HA.out _).mono ?_; rintro e w2 ⟨rfl, hb2⟩
     have S2 := (S.drewN n1).below hb2
     have HB2 : Hid (Below w1.heap.size w1 w2) := (below_drewN (Below.refl _ _) n1).trans hb2
     clear hb2
     go_wp2_with fail
     refine (HPB.out _ S2).mono ?_; rintro e w3 ⟨⟨y, rfl, hy⟩, hb3⟩
     obtain rfl := hy b rfl
     have T3 := (S2.below hb3).tab
     have HB3 := Lib.hid (HB2.out.trans (hb3.mono HB2.out.size))
     clear hb3 hy S2
     go_wp2_with fail
     refine (HTx.out _ T3).mono ?_; rintro e w4 ⟨rfl, hb4⟩
     have HB4 := Lib.hid (HB3.out.trans (hb4.mono HB3.out.size))
     clear hb4
     go_wp2_with fail
     go_ret3
     exact ⟨rfl, HB4.out⟩
   | true =>
    rw [if_pos rfl] at hpo
    have hng := fun W => negate_any a b W ab1 ab2 (by omega) (by omega)
    generalize negV a b = nn at hpo hng
    obtain ⟨a', b'⟩ := nn
    have HNg := Lib.hid hng
    have ht := HT a' b' hpo
    have HTx := Lib.hid fun W T => Text_any a' b' W T
    clear HT hpo hng
    generalize tText a' b' = tt at ht HTx
    obtain ⟨t, te⟩ := tt
    rcases ht with ⟨e1, rfl⟩ | ⟨e1, rfl⟩ | ⟨e1, e2, rfl⟩
    ·obtain ⟨rfl, rfl⟩ := Prod.mk.inj e1
     go_enter Tryz.func144, Tryz.ntmps144
     go_wp2_with fail
     refine (HCP.out _).mono ?_; rintro e w1 ⟨rfl, rfl⟩
     go_wp2_with fail
     refine (HC.out _).mono ?_; rintro e w1 ⟨rfl, n1, rfl⟩
     go_wp2_with fail
     refine (HA.out _).mono ?_; rintro e w2 ⟨rfl, hb2⟩
     have S2 := (S.drewN n1).below hb2
     have HB2 : Hid (Below w1.heap.size w1 w2) := (below_drewN (Below.refl _ _) n1).trans hb2
     clear hb2
     go_wp2_with fail
     refine (HPB.out _ S2).mono ?_; rintro e w3 ⟨⟨y, rfl, hy⟩, hb3⟩
     obtain rfl := hy b rfl
     have T3 := (S2.below hb3).tab
     have HB3 := Lib.hid (HB2.out.trans (hb3.mono HB2.out.size))
     clear hb3 hy S2
     go_wp2_with fail
     refine (HNg.out _).mono ?_; rintro e w' ⟨rfl, rfl⟩
     go_wp2_with fail
     refine (HTx.out _ T3).mono ?_; rintro e w4 ⟨rfl, hb4⟩
     have HB4 := Lib.hid (HB3.out.trans (hb4.mono HB3.out.size))
     clear hb4
     go_wp2_with fail
     go_ret3
     exact ⟨rfl, HB4.out⟩
    ·have e1' : (te != 0) = true := by simpa using e1
     clear e1
     go_enter Tryz.func144, Tryz.ntmps144
     go_wp2_with fail
     refine (HCP.out _).mono ?_; rintro e w1 ⟨rfl, rfl⟩
     go_wp2_with fail
     refine (HC.out _).mono ?_; rintro e w1 ⟨rfl, n1, rfl⟩
     go_wp2_with fail
     refine (HA.out _).mono ?_; rintro e w2 ⟨rfl, hb2⟩
     have S2 := (S.drewN n1).below hb2
     have HB2 : Hid (Below w1.heap.size w1 w2) := (below_drewN (Below.refl _ _) n1).trans hb2
     clear hb2
     go_wp2_with fail
     refine (HPB.out _ S2).mono ?_; rintro e w3 ⟨⟨y, rfl, hy⟩, hb3⟩
     obtain rfl := hy b rfl
     have T3 := (S2.below hb3).tab
     have HB3 := Lib.hid (HB2.out.trans (hb3.mono HB2.out.size))
     clear hb3 hy S2
     go_wp2_with fail
     refine (HNg.out _).mono ?_; rintro e w' ⟨rfl, rfl⟩
     go_wp2_with fail
     refine (HTx.out _ T3).mono ?_; rintro e w4 ⟨rfl, hb4⟩
     have HB4 := Lib.hid (HB3.out.trans (hb4.mono HB3.out.size))
     clear hb4
     go_wp2_with fail
     go_ret3
     exact ⟨rfl, HB4.out⟩
    ·obtain rfl : te = 0 := e1
     have e2' : (t.toList == s.toList) = false := by rw [str_eq]; exact decide_eq_false e2
     clear e2
     go_enter Tryz.func144, Tryz.ntmps144
     go_wp2_with fail
     refine (HCP.out _).mono ?_; rintro e w1 ⟨rfl, rfl⟩
     go_wp2_with fail
     refine (HC.out _).mono ?_; rintro e w1 ⟨rfl, n1, rfl⟩
     go_wp2_with fail
     refine (HA.out _).mono ?_; rintro e w2 ⟨rfl, hb2⟩
     have S2 := (S.drewN n1).below hb2
     have HB2 : Hid (Below w1.heap.size w1 w2) := (below_drewN (Below.refl _ _) n1).trans hb2
     clear hb2
     go_wp2_with fail
     refine (HPB.out _ S2).mono ?_; rintro e w3 ⟨⟨y, rfl, hy⟩, hb3⟩
     obtain rfl := hy b rfl
     have T3 := (S2.below hb3).tab
     have HB3 := Lib.hid (HB2.out.trans (hb3.mono HB2.out.size))
     clear hb3 hy S2
     go_wp2_with fail
     refine (HNg.out _).mono ?_; rintro e w' ⟨rfl, rfl⟩
     go_wp2_with fail
     refine (HTx.out _ T3).mono ?_; rintro e w4 ⟨rfl, hb4⟩
     have HB4 := Lib.hid (HB3.out.trans (hb4.mono HB3.out.size))
     clear hb4
     go_wp2_with fail
     go_ret3
     exact ⟨rfl, HB4.out⟩
theorem Atoi_num (s : ByteArray) (w : World) (S : Std w) (hs : s.size ≤ 281474976710656) :
  Calls Tryz.prog 57 #[.string s] w fun e w' => (∃ ev, e = .returned (.tuple #[.int .i64 (numV s.data.toList), ev])) ∧ Below w.heap.size w w' := by
 unfold numV
 rcases ha : Lib.atoiAll s.data.toList with x | _ | _
 ·refine (Any.strconv_Atoi_ok Tryz.laysC172 s (by omega) x ha w).mono ?_; rintro e w' ⟨rfl, hw⟩
  refine ⟨⟨_, rfl⟩, ?_⟩
  rcases hw with rfl | ⟨t, rfl⟩
  ·exact Below.refl _ _
  ·exact Lib.bytesWorld_below _ _ _
 ·obtain ⟨t, p, e⟩ := S.syn
  refine (Any.strconv_Atoi_syntax Tryz.laysC172 s hs ha _ w e (.inr ⟨_, _, rfl⟩)).mono ?_; rintro e w' ⟨N, rfl, -, -, hb⟩
  exact ⟨⟨_, rfl⟩, hb⟩
 ·obtain ⟨t, p, e⟩ := S.rng
  refine (Any.strconv_Atoi_range Tryz.laysC172 s hs ha _ w e (.inr ⟨_, _, rfl⟩)).mono ?_; rintro e w' ⟨N, rfl, -, -, hb⟩
  exact ⟨⟨_, rfl⟩, hb⟩
theorem takF_gid (y : EntV) (v : List UInt8) : takF y (kGid, v) = { y with md := { y.md with gid := numV v } } := by rw [takF, if_pos rfl]
theorem takF_gname (y : EntV) (v : List UInt8) : takF y (kGname, v) = { y with md := { y.md with group := v } } := by rw [takF, if_neg (by show ¬ kGname = kGid; decide), if_pos rfl]
theorem takF_link (y : EntV) (v : List UInt8) : takF y (kLink, v) = { y with target := v } := by rw [takF, if_neg (by show ¬ kLink = kGid; decide), if_neg (by show ¬ kLink = kGname; decide), if_pos rfl]
theorem takF_mtime (y : EntV) (v : List UInt8) : takF y (kMtime, v) = { y with md := { y.md with second := (tparse v).1, nano := (tparse v).2.1 } } := by rw [takF, if_neg (by show ¬ kMtime = kGid; decide), if_neg (by show ¬ kMtime = kGname; decide), if_neg (by show ¬ kMtime = kLink; decide), if_pos rfl]
theorem takF_path (y : EntV) (v : List UInt8) : takF y (kPath, v) = { y with path := v } := by rw [takF, if_neg (by show ¬ kPath = kGid; decide), if_neg (by show ¬ kPath = kGname; decide), if_neg (by show ¬ kPath = kLink; decide), if_neg (by show ¬ kPath = kMtime; decide), if_pos rfl]
theorem takF_uid (y : EntV) (v : List UInt8) : takF y (kUid, v) = { y with md := { y.md with uid := numV v } } := by rw [takF, if_neg (by show ¬ kUid = kGid; decide), if_neg (by show ¬ kUid = kGname; decide), if_neg (by show ¬ kUid = kLink; decide), if_neg (by show ¬ kUid = kMtime; decide), if_neg (by show ¬ kUid = kPath; decide), if_pos rfl]
theorem takF_uname (y : EntV) (v : List UInt8) : takF y (kUname, v) = { y with md := { y.md with user := v } } := by rw [takF, if_neg (by show ¬ kUname = kGid; decide), if_neg (by show ¬ kUname = kGname; decide), if_neg (by show ¬ kUname = kLink; decide), if_neg (by show ¬ kUname = kMtime; decide), if_neg (by show ¬ kUname = kPath; decide), if_neg (by show ¬ kUname = kUid; decide), if_pos rfl]
theorem takF_other (y : EntV) {k v : List UInt8} (h1 : k ≠ kGid) (h2 : k ≠ kGname) (h3 : k ≠ kLink) (h4 : k ≠ kMtime) (h5 : k ≠ kPath) (h6 : k ≠ kUid) (h7 : k ≠ kUname) : takF y (k, v) = y := by rw [takF, if_neg h1, if_neg h2, if_neg h3, if_neg h4, if_neg h5, if_neg h6, if_neg h7]
theorem bs_ne {K L : List UInt8} (h : K ≠ L) : ((bs K).toList == L) = false ∧ ¬ (bs K).toList = L := by
 have e : (bs K).toList = K := by rw [ByteArray.toList_eq, bs_list]
 rw [e]
 exact ⟨beq_eq_false_iff_ne.2 h, h⟩
set_option maxHeartbeats 4000000 in
theorem take_any {w : World} {g : Nat} (y : EntV) (D : Option Addr) (c : Nat) (K V : List UInt8) (hV : V.length ≤ 140737488351232) (S : Std w) (hB : Blk w g 34 (entC y D c).toArray) :
  Calls Tryz.prog 90 #[.pointer (some ⟨g, 0, none⟩), .agg #[.string (bs K), .string (bs V)]] w fun e w' => e = .returned (.tuple #[]) ∧ Blk w' g 34 (entC (takF y (K, V)) D c).toArray ∧ Below g w w' := by
 have hgl := hB.lt
 have HB0 := Lib.hid (hB.alloc (.cells #[.string (bs K), .string (bs V)] 85))
 have HW0 := Lib.hid ((Below.refl g w).alloc (Nat.le_of_lt hgl) (.cells #[.string (bs K), .string (bs V)] 85))
 have HS0 : Hid (Std (w.alloc (.cells #[.string (bs K), .string (bs V)] 85))) := S.below ((Below.refl _ _).alloc (Nat.le_refl _) _)
 have hb2 := Blk.new w 85 #[.string (bs K), .string (bs V)]
 have hgs : g < (w.alloc (.cells #[.string (bs K), .string (bs V)] 85)).heap.size := by rw [hszA]; omega
 have HAt := Lib.hid fun W SW => Atoi_num (bs V) W SW (by rw [bs_size]; omega)
 have HPa := Lib.hid fun W SW => stpDParse_any (bs V) W SW (by rw [bs_size]; exact hV)
 rw [bs_list] at HAt HPa
 have HG := Lib.hid hgs
 have HBw := Lib.hid hB
 clear S hB hV hgs
 by_cases h1 : K = kGid
 ·subst h1
  rw [takF_gid]
  rw [show bs kGid = ⟨#[103, 105, 100]⟩ from rfl] at HB0 HW0 HS0 hb2 HG ⊢
  obtain ⟨path, kind, target, ⟨m0, m1, m2, m3, m4, m5, m6⟩, data⟩ := y
  unfold entC at HB0 ⊢
  simp only at HB0 ⊢
  generalize bs V = VS at HB0 HW0 HS0 hb2 HAt HPa HG ⊢
  generalize numV V = nv at HAt ⊢
  obtain ⟨⟨c0, c1⟩, -⟩ := blk2 hb2
  go_enter Tryz.func90, Tryz.ntmps90
  go_wp2_with fail
  refine (HAt.out _ HS0.out).mono ?_; rintro e w2 ⟨⟨ev, rfl⟩, hb⟩
  have hB2 := HB0.out.below hb HG.out
  have HN := Lib.hid (hB2.set_ 5 (.int .i64 nv))
  have HB2 := Lib.hid ((HW0.out.trans (hb.mono (Nat.le_of_lt HG.out))).setCell (p := ⟨g, 5, none⟩) (Nat.le_refl _) (.int .i64 nv))
  obtain ⟨⟨q0, q1, q2, q3, q4, q5, q6, q7, q8, q9, qA⟩, f0, f1, f2, f3, f4, f5, f6, f7, f8, f9, fA⟩ := blk11 hB2
  clear hb hB2
  go_wp2_with fail
  go_end0
  exact ⟨rfl, HN.out, HB2.out⟩
 by_cases h2 : K = kGname
 ·subst h2
  have hV : bs V = bs V := rfl
  rw [takF_gname]
  rw [show bs kGname = ⟨#[103, 110, 97, 109, 101]⟩ from rfl] at HB0 HW0 HS0 hb2 HG ⊢
  have HN := Lib.hid ((HBw.out.set_ 7 (.string (bs V))).alloc (.cells #[.string ⟨#[103, 110, 97, 109, 101]⟩, .string (bs V)] 85))
  have hB2 := (Below.refl g w).setCell (p := ⟨g, 7, none⟩) (Nat.le_refl _) (.string (bs V))
  have HB2 := Lib.hid (hB2.alloc (Nat.le_trans (Nat.le_of_lt hgl) hB2.size) (.cells #[.string ⟨#[103, 110, 97, 109, 101]⟩, .string (bs V)] 85))
  clear hB2
  obtain ⟨path, kind, target, ⟨m0, m1, m2, m3, m4, m5, m6⟩, data⟩ := y
  unfold entC at HB0 HN ⊢
  simp only at HB0 HN ⊢
  obtain ⟨⟨c0, c1⟩, -⟩ := blk2 hb2
  obtain ⟨⟨q0, q1, q2, q3, q4, q5, q6, q7, q8, q9, qA⟩, f0, f1, f2, f3, f4, f5, f6, f7, f8, f9, fA⟩ := blk11 HB0.out
  clear hb2 hV HAt HPa HS0 HBw
  generalize bs V = VS at *
  go_enter Tryz.func90, Tryz.ntmps90
  go_wp2_with fail
  go_end0
  exact ⟨rfl, HN.out, HB2.out⟩
 by_cases h3 : K = kLink
 ·subst h3
  have hV : bs V = bs V := rfl
  rw [takF_link]
  rw [show bs kLink = ⟨#[108, 105, 110, 107, 112, 97, 116, 104]⟩ from rfl] at HB0 HW0 HS0 hb2 HG ⊢
  have HN := Lib.hid ((HBw.out.set_ 2 (.string (bs V))).alloc (.cells #[.string ⟨#[108, 105, 110, 107, 112, 97, 116, 104]⟩, .string (bs V)] 85))
  have hB2 := (Below.refl g w).setCell (p := ⟨g, 2, none⟩) (Nat.le_refl _) (.string (bs V))
  have HB2 := Lib.hid (hB2.alloc (Nat.le_trans (Nat.le_of_lt hgl) hB2.size) (.cells #[.string ⟨#[108, 105, 110, 107, 112, 97, 116, 104]⟩, .string (bs V)] 85))
  clear hB2
  obtain ⟨path, kind, target, ⟨m0, m1, m2, m3, m4, m5, m6⟩, data⟩ := y
  unfold entC at HB0 HN ⊢
  simp only at HB0 HN ⊢
  obtain ⟨⟨c0, c1⟩, -⟩ := blk2 hb2
  obtain ⟨⟨q0, q1, q2, q3, q4, q5, q6, q7, q8, q9, qA⟩, f0, f1, f2, f3, f4, f5, f6, f7, f8, f9, fA⟩ := blk11 HB0.out
  clear hb2 hV HAt HPa HS0 HBw
  generalize bs V = VS at *
  go_enter Tryz.func90, Tryz.ntmps90
  go_wp2_with fail
  go_end0
  exact ⟨rfl, HN.out, HB2.out⟩
 by_cases h4 : K = kMtime
 ·subst h4
  rw [takF_mtime]
  rw [show bs kMtime = ⟨#[109, 116, 105, 109, 101]⟩ from rfl] at HB0 HW0 HS0 hb2 HG ⊢
  obtain ⟨path, kind, target, ⟨m0, m1, m2, m3, m4, m5, m6⟩, data⟩ := y
  unfold entC at HB0 ⊢
  simp only at HB0 ⊢
  generalize bs V = VS at HB0 HW0 HS0 hb2 HAt HPa HG ⊢
  generalize (tparse V).1 = nv at HPa ⊢
  generalize (tparse V).2.1 = nw at HPa ⊢
  generalize (tparse V).2.2 = nx at HPa
  obtain ⟨⟨c0, c1⟩, -⟩ := blk2 hb2
  go_enter Tryz.func90, Tryz.ntmps90
  go_wp2_with fail
  refine (HPa.out _ HS0.out).mono ?_; rintro e w2 ⟨rfl, hb⟩
  have hB2 := HB0.out.below hb HG.out
  have HN := Lib.hid ((hB2.set_ 8 (.int .i64 nv)).set_ 9 (.int .i64 nw))
  have HB2 := Lib.hid (((HW0.out.trans (hb.mono (Nat.le_of_lt HG.out))).setCell (p := ⟨g, 8, none⟩) (Nat.le_refl _) (.int .i64 nv)).setCell (p := ⟨g, 9, none⟩) (Nat.le_refl _) (.int .i64 nw))
  obtain ⟨⟨q0, q1, q2, q3, q4, q5, q6, q7, q8, q9, qA⟩, f0, f1, f2, f3, f4, f5, f6, f7, f8, f9, fA⟩ := blk11 hB2
  clear hb hB2
  go_wp2_with fail
  go_end0
  exact ⟨rfl, HN.out, HB2.out⟩
 by_cases h5 : K = kPath
 ·subst h5
  have hV : bs V = bs V := rfl
  rw [takF_path]
  rw [show bs kPath = ⟨#[112, 97, 116, 104]⟩ from rfl] at HB0 HW0 HS0 hb2 HG ⊢
  have HN := Lib.hid ((HBw.out.set_ 0 (.string (bs V))).alloc (.cells #[.string ⟨#[112, 97, 116, 104]⟩, .string (bs V)] 85))
  have hB2 := (Below.refl g w).setCell (p := ⟨g, 0, none⟩) (Nat.le_refl _) (.string (bs V))
  have HB2 := Lib.hid (hB2.alloc (Nat.le_trans (Nat.le_of_lt hgl) hB2.size) (.cells #[.string ⟨#[112, 97, 116, 104]⟩, .string (bs V)] 85))
  clear hB2
  obtain ⟨path, kind, target, ⟨m0, m1, m2, m3, m4, m5, m6⟩, data⟩ := y
  unfold entC at HB0 HN ⊢
  simp only at HB0 HN ⊢
  obtain ⟨⟨c0, c1⟩, -⟩ := blk2 hb2
  obtain ⟨⟨q0, q1, q2, q3, q4, q5, q6, q7, q8, q9, qA⟩, f0, f1, f2, f3, f4, f5, f6, f7, f8, f9, fA⟩ := blk11 HB0.out
  clear hb2 hV HAt HPa HS0 HBw
  generalize bs V = VS at *
  go_enter Tryz.func90, Tryz.ntmps90
  go_wp2_with fail
  go_end0
  exact ⟨rfl, HN.out, HB2.out⟩
 by_cases h6 : K = kUid
 ·subst h6
  rw [takF_uid]
  rw [show bs kUid = ⟨#[117, 105, 100]⟩ from rfl] at HB0 HW0 HS0 hb2 HG ⊢
  obtain ⟨path, kind, target, ⟨m0, m1, m2, m3, m4, m5, m6⟩, data⟩ := y
  unfold entC at HB0 ⊢
  simp only at HB0 ⊢
  generalize bs V = VS at HB0 HW0 HS0 hb2 HAt HPa HG ⊢
  generalize numV V = nv at HAt ⊢
  obtain ⟨⟨c0, c1⟩, -⟩ := blk2 hb2
  go_enter Tryz.func90, Tryz.ntmps90
  go_wp2_with fail
  refine (HAt.out _ HS0.out).mono ?_; rintro e w2 ⟨⟨ev, rfl⟩, hb⟩
  have hB2 := HB0.out.below hb HG.out
  have HN := Lib.hid (hB2.set_ 4 (.int .i64 nv))
  have HB2 := Lib.hid ((HW0.out.trans (hb.mono (Nat.le_of_lt HG.out))).setCell (p := ⟨g, 4, none⟩) (Nat.le_refl _) (.int .i64 nv))
  obtain ⟨⟨q0, q1, q2, q3, q4, q5, q6, q7, q8, q9, qA⟩, f0, f1, f2, f3, f4, f5, f6, f7, f8, f9, fA⟩ := blk11 hB2
  clear hb hB2
  go_wp2_with fail
  go_end0
  exact ⟨rfl, HN.out, HB2.out⟩
 by_cases h7 : K = kUname
 ·subst h7
  have hV : bs V = bs V := rfl
  rw [takF_uname]
  rw [show bs kUname = ⟨#[117, 110, 97, 109, 101]⟩ from rfl] at HB0 HW0 HS0 hb2 HG ⊢
  have HN := Lib.hid ((HBw.out.set_ 6 (.string (bs V))).alloc (.cells #[.string ⟨#[117, 110, 97, 109, 101]⟩, .string (bs V)] 85))
  have hB2 := (Below.refl g w).setCell (p := ⟨g, 6, none⟩) (Nat.le_refl _) (.string (bs V))
  have HB2 := Lib.hid (hB2.alloc (Nat.le_trans (Nat.le_of_lt hgl) hB2.size) (.cells #[.string ⟨#[117, 110, 97, 109, 101]⟩, .string (bs V)] 85))
  clear hB2
  obtain ⟨path, kind, target, ⟨m0, m1, m2, m3, m4, m5, m6⟩, data⟩ := y
  unfold entC at HB0 HN ⊢
  simp only at HB0 HN ⊢
  obtain ⟨⟨c0, c1⟩, -⟩ := blk2 hb2
  obtain ⟨⟨q0, q1, q2, q3, q4, q5, q6, q7, q8, q9, qA⟩, f0, f1, f2, f3, f4, f5, f6, f7, f8, f9, fA⟩ := blk11 HB0.out
  clear hb2 hV HAt HPa HS0 HBw
  generalize bs V = VS at *
  go_enter Tryz.func90, Tryz.ntmps90
  go_wp2_with fail
  go_end0
  exact ⟨rfl, HN.out, HB2.out⟩
 rw [takF_other y h1 h2 h3 h4 h5 h6 h7]
 obtain ⟨d1, e1⟩ := bs_ne h1
 obtain ⟨d2, e2⟩ := bs_ne h2
 obtain ⟨d3, e3⟩ := bs_ne h3
 obtain ⟨d4, e4⟩ := bs_ne h4
 obtain ⟨d5, e5⟩ := bs_ne h5
 obtain ⟨d6, e6⟩ := bs_ne h6
 obtain ⟨d7, e7⟩ := bs_ne h7
 unfold kGid at d1 e1
 unfold kGname at d2 e2
 unfold kLink at d3 e3
 unfold kMtime at d4 e4
 unfold kPath at d5 e5
 unfold kUid at d6 e6
 unfold kUname at d7 e7
 obtain ⟨⟨c0, c1⟩, -⟩ := blk2 hb2
 clear hb2 h1 h2 h3 h4 h5 h6 h7 HAt HPa HS0
 generalize bs K = KS at *
 generalize bs V = VS at *
 generalize (entC y D c).toArray = EC at *
 go_enter Tryz.func90, Tryz.ntmps90
 go_wp2_with fail
 go_end0
 exact ⟨rfl, HB0.out, HW0.out⟩
end Go.Proofs.YtmejnabngfpbeaaGreatDoor
