/- Texts of one kind, in one file: NodC, NodD, NodE, NodF, NodG, NodH. -/
import Derived.Test.YtoikpnjnljdpaaaGreatDoorNoa
import Derived.Test.YtoikpnjnljdpaaaGreatDoorMth
import Derived.Test.YtoikpnjnljdpaaaGreatDoorSpl
import Derived.Laws.StructEq
import Derived.Deep.DeepCutAuto
import Derived.Test.YtoikpnjnljdpaaaGreatDoorPth
import Derived.Deep.RegionHeld3
import Derived.Deep.QuietTactic
import Derived.BigQuiet
/- The reference's faults of nodes; finding. -/
set_option linter.unusedVariables false
set_option maxRecDepth 100000
namespace Go.Proofs.YtoikpnjnljdpaaaGreatDoor
open Go.RowKit
open Go.OpenShut
/-- texts and data are no longer than memory -/
def NodeV.sz (x : NodeV) : Prop := (x.path.length ≤ 140737488351232 ∧ x.target.length ≤ 140737488351232 ∧ x.data.length ≤ 140737488351232) ∧ x.md.sz
theorem NodeV.wf.sz {x : NodeV} (h : x.wf) : x.sz := ⟨h.1, h.2.1.1⟩
theorem bs_nil_eq {l : List UInt8} : ((bs l).toList == []) = decide (l = []) := by
  rw [ByteArray.toList_eq, Bool.eq_iff_iff, beq_iff_eq, decide_eq_true_eq]; exact Iff.rfl
set_option maxHeartbeats 4000000 in
theorem rNode_any (x : NodeV) (D : Option Addr) (c : Nat) (hx : x.sz) (w : World) : Calls Tryz.prog 74 #[.agg (nodC x D c).toArray] w fun e w' => e = .returned (.int .i64 (nodE x)) ∧ Below w.heap.size w w' := by
  obtain ⟨path, kind, same, target, md, data⟩ := x
  obtain ⟨⟨z1, z2, z3⟩, z4⟩ := hx
  simp only at z1 z2 z3 z4
  have HP := Lib.hid fun W => rFault_any (bs path) W (by rw [bs_size]; unfold maxLen; omega)
  have HM := Lib.hid fun W => rMetaFault_any md z4 W
  rw [bs_list] at HP
  have HX1 := Lib.hid fun h => nodE_path (n := ⟨path, kind, same, target, md, data⟩) h
  have HX2 := Lib.hid fun h h2 => nodE_meta (n := ⟨path, kind, same, target, md, data⟩) h h2
  have HX3 := Lib.hid fun h h2 => nodE_kind (n := ⟨path, kind, same, target, md, data⟩) h h2
  simp only at HX1 HX2 HX3
  obtain ⟨e1, he1⟩ : ∃ e, e = pathE path := ⟨_, rfl⟩
  obtain ⟨e2, he2⟩ : ∃ e, e = metE md := ⟨_, rfl⟩
  rw [← he1] at HP HX1 HX2 HX3
  rw [← he2] at HM HX2 HX3
  clear he1 he2 z4
  obtain ⟨m0, m1, m2, m3, m4, m5, m6⟩ := md
  unfold metA at HM
  unfold nodC
  simp only at HM ⊢
  have s2 := bs_size target
  obtain ⟨P, hP⟩ := hid_name (bs path)
  have hps : P.size ≤ 140737488351232 := by rw [← hP.out, bs_size]; exact z1
  rw [hP.out] at HP ⊢
  have hb0 := Blk.new w 51 #[.string P, .int .i64 kind, .int .i64 same, .string (bs target), .int .i64 m0, .int .i64 m1, .int .i64 m2, .string (bs m3), .string (bs m4), .int .i64 m5, .int .i64 m6, .slice D data.length c]
  have hw0 : Below w.heap.size w (w.alloc (.cells #[.string P, .int .i64 kind, .int .i64 same, .string (bs target), .int .i64 m0, .int .i64 m1, .int .i64 m2, .string (bs m3), .string (bs m4), .int .i64 m5, .int .i64 m6, .slice D data.length c] 51)) := (Below.refl _ _).alloc (Nat.le_refl _) _
  by_cases h1 : e1 = 0
  · subst h1
    have HX2 := Lib.hid (HX2.out rfl)
    have HX3 := Lib.hid (HX3.out rfl)
    clear HX1
    by_cases h2 : e2 = 0
    · subst h2
      rw [HX3.out rfl]
      clear HX2 HX3
      -- CASES
      have hn0 : ¬ (kind = 1) → nodK ⟨path, kind, same, target, ⟨m0, m1, m2, m3, m4, m5, m6⟩, data⟩ = if kind = 2 ∨ kind = 3 then (if data ≠ [] ∨ same ≠ 0 ∨ (kind = 2 ∧ target ≠ []) ∨ (kind = 3 ∧ target = []) ∨ hasB 0 target = true then 3 else if 400 < target.length then 1 else 0) else 2 := fun h => if_neg h
      have hn1 : kind = 1 → nodK ⟨path, kind, same, target, ⟨m0, m1, m2, m3, m4, m5, m6⟩, data⟩ = if target ≠ [] ∨ same < 0 then 3 else if 2000 < data.length then 1 else 0 := fun h => if_pos h
      have HH := Lib.hid fun W => has_any (bs target) 0 0 W (by rw [s2]; unfold maxLen; omega) rfl
      rw [bs_list] at HH
      have ht0 : target ≠ [] → ¬ (bs target).toList = [] ∧ ((bs target).toList == []) = false := fun h => by
        have : ((bs target).toList == []) = false := by rw [bs_nil_eq]; simpa using h
        exact ⟨fun e => (by rw [e] at this; exact absurd this (by decide)), this⟩
      have hd0 : data = [] ↔ data.length = 0 := List.length_eq_zero_iff.symm
      generalize nodK ⟨path, kind, same, target, ⟨m0, m1, m2, m3, m4, m5, m6⟩, data⟩ = R at hn0 hn1 ⊢
      generalize hL : data.length = L at *
      by_cases k1 : kind = 1
      · have hR := hn1 k1
        subst k1
        clear hn0 hn1 HH hd0 hL
        by_cases t1 : target = []
        · subst t1
          simp only [show bs [] = (⟨#[]⟩ : ByteArray) from rfl] at *
          clear ht0
          by_cases q1 : same < 0
          · rw [if_pos (.inr q1)] at hR
            subst hR
            go_enter Tryz.func74, Tryz.ntmps74
            go_wp2_with fail
            refine (HP.out _).mono ?_; rintro e w1 ⟨rfl, hb⟩
            have hb1 := hb0.below hb hb0.lt
            have HW1 := Lib.hid (hw0.trans (hb.mono hw0.size))
            clear hb0 hw0 hb
            obtain ⟨c0, c1, c2, c3, c4, c5, c6, c7, c8, c9, cA, cB⟩ := blk12 hb1
            go_wp2_with fail
            refine (HM.out _).mono ?_; rintro e w2 ⟨rfl, hb⟩
            have hb2 := hb1.below hb hb1.lt
            have HW2 := Lib.hid (HW1.out.trans (hb.mono HW1.out.size))
            clear hb1 hb c0 c1 c2 c3 c4 c5 c6 c7 c8 c9 cA cB
            obtain ⟨c0, c1, c2, c3, c4, c5, c6, c7, c8, c9, cA, cB⟩ := blk12 hb2
            clear hb2
            go_wp2_with fail
            go_ret
            exact ⟨rfl, HW2.out⟩
          · by_cases q2 : 2000 < L
            · rw [if_neg (by rintro (e | e); exact e rfl; exact q1 e), if_pos q2] at hR
              subst hR
              go_enter Tryz.func74, Tryz.ntmps74
              go_wp2_with fail
              refine (HP.out _).mono ?_; rintro e w1 ⟨rfl, hb⟩
              have hb1 := hb0.below hb hb0.lt
              have HW1 := Lib.hid (hw0.trans (hb.mono hw0.size))
              clear hb0 hw0 hb
              obtain ⟨c0, c1, c2, c3, c4, c5, c6, c7, c8, c9, cA, cB⟩ := blk12 hb1
              go_wp2_with fail
              refine (HM.out _).mono ?_; rintro e w2 ⟨rfl, hb⟩
              have hb2 := hb1.below hb hb1.lt
              have HW2 := Lib.hid (HW1.out.trans (hb.mono HW1.out.size))
              clear hb1 hb c0 c1 c2 c3 c4 c5 c6 c7 c8 c9 cA cB
              obtain ⟨c0, c1, c2, c3, c4, c5, c6, c7, c8, c9, cA, cB⟩ := blk12 hb2
              clear hb2
              go_wp2_with fail
              go_ret
              exact ⟨rfl, HW2.out⟩
            · rw [if_neg (by rintro (e | e); exact e rfl; exact q1 e), if_neg q2] at hR
              subst hR
              go_enter Tryz.func74, Tryz.ntmps74
              go_wp2_with fail
              refine (HP.out _).mono ?_; rintro e w1 ⟨rfl, hb⟩
              have hb1 := hb0.below hb hb0.lt
              have HW1 := Lib.hid (hw0.trans (hb.mono hw0.size))
              clear hb0 hw0 hb
              obtain ⟨c0, c1, c2, c3, c4, c5, c6, c7, c8, c9, cA, cB⟩ := blk12 hb1
              go_wp2_with fail
              refine (HM.out _).mono ?_; rintro e w2 ⟨rfl, hb⟩
              have hb2 := hb1.below hb hb1.lt
              have HW2 := Lib.hid (HW1.out.trans (hb.mono HW1.out.size))
              clear hb1 hb c0 c1 c2 c3 c4 c5 c6 c7 c8 c9 cA cB
              obtain ⟨c0, c1, c2, c3, c4, c5, c6, c7, c8, c9, cA, cB⟩ := blk12 hb2
              clear hb2
              go_wp2_with fail
              go_ret
              exact ⟨rfl, HW2.out⟩
        · obtain ⟨ht1, ht2⟩ := ht0 t1
          rw [if_pos (.inl t1)] at hR
          subst hR
          clear ht0
          obtain ⟨T, hT⟩ := hid_name (bs target)
          rw [hT.out] at ht1 ht2 s2 hb0 hw0 ⊢
          clear t1 s2
          go_enter Tryz.func74, Tryz.ntmps74
          go_wp2_with fail
          refine (HP.out _).mono ?_; rintro e w1 ⟨rfl, hb⟩
          have hb1 := hb0.below hb hb0.lt
          have HW1 := Lib.hid (hw0.trans (hb.mono hw0.size))
          clear hb0 hw0 hb
          obtain ⟨c0, c1, c2, c3, c4, c5, c6, c7, c8, c9, cA, cB⟩ := blk12 hb1
          go_wp2_with fail
          refine (HM.out _).mono ?_; rintro e w2 ⟨rfl, hb⟩
          have hb2 := hb1.below hb hb1.lt
          have HW2 := Lib.hid (HW1.out.trans (hb.mono HW1.out.size))
          clear hb1 hb c0 c1 c2 c3 c4 c5 c6 c7 c8 c9 cA cB
          obtain ⟨c0, c1, c2, c3, c4, c5, c6, c7, c8, c9, cA, cB⟩ := blk12 hb2
          clear hb2
          go_wp2_with fail
          go_ret
          exact ⟨rfl, HW2.out⟩
      · have hR := hn0 k1
        clear hn0 hn1
        have k1b : (kind != 1) = true := by simpa using k1
        have k1c : (kind == 1) = false := by simpa using k1
        by_cases k2 : kind = 2
        · subst k2
          rw [if_pos (.inl rfl)] at hR
          clear k1 k1b k1c
          by_cases d1 : L = 0
          · subst d1
            have d2 : data = [] := hd0.2 rfl
            by_cases q1 : same = 0
            · subst q1
              by_cases t1 : target = []
              · subst t1
                rw [if_neg (by simp [d2, hasB]), if_neg (by simp)] at hR
                subst hR
                have HH2 : Hid (∀ W, Calls Tryz.prog 120 #[.string ⟨#[]⟩, .int .u8 0] W fun e w' => e = .returned (.bool false) ∧ W = w') := HH
                simp only [show bs [] = (⟨#[]⟩ : ByteArray) from rfl] at *
                clear ht0 hd0 hL HH d2
                go_enter Tryz.func74, Tryz.ntmps74
                go_wp2_with fail
                refine (HP.out _).mono ?_; rintro e w1 ⟨rfl, hb⟩
                have hb1 := hb0.below hb hb0.lt
                have HW1 := Lib.hid (hw0.trans (hb.mono hw0.size))
                clear hb0 hw0 hb
                obtain ⟨c0, c1, c2, c3, c4, c5, c6, c7, c8, c9, cA, cB⟩ := blk12 hb1
                go_wp2_with fail
                refine (HM.out _).mono ?_; rintro e w2 ⟨rfl, hb⟩
                have hb2 := hb1.below hb hb1.lt
                have HW2 := Lib.hid (HW1.out.trans (hb.mono HW1.out.size))
                clear hb1 hb c0 c1 c2 c3 c4 c5 c6 c7 c8 c9 cA cB
                obtain ⟨c0, c1, c2, c3, c4, c5, c6, c7, c8, c9, cA, cB⟩ := blk12 hb2
                clear hb2
                go_wp2_with fail
                refine (HH2.out _).mono ?_; rintro e w3 ⟨rfl, rfl⟩
                go_wp2_with fail
                go_ret
                exact ⟨rfl, HW2.out⟩
              · rw [if_pos (.inr (.inr (.inl ⟨rfl, t1⟩)))] at hR
                subst hR
                obtain ⟨ht1, ht2⟩ := ht0 t1
                clear ht0 hd0 hL HH d2
                obtain ⟨T, hT⟩ := hid_name (bs target)
                rw [hT.out] at ht1 ht2 s2 hb0 hw0 ⊢
                clear t1 s2
                go_enter Tryz.func74, Tryz.ntmps74
                go_wp2_with fail
                refine (HP.out _).mono ?_; rintro e w1 ⟨rfl, hb⟩
                have hb1 := hb0.below hb hb0.lt
                have HW1 := Lib.hid (hw0.trans (hb.mono hw0.size))
                clear hb0 hw0 hb
                obtain ⟨c0, c1, c2, c3, c4, c5, c6, c7, c8, c9, cA, cB⟩ := blk12 hb1
                go_wp2_with fail
                refine (HM.out _).mono ?_; rintro e w2 ⟨rfl, hb⟩
                have hb2 := hb1.below hb hb1.lt
                have HW2 := Lib.hid (HW1.out.trans (hb.mono HW1.out.size))
                clear hb1 hb c0 c1 c2 c3 c4 c5 c6 c7 c8 c9 cA cB
                obtain ⟨c0, c1, c2, c3, c4, c5, c6, c7, c8, c9, cA, cB⟩ := blk12 hb2
                clear hb2
                go_wp2_with fail
                go_ret
                exact ⟨rfl, HW2.out⟩
            · rw [if_pos (.inr (.inl q1))] at hR
              subst hR
              have q1b : (same != 0) = true := by simpa using q1
              clear ht0 hd0 hL HH d2 q1
              go_enter Tryz.func74, Tryz.ntmps74
              go_wp2_with fail
              refine (HP.out _).mono ?_; rintro e w1 ⟨rfl, hb⟩
              have hb1 := hb0.below hb hb0.lt
              have HW1 := Lib.hid (hw0.trans (hb.mono hw0.size))
              clear hb0 hw0 hb
              obtain ⟨c0, c1, c2, c3, c4, c5, c6, c7, c8, c9, cA, cB⟩ := blk12 hb1
              go_wp2_with fail
              refine (HM.out _).mono ?_; rintro e w2 ⟨rfl, hb⟩
              have hb2 := hb1.below hb hb1.lt
              have HW2 := Lib.hid (HW1.out.trans (hb.mono HW1.out.size))
              clear hb1 hb c0 c1 c2 c3 c4 c5 c6 c7 c8 c9 cA cB
              obtain ⟨c0, c1, c2, c3, c4, c5, c6, c7, c8, c9, cA, cB⟩ := blk12 hb2
              clear hb2
              go_wp2_with fail
              go_ret
              exact ⟨rfl, HW2.out⟩
          · rw [if_pos (.inl (fun e => d1 (hd0.1 e)))] at hR
            subst hR
            have d1b : ((L : Int) != 0) = true := by simp; omega
            clear ht0 hd0 hL HH d1
            go_enter Tryz.func74, Tryz.ntmps74
            go_wp2_with fail
            refine (HP.out _).mono ?_; rintro e w1 ⟨rfl, hb⟩
            have hb1 := hb0.below hb hb0.lt
            have HW1 := Lib.hid (hw0.trans (hb.mono hw0.size))
            clear hb0 hw0 hb
            obtain ⟨c0, c1, c2, c3, c4, c5, c6, c7, c8, c9, cA, cB⟩ := blk12 hb1
            go_wp2_with fail
            refine (HM.out _).mono ?_; rintro e w2 ⟨rfl, hb⟩
            have hb2 := hb1.below hb hb1.lt
            have HW2 := Lib.hid (HW1.out.trans (hb.mono HW1.out.size))
            clear hb1 hb c0 c1 c2 c3 c4 c5 c6 c7 c8 c9 cA cB
            obtain ⟨c0, c1, c2, c3, c4, c5, c6, c7, c8, c9, cA, cB⟩ := blk12 hb2
            clear hb2
            go_wp2_with fail
            go_ret
            exact ⟨rfl, HW2.out⟩
        · have k2b : (kind != 2) = true := by simpa using k2
          have k2c : (kind == 2) = false := by simpa using k2
          by_cases k3 : kind = 3
          · subst k3
            rw [if_pos (.inr rfl)] at hR
            clear k1 k1b k1c k2 k2b k2c
            by_cases d1 : L = 0
            · subst d1
              have d2 : data = [] := hd0.2 rfl
              by_cases q1 : same = 0
              · subst q1
                by_cases t1 : target = []
                · subst t1
                  rw [if_pos (by simp)] at hR
                  subst hR
                  simp only [show bs [] = (⟨#[]⟩ : ByteArray) from rfl] at *
                  clear ht0 hd0 hL HH d2
                  go_enter Tryz.func74, Tryz.ntmps74
                  go_wp2_with fail
                  refine (HP.out _).mono ?_; rintro e w1 ⟨rfl, hb⟩
                  have hb1 := hb0.below hb hb0.lt
                  have HW1 := Lib.hid (hw0.trans (hb.mono hw0.size))
                  clear hb0 hw0 hb
                  obtain ⟨c0, c1, c2, c3, c4, c5, c6, c7, c8, c9, cA, cB⟩ := blk12 hb1
                  go_wp2_with fail
                  refine (HM.out _).mono ?_; rintro e w2 ⟨rfl, hb⟩
                  have hb2 := hb1.below hb hb1.lt
                  have HW2 := Lib.hid (HW1.out.trans (hb.mono HW1.out.size))
                  clear hb1 hb c0 c1 c2 c3 c4 c5 c6 c7 c8 c9 cA cB
                  obtain ⟨c0, c1, c2, c3, c4, c5, c6, c7, c8, c9, cA, cB⟩ := blk12 hb2
                  clear hb2
                  go_wp2_with fail
                  go_ret
                  exact ⟨rfl, HW2.out⟩
                · obtain ⟨ht1, ht2⟩ := ht0 t1
                  cases z0 : hasB 0 target
                  · rw [if_neg (by simp [d2, t1, z0])] at hR
                    rw [z0] at HH
                    clear ht0 hd0 hL d2 z0
                    by_cases q4 : 400 < (bs target).size
                    · rw [if_pos (by rw [← s2]; exact q4)] at hR
                      subst hR
                      obtain ⟨T, hT⟩ := hid_name (bs target)
                      rw [hT.out] at ht1 ht2 s2 hb0 hw0 HH q4 ⊢
                      clear t1 s2
                      go_enter Tryz.func74, Tryz.ntmps74
                      go_wp2_with fail
                      refine (HP.out _).mono ?_; rintro e w1 ⟨rfl, hb⟩
                      have hb1 := hb0.below hb hb0.lt
                      have HW1 := Lib.hid (hw0.trans (hb.mono hw0.size))
                      clear hb0 hw0 hb
                      obtain ⟨c0, c1, c2, c3, c4, c5, c6, c7, c8, c9, cA, cB⟩ := blk12 hb1
                      go_wp2_with fail
                      refine (HM.out _).mono ?_; rintro e w2 ⟨rfl, hb⟩
                      have hb2 := hb1.below hb hb1.lt
                      have HW2 := Lib.hid (HW1.out.trans (hb.mono HW1.out.size))
                      clear hb1 hb c0 c1 c2 c3 c4 c5 c6 c7 c8 c9 cA cB
                      obtain ⟨c0, c1, c2, c3, c4, c5, c6, c7, c8, c9, cA, cB⟩ := blk12 hb2
                      clear hb2
                      go_wp2_with fail
                      refine (HH.out _).mono ?_; rintro e w3 ⟨rfl, rfl⟩
                      go_wp2_with fail
                      go_ret
                      exact ⟨rfl, HW2.out⟩
                    · rw [if_neg (by rw [← s2]; exact q4)] at hR
                      subst hR
                      obtain ⟨T, hT⟩ := hid_name (bs target)
                      rw [hT.out] at ht1 ht2 s2 hb0 hw0 HH q4 ⊢
                      clear t1 s2
                      go_enter Tryz.func74, Tryz.ntmps74
                      go_wp2_with fail
                      refine (HP.out _).mono ?_; rintro e w1 ⟨rfl, hb⟩
                      have hb1 := hb0.below hb hb0.lt
                      have HW1 := Lib.hid (hw0.trans (hb.mono hw0.size))
                      clear hb0 hw0 hb
                      obtain ⟨c0, c1, c2, c3, c4, c5, c6, c7, c8, c9, cA, cB⟩ := blk12 hb1
                      go_wp2_with fail
                      refine (HM.out _).mono ?_; rintro e w2 ⟨rfl, hb⟩
                      have hb2 := hb1.below hb hb1.lt
                      have HW2 := Lib.hid (HW1.out.trans (hb.mono HW1.out.size))
                      clear hb1 hb c0 c1 c2 c3 c4 c5 c6 c7 c8 c9 cA cB
                      obtain ⟨c0, c1, c2, c3, c4, c5, c6, c7, c8, c9, cA, cB⟩ := blk12 hb2
                      clear hb2
                      go_wp2_with fail
                      refine (HH.out _).mono ?_; rintro e w3 ⟨rfl, rfl⟩
                      go_wp2_with fail
                      go_ret
                      exact ⟨rfl, HW2.out⟩
                  · rw [if_pos (.inr (.inr (.inr (.inr z0))))] at hR
                    subst hR
                    rw [z0] at HH
                    clear ht0 hd0 hL d2 z0
                    obtain ⟨T, hT⟩ := hid_name (bs target)
                    rw [hT.out] at ht1 ht2 s2 hb0 hw0 HH ⊢
                    clear t1 s2
                    go_enter Tryz.func74, Tryz.ntmps74
                    go_wp2_with fail
                    refine (HP.out _).mono ?_; rintro e w1 ⟨rfl, hb⟩
                    have hb1 := hb0.below hb hb0.lt
                    have HW1 := Lib.hid (hw0.trans (hb.mono hw0.size))
                    clear hb0 hw0 hb
                    obtain ⟨c0, c1, c2, c3, c4, c5, c6, c7, c8, c9, cA, cB⟩ := blk12 hb1
                    go_wp2_with fail
                    refine (HM.out _).mono ?_; rintro e w2 ⟨rfl, hb⟩
                    have hb2 := hb1.below hb hb1.lt
                    have HW2 := Lib.hid (HW1.out.trans (hb.mono HW1.out.size))
                    clear hb1 hb c0 c1 c2 c3 c4 c5 c6 c7 c8 c9 cA cB
                    obtain ⟨c0, c1, c2, c3, c4, c5, c6, c7, c8, c9, cA, cB⟩ := blk12 hb2
                    clear hb2
                    go_wp2_with fail
                    refine (HH.out _).mono ?_; rintro e w3 ⟨rfl, rfl⟩
                    go_wp2_with fail
                    go_ret
                    exact ⟨rfl, HW2.out⟩
              · rw [if_pos (.inr (.inl q1))] at hR
                subst hR
                have q1b : (same != 0) = true := by simpa using q1
                clear ht0 hd0 hL HH d2 q1
                go_enter Tryz.func74, Tryz.ntmps74
                go_wp2_with fail
                refine (HP.out _).mono ?_; rintro e w1 ⟨rfl, hb⟩
                have hb1 := hb0.below hb hb0.lt
                have HW1 := Lib.hid (hw0.trans (hb.mono hw0.size))
                clear hb0 hw0 hb
                obtain ⟨c0, c1, c2, c3, c4, c5, c6, c7, c8, c9, cA, cB⟩ := blk12 hb1
                go_wp2_with fail
                refine (HM.out _).mono ?_; rintro e w2 ⟨rfl, hb⟩
                have hb2 := hb1.below hb hb1.lt
                have HW2 := Lib.hid (HW1.out.trans (hb.mono HW1.out.size))
                clear hb1 hb c0 c1 c2 c3 c4 c5 c6 c7 c8 c9 cA cB
                obtain ⟨c0, c1, c2, c3, c4, c5, c6, c7, c8, c9, cA, cB⟩ := blk12 hb2
                clear hb2
                go_wp2_with fail
                go_ret
                exact ⟨rfl, HW2.out⟩
            · rw [if_pos (.inl (fun e => d1 (hd0.1 e)))] at hR
              subst hR
              have d1b : ((L : Int) != 0) = true := by simp; omega
              clear ht0 hd0 hL HH d1
              go_enter Tryz.func74, Tryz.ntmps74
              go_wp2_with fail
              refine (HP.out _).mono ?_; rintro e w1 ⟨rfl, hb⟩
              have hb1 := hb0.below hb hb0.lt
              have HW1 := Lib.hid (hw0.trans (hb.mono hw0.size))
              clear hb0 hw0 hb
              obtain ⟨c0, c1, c2, c3, c4, c5, c6, c7, c8, c9, cA, cB⟩ := blk12 hb1
              go_wp2_with fail
              refine (HM.out _).mono ?_; rintro e w2 ⟨rfl, hb⟩
              have hb2 := hb1.below hb hb1.lt
              have HW2 := Lib.hid (HW1.out.trans (hb.mono HW1.out.size))
              clear hb1 hb c0 c1 c2 c3 c4 c5 c6 c7 c8 c9 cA cB
              obtain ⟨c0, c1, c2, c3, c4, c5, c6, c7, c8, c9, cA, cB⟩ := blk12 hb2
              clear hb2
              go_wp2_with fail
              go_ret
              exact ⟨rfl, HW2.out⟩
          · rw [if_neg (by rintro (e | e); exact k2 e; exact k3 e)] at hR
            subst hR
            have k3b : (kind != 3) = true := by simpa using k3
            have k3c : (kind == 3) = false := by simpa using k3
            clear ht0 hd0 hL HH k1 k2 k3
            go_enter Tryz.func74, Tryz.ntmps74
            go_wp2_with fail
            refine (HP.out _).mono ?_; rintro e w1 ⟨rfl, hb⟩
            have hb1 := hb0.below hb hb0.lt
            have HW1 := Lib.hid (hw0.trans (hb.mono hw0.size))
            clear hb0 hw0 hb
            obtain ⟨c0, c1, c2, c3, c4, c5, c6, c7, c8, c9, cA, cB⟩ := blk12 hb1
            go_wp2_with fail
            refine (HM.out _).mono ?_; rintro e w2 ⟨rfl, hb⟩
            have hb2 := hb1.below hb hb1.lt
            have HW2 := Lib.hid (HW1.out.trans (hb.mono HW1.out.size))
            clear hb1 hb c0 c1 c2 c3 c4 c5 c6 c7 c8 c9 cA cB
            obtain ⟨c0, c1, c2, c3, c4, c5, c6, c7, c8, c9, cA, cB⟩ := blk12 hb2
            clear hb2
            go_wp2_with fail
            go_ret
            exact ⟨rfl, HW2.out⟩
    · have h2' : (e2 != 0) = true := by simpa using h2
      rw [HX2.out h2]
      clear HX2 HX3 h2
      go_enter Tryz.func74, Tryz.ntmps74
      go_wp2_with fail
      refine (HP.out _).mono ?_; rintro e w1 ⟨rfl, hb⟩
      have hb1 := hb0.below hb hb0.lt
      have HW1 := Lib.hid (hw0.trans (hb.mono hw0.size))
      clear hb0 hw0 hb
      obtain ⟨c0, c1, c2, c3, c4, c5, c6, c7, c8, c9, cA, cB⟩ := blk12 hb1
      go_wp2_with fail
      refine (HM.out _).mono ?_; rintro e w2 ⟨rfl, hb⟩
      have HW2 := Lib.hid (HW1.out.trans (hb.mono HW1.out.size))
      clear hb1 hb c0 c1 c2 c3 c4 c5 c6 c7 c8 c9 cA cB
      go_wp2_with fail
      go_ret
      exact ⟨rfl, HW2.out⟩
  · have h1' : (e1 != 0) = true := by simpa using h1
    rw [HX1.out h1]
    clear HX1 HX2 HX3 h1
    go_enter Tryz.func74, Tryz.ntmps74
    go_wp2_with fail
    refine (HP.out _).mono ?_; rintro e w1 ⟨rfl, hb⟩
    have HW1 := Lib.hid (hw0.trans (hb.mono hw0.size))
    clear hb0 hw0 hb
    go_wp2_with fail
    go_ret
    exact ⟨rfl, HW1.out⟩
end Go.Proofs.YtoikpnjnljdpaaaGreatDoor
/- The reference's finding. -/
set_option linter.unusedVariables false
set_option maxRecDepth 100000
namespace Go.Proofs.YtoikpnjnljdpaaaGreatDoor
open Go.RowKit
open Go.OpenShut
/-- the cells of the j-th node -/
theorem NodesAt.cells {w : World} {A : Option Addr} {l : List NodeV} (h : NodesAt w A l) (j : Nat) (hj : j < l.length) : ∃ (b o : Nat) (D : Option Addr) (c : Nat), A = some ⟨b, o, none⟩ ∧
    w.cell? ⟨b, o + j * 12, none⟩ = some (.string (bs l[j].path)) ∧ w.cell? ⟨b, o + j * 12 + 1, none⟩ = some (.int .i64 l[j].kind) ∧ w.cell? ⟨b, o + j * 12 + 2, none⟩ = some (.int .i64 l[j].same) ∧ w.cell? ⟨b, o + j * 12 + 3, none⟩ = some (.string (bs l[j].target)) ∧
    (w.cell? ⟨b, o + j * 12 + 4, none⟩ = some (.int .i64 l[j].md.mode) ∧ w.cell? ⟨b, o + j * 12 + 5, none⟩ = some (.int .i64 l[j].md.uid) ∧ w.cell? ⟨b, o + j * 12 + 6, none⟩ = some (.int .i64 l[j].md.gid) ∧ w.cell? ⟨b, o + j * 12 + 7, none⟩ = some (.string (bs l[j].md.user)) ∧ w.cell? ⟨b, o + j * 12 + 8, none⟩ = some (.string (bs l[j].md.group)) ∧ w.cell? ⟨b, o + j * 12 + 9, none⟩ = some (.int .i64 l[j].md.second) ∧ w.cell? ⟨b, o + j * 12 + 10, none⟩ = some (.int .i64 l[j].md.nano)) ∧
    w.cell? ⟨b, o + j * 12 + 11, none⟩ = some (.slice D l[j].data.length c) ∧ SlOk D l[j].data.length c ∧ BytsAt w D l[j].data := by
  obtain ⟨b, o, D, c, e, h12, hs, hd⟩ := h j hj
  exact ⟨b, o, D, c, e, h12 0 (by omega), h12 1 (by omega), h12 2 (by omega), h12 3 (by omega), ⟨h12 4 (by omega), h12 5 (by omega), h12 6 (by omega), h12 7 (by omega), h12 8 (by omega), h12 9 (by omega), h12 10 (by omega)⟩, h12 11 (by omega), hs, hd⟩
theorem NodesAt.take {w : World} {A : Option Addr} {l : List NodeV} (h : NodesAt w A l) (k : Nat) : NodesAt w A (l.take k) := fun j hj => by
  have hj' : j < l.length := by rw [List.length_take] at hj; omega
  have := h j hj'
  rwa [List.getElem_take]
theorem bs_eq {a b : List UInt8} : ((bs a).toList == (bs b).toList) = decide (a = b) := by
  rw [str_eq, Bool.eq_iff_iff, decide_eq_true_eq, decide_eq_true_eq]
  exact ⟨fun e => congrArg (fun s : ByteArray => s.data.toList) e, fun e => by rw [e]⟩
set_option maxHeartbeats 1000000 in
theorem rFind_any (A : Option Addr) (n c : Nat) (l : List NodeV) (s : List UInt8) (hn : l.length = n) (hn2 : n ≤ 140737488355328) (w : World) (hA : NodesAt w A l) :
    Calls Tryz.prog 76 #[.slice A n c, .string (bs s)] w fun e w' => e = .returned (.int .i64 (findL l s : Nat)) ∧ w = w' := by
  have HN := Lib.hid hn
  have HA := Lib.hid hA
  obtain ⟨S, HS⟩ := hid_name (bs s)
  rw [HS.out]
  clear hn hA
  go_enter Tryz.func76, Tryz.ntmps76
  go_wp2_with fail
  go_loop [5] (fun i => ∃ k : Nat, k ≤ n ∧ i = .int .i64 k ∧ Hid (k ≤ findL l s)) (fun i => n - (intOf i).toNat)
  case atStart => exact ⟨0, Nat.zero_le _, rfl, Nat.zero_le _⟩
  case round =>
    obtain ⟨k, hk, rfl, hf⟩ := hrel
    by_cases hlt : k < n
    · have hkl : k < l.length := by rw [HN.out]; exact hlt
      obtain ⟨b, o, D, cc, rfl, c0, -⟩ := HA.out.cells k hkl
      have hq := bs_eq (a := l[k].path) (b := s)
      rw [HS.out] at hq
      obtain ⟨P, HP⟩ := hid_name (bs l[k].path)
      rw [HP.out] at hq c0
      by_cases e : l[k].path = s
      · have HV := Lib.hid (findL_stop l s k hkl hf.out e)
        rw [decide_eq_true e] at hq
        clear e
        go_wp2_with fail
        go_ret
        exact ⟨ret_int (by rw [HV.out]), rfl⟩
      · have HV := Lib.hid (findL_step l s k hkl hf.out e)
        rw [decide_eq_false e] at hq
        clear e
        go_wp2_with fail
        go_round
        case rel => exact ⟨k + 1, by omega, by go_num, HV⟩
        case measure => simp [intOf]; omega
    · obtain rfl : k = n := by omega
      have HV : Hid (findL l s = k) := by
        have := findL_le l s
        unfold Hid
        have h2 := hf.out
        have h3 := HN.out
        omega
      go_wp2_with fail
      go_ret
      exact ⟨ret_int (by rw [HV.out]), rfl⟩
end Go.Proofs.YtoikpnjnljdpaaaGreatDoor
/- Nodes that are the same. -/
set_option linter.unusedVariables false
set_option maxRecDepth 100000
namespace Go.Proofs.YtoikpnjnljdpaaaGreatDoor
open Go.RowKit
open Go.OpenShut
def metB (a b : MetaV) : Bool := decide (a = b)
theorem metB_eq (a b : MetaV) : metB a b = ((a.mode == b.mode) && ((a.uid == b.uid) && ((a.gid == b.gid) && (((bs a.user).toList == (bs b.user).toList) && (((bs a.group).toList == (bs b.group).toList) && ((a.second == b.second) && (a.nano == b.nano))))))) := by
  unfold metB
  rw [bs_eq, bs_eq, Bool.eq_iff_iff, decide_eq_true_eq, ← MetaV.ext_iff']
  simp only [Bool.and_eq_true, beq_iff_eq, decide_eq_true_eq]
theorem meta_eql (a b : MetaV) : ∀ W : World, (binOp .eql 42 (.agg (metA a)) (.agg (metA b))).run Tryz.prog W = .ok (.bool (metB a b)) W := by
  intro W
  rw [metB_eq]
  obtain ⟨a0, a1, a2, a3, a4, a5, a6⟩ := a
  obtain ⟨b0, b1, b2, b3, b4, b5, b6⟩ := b
  unfold metA
  simp only
  go_simp
  generalize (bs a3).toList = u3
  generalize (bs b3).toList = v3
  generalize (bs a4).toList = u4
  generalize (bs b4).toList = v4
  by_cases h0 : a0 = b0
  · by_cases h1 : a1 = b1
    · by_cases h2 : a2 = b2
      · by_cases h3 : u3 = v3
        · by_cases h4 : u4 = v4
          · by_cases h5 : a5 = b5
            · by_cases h6 : a6 = b6
              · simp [h0, h1, h2, h3, h4, h5, h6]
              · simp [h0, h1, h2, h3, h4, h5, h6]
            · simp [h0, h1, h2, h3, h4, h5]
          · simp [h0, h1, h2, h3, h4]
        · simp [h0, h1, h2, h3]
      · simp [h0, h1, h2]
    · simp [h0, h1]
  · simp [h0]
theorem meta_neq (a b : MetaV) : ∀ W : World, (binOp .neq 42 (.agg (metA a)) (.agg (metA b))).run Tryz.prog W = .ok (.bool (!metB a b)) W := by
  intro W
  rw [metB_eq]
  obtain ⟨a0, a1, a2, a3, a4, a5, a6⟩ := a
  obtain ⟨b0, b1, b2, b3, b4, b5, b6⟩ := b
  unfold metA
  simp only
  go_simp
  generalize (bs a3).toList = u3
  generalize (bs b3).toList = v3
  generalize (bs a4).toList = u4
  generalize (bs b4).toList = v4
  by_cases h0 : a0 = b0
  · by_cases h1 : a1 = b1
    · by_cases h2 : a2 = b2
      · by_cases h3 : u3 = v3
        · by_cases h4 : u4 = v4
          · by_cases h5 : a5 = b5
            · by_cases h6 : a6 = b6
              · simp [h0, h1, h2, h3, h4, h5, h6]
              · simp [h0, h1, h2, h3, h4, h5, h6]
            · simp [h0, h1, h2, h3, h4, h5]
          · simp [h0, h1, h2, h3, h4]
        · simp [h0, h1, h2, h3]
      · simp [h0, h1, h2]
    · simp [h0, h1]
  · simp [h0]
end Go.Proofs.YtoikpnjnljdpaaaGreatDoor
/- Trees that are the same. -/
set_option linter.unusedVariables false
set_option maxRecDepth 100000
namespace Go.Proofs.YtoikpnjnljdpaaaGreatDoor
open Go.RowKit
open Go.OpenShut
end Go.Proofs.YtoikpnjnljdpaaaGreatDoor
/- What a round of a tree's checking needs: its state, the faults by their causes. -/
set_option linter.unusedVariables false
set_option maxRecDepth 100000
namespace Go.Proofs.YtoikpnjnljdpaaaGreatDoor
open Go.RowKit
open Go.OpenShut
def nodA (x : NodeV) (D : Option Addr) (c : Nat) : Array Value := #[.string (bs x.path), .int .i64 x.kind, .int .i64 x.same, .string (bs x.target), .int .i64 x.md.mode, .int .i64 x.md.uid, .int .i64 x.md.gid, .string (bs x.md.user), .string (bs x.md.group), .int .i64 x.md.second, .int .i64 x.md.nano, .slice D x.data.length c]
/-- what stands ahead of the tests of a round: the node's box, all else below -/
def RdS (w wr : World) (g : Nat) (x : NodeV) (D : Option Addr) (c : Nat) (W : World) : Prop := Blk W g 51 (nodA x D c) ∧ Below wr.heap.size wr W
theorem RdS.below {w wr W W' : World} {g : Nat} {x : NodeV} {D : Option Addr} {c : Nat} (h : RdS w wr g x D c W) (hb : Below W.heap.size W W') : RdS w wr g x D c W' := ⟨h.1.below hb h.1.lt, h.2.trans (hb.mono h.2.size)⟩
theorem RdS.drew {w wr W : World} {g : Nat} {x : NodeV} {D : Option Addr} {c : Nat} (h : RdS w wr g x D c W) : RdS w wr g x D c W.drew := ⟨h.1.drew_, h.2.drew⟩
theorem RdS.drewN {w wr W : World} {g : Nat} {x : NodeV} {D : Option Addr} {c : Nat} (h : RdS w wr g x D c W) (q : Nat) : RdS w wr g x D c (W.drewN q) := ⟨h.1.drewN q, below_drewN h.2 q⟩
/-- and the path ahead -/
def RdP (w wr : World) (g : Nat) (x : NodeV) (D : Option Addr) (c b q : Nat) (P : ByteArray) (W : World) : Prop := RdS w wr g x D c W ∧ W.cell? ⟨b, q, none⟩ = some (.string P)
theorem RdP.below {w wr W W' : World} {g : Nat} {x : NodeV} {D : Option Addr} {c b q : Nat} {P : ByteArray} (h : RdP w wr g x D c b q P W) (hb : Below W.heap.size W W') : RdP w wr g x D c b q P W' :=
  ⟨h.1.below hb, (hb.cell (p := ⟨b, q, none⟩) (World.block_lt_of_cell? W _ h.2)).trans h.2⟩
theorem RdP.drew {w wr W : World} {g : Nat} {x : NodeV} {D : Option Addr} {c b q : Nat} {P : ByteArray} (h : RdP w wr g x D c b q P W) : RdP w wr g x D c b q P W.drew := ⟨h.1.drew, h.2⟩
theorem BytsAt.convD {w : World} {A : Option Addr} {l : List UInt8} (h : BytsAt w A l) (c : Nat) (hn : A = none → l = []) : ∀ q, (convert 43 9 (.slice A l.length c)).run Tryz.prog (w.drewN q) = .ok (.string (bs l)) (w.drewN q) := fun q => BytsAt.conv (w := w.drewN q) h c hn
theorem path_len {n : NodeV} (h : nodE n = 0) : n.path.length ≤ 400 := by
  by_cases hp : pathE n.path = 0
  · unfold pathE at hp
    split at hp
    · exact absurd hp (by decide)
    · omega
  · rw [nodE_path hp] at h; exact absurd h hp
theorem atE_node {t : List NodeV} {n : NodeV} (h : nodE n ≠ 0) : atE t n = nodE n := if_pos h
theorem atE_twice {t : List NodeV} {n : NodeV} (h : nodE n = 0) (x : NodeV) (hl : t.getLast? = some x) (h2 : pcmp x.path n.path ≠ -1) : atE t n = 6 := by
  unfold atE; rw [if_neg (by simp [h]), hl]; simp only; rw [if_pos (by simp [h2])]
theorem atE_up {t : List NodeV} {n : NodeV} (h : nodE n = 0) (hl : ∀ x, t.getLast? = some x → pcmp x.path n.path = -1) (hu : upOk t n.path = false) : atE t n = 10 := by
  unfold atE
  rw [if_neg (by simp [h]), if_neg, if_pos hu]
  cases e : t.getLast? with
  | none => simp
  | some x => simp [hl x e]
theorem atE_link {t : List NodeV} {n : NodeV} (h : nodE n = 0) (hl : ∀ x, t.getLast? = some x → pcmp x.path n.path = -1) (hu : upOk t n.path = true) (hk : linkNo t n = true) : atE t n = 11 := by
  unfold atE
  rw [if_neg (by simp [h]), if_neg, if_neg (by simp [hu]), if_pos hk]
  cases e : t.getLast? with
  | none => simp
  | some x => simp [hl x e]
theorem last_take (l : List NodeV) (k : Nat) (hk : k < l.length) (x : NodeV) : (l.take k).getLast? = some x ↔ ∃ h : 0 < k, l[k - 1] = x := by
  cases k with
  | zero => simp
  | succ k =>
    rw [List.take_succ_eq_append_getElem (by omega), List.getLast?_append]
    simp
/-- is the directory there, by the first node with its path -/
theorem upOk_first {t : List NodeV} (h : Sound t) (p : List UInt8) : upOk t p = (decide (upL p = []) || if hk : findL t (upL p) < t.length then decide ((t[findL t (upL p)]'hk).kind = 2) else false) := by
  unfold upOk
  congr 1
  split
  · rename_i hk
    rw [Bool.eq_iff_iff, List.any_eq_true, decide_eq_true_eq]
    constructor
    · rintro ⟨d, hd, e⟩
      rw [Bool.and_eq_true, decide_eq_true_eq, decide_eq_true_eq] at e
      obtain ⟨hk2, e2⟩ := findL_mem h.rises hd
      simp only [e.1] at hk2 e2
      rw [e2]; exact e.2
    · intro e
      exact ⟨_, List.getElem_mem hk, by rw [Bool.and_eq_true, decide_eq_true_eq, decide_eq_true_eq]; exact ⟨findL_at t _ hk, e⟩⟩
  · rename_i hk
    rw [Bool.eq_false_iff]
    intro e
    obtain ⟨d, hd, e⟩ := List.any_eq_true.1 e
    rw [Bool.and_eq_true, decide_eq_true_eq, decide_eq_true_eq] at e
    have := findL_le t (upL p)
    exact findL_none.1 (by omega) d hd e.1
end Go.Proofs.YtoikpnjnljdpaaaGreatDoor
/- The reference's fault of a tree. -/
set_option linter.unusedVariables false
set_option maxRecDepth 100000
namespace Go.Proofs.YtoikpnjnljdpaaaGreatDoor
open Go.RowKit
open Go.OpenShut
set_option maxHeartbeats 8000000 in
theorem rTree_any (A : Option Addr) (n c : Nat) (l : List NodeV) (hn : l.length = n) (hc : SlOk A n c) (hsz : ∀ x ∈ l, x.sz) (w : World) (hA : NodesAt w A l) :
    Calls Tryz.prog 42 #[.slice A n c] w fun e w' => e = .returned (.int .i64 (treeE l)) ∧ Below w.heap.size w w' := by
  have HN := Lib.hid hn
  have HA := Lib.hid hA
  have HSZ := Lib.hid hsz
  have hcap := hc.1
  have hmx := hc.2.1
  unfold maxLen at hmx
  clear hn hA hsz hc
  by_cases h40 : 40 < n
  · have HV : Hid (treeE l = 1) := by unfold Hid treeE; rw [HN.out, if_pos h40]
    go_enter Tryz.func42, Tryz.ntmps42
    go_wp2_with fail
    go_ret
    exact ⟨ret_int (by rw [HV.out]), Below.refl _ _⟩
  · have HT : Hid (treeE l = walkE [] l) := by unfold Hid treeE; rw [HN.out, if_neg h40]
    have h41 : n ≤ 40 := by omega
    go_enter Tryz.func42, Tryz.ntmps42
    go_wp2_with fail
    go_loopw [3] (fun i wr => ∃ k : Nat, k ≤ n ∧ i = .int .i64 k ∧ Hid (walkE [] (l.take k) = 0) ∧ Hid (Below w.heap.size w wr)) (fun i _ => n - (intOf i).toNat)
    case atStart => exact ⟨0, Nat.zero_le _, rfl, by unfold Hid; rw [List.take_zero]; rfl, Below.refl _ _⟩
    case round =>
      obtain ⟨k, hk, rfl, HW, HB⟩ := hrel
      by_cases hlt : k < n
      · have hk1 : k < l.length := by rw [HN.out]; exact hlt
        obtain ⟨b, o, D, cc, rfl, c0, c1, c2', c3, ⟨c4, c5, c6, c7, c8, c9, cA⟩, cB, -, hD⟩ := (HA.out.below HB.out).cells k hk1
        have hb1 : b < wr.heap.size := World.block_lt_of_cell? wr _ c0
        have hxsz := HSZ.out _ (List.getElem_mem hk1)
        have HST := Lib.hid fun he => walkE_stop l k hk1 HW.out he
        have HSP := Lib.hid fun he => walkE_step l k hk1 HW.out he
        generalize hx : l[k] = x at *
        have HNd := Lib.hid fun W => rNode_any x D cc hxsz W
        unfold nodC at HNd
        have HD := Lib.hid hD
        have hps : (bs x.path).size ≤ 140737488351232 := by rw [bs_size]; exact hxsz.1.1
        clear hD hxsz
        go_upto_region 7 with fail
        have HBl := Lib.hid (Blk.new wr 51 (nodA x D cc))
        have HBa : Hid (Below wr.heap.size wr (wr.alloc (.cells (nodA x D cc) 51))) := (Below.refl _ _).alloc (Nat.le_refl _) _
        unfold nodA at HBl HBa
        generalize hwa : wr.alloc _ = wa at HBl HBa ⊢
        obtain ⟨e0, e1, e2, e3, e4, e5, e6, e7, e8, e9, eA, eB⟩ := blk12 HBl.out
        clear hwa c0 c1 c2' c3 c4 c5 c6 c7 c8 c9 cA cB
        by_cases hne : nodE x = 0
        · rw [hne] at HNd
          go_wp2_with fail
          refine (HNd.out _).mono ?_; rintro e' w4 ⟨rfl, hb4⟩
          have HS4 : Hid (RdS w wr wr.heap.size x D cc w4) := ⟨HBl.out.below hb4 HBl.out.lt, HBa.out.trans (hb4.mono HBa.out.size)⟩
          clear hb4 e0 e1 e2 e3 e4 e5 e6 e7 e8 e9 eA eB
          go_upto_region 10 with fail
          obtain ⟨q, hq⟩ : ∃ q : Bool, q = (match (l.take k).getLast? with | some y => !decide (pcmp y.path x.path = -1) | none => false) := ⟨_, rfl⟩
          have HQ := Lib.hid hq
          clear hq
          go_cut [41] (fun s41 wx => s41 = .bool q ∧ RdS w wr wr.heap.size x D cc wx)
          case first =>
            by_cases hk0 : 0 < k
            · have hd0 : decide (0 < k) = true := decide_eq_true hk0
              obtain ⟨k1, hk1'⟩ : ∃ k1, k1 = k - 1 := ⟨_, rfl⟩
              have hsub : IntKind.i64.wrap ((k : Int) - 1) = (k1 : Int) := by rw [IntKind.wrap_i64]; omega
              have hk2 : k1 < l.length := by omega
              obtain ⟨b', o', D', cc', e', f0, -⟩ := (HA.out.below (HB.out.trans (HS4.out.2.mono HB.out.size))).cells k1 hk2
              injection e' with e'
              injection e' with e1' e2' _
              subst e1' e2'
              have hlast : (l.take k).getLast? = some l[k1] := (last_take l k (by omega) l[k1]).2 ⟨hk0, by simp only [hk1']⟩
              have hps2 : (bs l[k1].path).size ≤ 400 := by rw [bs_size]; exact path_len (((walk_sound _).1 HW.out).node _ (List.mem_take_iff_getElem.2 ⟨k1, by omega, rfl⟩))
              have hps3 : (bs x.path).size ≤ 400 := by rw [bs_size]; exact path_len hne
              have HO := Lib.hid fun W => rOrder_any (bs l[k1].path) (bs x.path) W
              rw [bs_list, bs_list] at HO
              have hq2 := HQ.out
              rw [hlast] at hq2
              simp only at hq2
              obtain ⟨pc, hpc⟩ : ∃ pc, pc = pcmp l[k1].path x.path := ⟨_, rfl⟩
              rw [← hpc] at HO hq2
              have HQ2 : Hid ((pc != -1) = q) := by unfold Hid; rw [hq2]; by_cases e : pc = -1 <;> simp [e]
              obtain ⟨P, hP⟩ := hid_name (bs l[k1].path)
              obtain ⟨X, hX⟩ := hid_name (bs x.path)
              rw [hP.out, hX.out] at HO
              rw [hP.out] at f0 hps2
              rw [hX.out] at hps hps3
              have hS0 : RdP w wr wr.heap.size x D cc b (o + k1 * 12) P w4 := ⟨HS4.out, f0⟩
              have r0 : ∀ W : World, RdP w wr wr.heap.size x D cc b (o + k1 * 12) P W → W.cell? ⟨wr.heap.size, 0, none⟩ = some (.string X) := fun W h => by rw [← hX.out]; exact (blk12 h.1.1).1.1
              have r1 : ∀ W : World, RdP w wr wr.heap.size x D cc b (o + k1 * 12) P W → W.cell? ⟨b, o + k1 * 12, none⟩ = some (.string P) := fun W h => h.2
              have hk1n : (k1 : Int) < (n : Int) := by omega
              have hk10 : (0 : Int) ≤ (k1 : Int) := by omega
              have HOr := Lib.hid fun W => HO.out W (by omega) (by omega)
              clear hq2 hlast hpc hk1' f0 HO
              go_region_held3 (fun W => RdP w wr wr.heap.size x D cc b (o + k1 * 12) P W)
                (first
                  | (with_reducible assumption)
                  | (with_reducible refine RdP.drew ?_; with_reducible assumption)
                  | (with_reducible exact RdP.below (by with_reducible assumption) (by with_reducible assumption)))
                (first
                  | (go_at_call 75; refine (HOr.out _).mono ?_; rintro e w5 ⟨rfl, hbO⟩))
              all_goals
                go_wp2_with fail
                go_meet
                exact ⟨by rw [HQ2.out], (RdP.below hS0.drew hbO).1⟩
            · have hd0 : decide (0 < k) = false := decide_eq_false hk0
              have hq2 := HQ.out
              have hk00 : k = 0 := by omega
              rw [show (l.take k).getLast? = none by rw [hk00]; simp] at hq2
              simp only at hq2
              subst hq2
              clear hk00
              go_quiet (fail)
              go_wp2_with fail
              go_meet
              exact ⟨rfl, HS4.out.drewN _⟩
          case rest =>
            obtain ⟨rfl, hSc⟩ := hcut
            have HSc := Lib.hid hSc
            clear hSc HS4
            have HSnd := Lib.hid ((walk_sound _).1 HW.out)
            cases q with
            | true =>
              have HV : Hid (treeE l = 6) := by
                unfold Hid
                have ha : atE (l.take k) x = 6 := by
                  have h0 := HQ.out
                  cases e : (l.take k).getLast? with
                  | none => rw [e] at h0; cases h0
                  | some y => rw [e] at h0; exact atE_twice hne y e (by simpa using h0)
                rw [HT.out, HST.out (by rw [ha]; decide), ha]
              go_wp2_with fail
              go_ret
              exact ⟨ret_int (by rw [HV.out]), HB.out.trans (HSc.out.2.mono HB.out.size)⟩
            | false =>
              have HL : Hid (∀ y, (l.take k).getLast? = some y → pcmp y.path x.path = -1) := fun y e => by
                have h0 := HQ.out
                rw [e] at h0
                simpa using h0.symm
              have hx4 := path_len hne
              have HPs := Lib.hid fun W => rSplit_any (bs x.path) W (by rw [bs_size]; omega)
              rw [bs_list] at HPs
              have HFd := Lib.hid fun W h => rFind_any (some ⟨b, o, none⟩) k c (l.take k) (upL x.path) (by rw [List.length_take]; omega) (by omega) W h
              unfold bs at HFd
              have hfl := findL_le (l.take k) (upL x.path)
              rw [List.length_take, Nat.min_eq_left (by omega)] at hfl
              obtain ⟨f, hf⟩ : ∃ f, f = findL (l.take k) (upL x.path) := ⟨_, rfl⟩
              rw [← hf] at HFd hfl
              have HU : Hid (upOk (l.take k) x.path = (decide (upL x.path = []) || if hk : f < (l.take k).length then decide (((l.take k)[f]'hk).kind = 2) else false)) := by
                unfold Hid; rw [upOk_first HSnd.out]; subst hf; rfl
              clear hf
              obtain ⟨X, hX⟩ := hid_name (bs x.path)
              rw [hX.out] at HPs
              obtain ⟨⟨c0, -⟩, -⟩ := blk12 HSc.out.1
              rw [hX.out] at c0
              go_upto_region 12 with fail
              go_wp2_with fail
              refine (HPs.out _).mono ?_; rintro e' w5 ⟨rfl, hb5⟩
              have HS5 := Lib.hid (HSc.out.below hb5)
              clear hb5 c0
              obtain ⟨U, hU⟩ := hid_name (⟨(upL x.path).toArray⟩ : ByteArray)
              rw [hU.out] at HFd
              rw [hU.out]
              have HAk := Lib.hid ((HA.out.below (HB.out.trans (HS5.out.2.mono HB.out.size))).take k)
              go_wp2_with fail
              refine (HFd.out _ HAk.out).mono ?_; rintro e' w6 ⟨rfl, rfl⟩
              go_upto_region 14 with fail
              obtain ⟨q2, hq2⟩ : ∃ q2 : Bool, upOk (l.take k) x.path = !q2 := ⟨!upOk (l.take k) x.path, by simp⟩
              have HQ2 := Lib.hid hq2
              rw [hq2] at HU
              clear hq2
              go_cut [67] (fun s67 wx => s67 = .bool q2 ∧ wx = w5)
              case first =>
                by_cases hu0 : upL x.path = []
                · have hu1 := HU.out
                  rw [decide_eq_true hu0, Bool.true_or] at hu1
                  obtain rfl : q2 = false := by revert hu1; cases q2 <;> decide
                  obtain rfl : U = ⟨#[]⟩ := by rw [← hU.out, hu0]
                  clear hu1 hu0
                  go_wp2_with fail
                  go_meet
                  exact ⟨rfl, rfl⟩
                · have hu1 := HU.out
                  rw [decide_eq_false hu0, Bool.false_or] at hu1
                  have hun : ¬ U.toList = [] := fun e => hu0 (by rw [← hU.out, ByteArray.toList_eq] at e; exact e)
                  have hun2 : (U.toList == []) = false := by simpa using hun
                  by_cases hfk : f = k
                  · rw [dif_neg (by rw [List.length_take]; omega)] at hu1
                    obtain rfl : q2 = true := by revert hu1; cases q2 <;> decide
                    have hfk2 : ((f : Int) == (k : Int)) = true := by simp [hfk]
                    clear hu1 hu0 hfk
                    go_wp2_with fail
                    go_meet
                    exact ⟨rfl, rfl⟩
                  · have hfk2 : ((f : Int) == (k : Int)) = false := by simp; omega
                    have hfl2 : f < (l.take k).length := by rw [List.length_take]; omega
                    have hfln : f < n := by omega
                    rw [dif_pos hfl2] at hu1
                    obtain ⟨b', o', D', cc', e', -, f1, -⟩ := HAk.out.cells f hfl2
                    injection e' with e'
                    injection e' with e1' e2' _
                    subst e1' e2'
                    generalize (l.take k)[f].kind = kd at f1 hu1
                    clear hfk hu0
                    by_cases hkd : kd = 2
                    · rw [decide_eq_true hkd] at hu1
                      obtain rfl : q2 = false := by revert hu1; cases q2 <;> decide
                      subst hkd
                      clear hu1
                      go_wp2_with fail
                      go_meet
                      exact ⟨rfl, rfl⟩
                    · rw [decide_eq_false hkd] at hu1
                      obtain rfl : q2 = true := by revert hu1; cases q2 <;> decide
                      have hkd2 : (kd != 2) = true := by simpa using hkd
                      clear hu1 hkd
                      go_wp2_with fail
                      go_meet
                      exact ⟨rfl, rfl⟩
              case rest =>
                obtain ⟨rfl, rfl⟩ := hcut
                cases q2 with
                | true =>
                  have HV : Hid (treeE l = 10) := by
                    unfold Hid
                    have ha : atE (l.take k) x = 10 := atE_up hne HL.out (by rw [HQ2.out]; rfl)
                    rw [HT.out, HST.out (by rw [ha]; decide), ha]
                  go_wp2_with fail
                  go_ret
                  exact ⟨ret_int (by rw [HV.out]), HB.out.trans (HS5.out.2.mono HB.out.size)⟩
                | false =>
                  obtain ⟨⟨c0, c1, c2', c3, c4, c5, c6, c7, c8, c9, cA, cB⟩, -⟩ := blk12 HS5.out.1
                  have HUp : Hid (upOk (l.take k) x.path = true) := by unfold Hid; rw [HQ2.out]; rfl
                  go_upto_region 16 with fail
                  by_cases hs0 : x.same = 0
                  · have HV : Hid (walkE [] (l.take (k + 1)) = 0) := HSP.out ((atE_zero _ _).2 ⟨hne, HL.out, HUp.out, by unfold linkNo; rw [hs0]; simp⟩)
                    have hs1 : (x.same == 0) = true := by simp [hs0]
                    clear hs0
                    go_wp2_with fail
                    go_roundw
                    case rel => exact ⟨k + 1, by omega, by go_num, HV, HB.out.trans (HS5.out.2.mono HB.out.size)⟩
                    case measure => simp [intOf]; omega
                  · have hs1 : (x.same == 0) = false := by simpa using hs0
                    have HLk : Hid (linkNo (l.take k) x = (l.take k).any fun y => decide (y.same = x.same) && !(decide (y.md = x.md) && decide (y.data = x.data))) := by
                      unfold Hid linkNo; rw [decide_eq_true hs0, Bool.true_and]
                    clear hs0
                    go_wp2_with fail
                    go_loopw [9] (fun i2 wx => ∃ j : Nat, j ≤ k ∧ i2 = .int .i64 j ∧ Hid ((((l.take k).take j).any fun y => decide (y.same = x.same) && !(decide (y.md = x.md) && decide (y.data = x.data))) = false) ∧ Hid (RdS w wr wr.heap.size x D cc wx)) (fun i2 _ => k - (intOf i2).toNat)
                    case atStart => exact ⟨0, Nat.zero_le _, rfl, by unfold Hid; rw [List.take_zero]; rfl, HS5⟩
                    case round =>
                      obtain ⟨j, hj, rfl, HJ, HS⟩ := hrel
                      by_cases hjk : j < k
                      · have hj1 : j < l.length := by have := HN.out; omega
                        obtain ⟨b', o', D', cc', e', -, -, g2, -, ⟨g4, g5, g6, g7, g8, g9, gA⟩, gB, -, hDy⟩ := (HA.out.below (HB.out.trans (HS.out.2.mono HB.out.size))).cells j hj1
                        injection e' with e'
                        injection e' with e1' e2' _
                        subst e1' e2'
                        obtain ⟨⟨c0, c1, c2', c3, c4, c5, c6, c7, c8, c9, cA, cB⟩, -⟩ := blk12 HS.out.1
                        have hDx := HD.out.below HS.out.2
                        have hcx := hDx.convD cc (fun e => by subst e; exact hDx.none_nil)
                        have hcy := hDy.convD cc' (fun e => by subst e; exact hDy.none_nil)
                        have hmem : l[j] ∈ l.take k := List.mem_take_iff_getElem.2 ⟨j, by omega, rfl⟩
                        have htk : (l.take k).take (j + 1) = (l.take k).take j ++ [l[j]] := by
                          rw [List.take_succ_eq_append_getElem (by rw [List.length_take]; omega), List.getElem_take]
                        have HJ2 : Hid ((decide (l[j].same = x.same) && !(decide (l[j].md = x.md) && decide (l[j].data = x.data))) = false → (((l.take k).take (j + 1)).any fun y => decide (y.same = x.same) && !(decide (y.md = x.md) && decide (y.data = x.data))) = false) := fun h => by
                          rw [htk, List.any_append, HJ.out, List.any_cons, h]; rfl
                        have HV : Hid ((decide (l[j].same = x.same) && !(decide (l[j].md = x.md) && decide (l[j].data = x.data))) = true → treeE l = 11) := fun h => by
                          have ha : atE (l.take k) x = 11 := atE_link hne HL.out HUp.out (by rw [HLk.out]; exact List.any_eq_true.2 ⟨l[j], hmem, h⟩)
                          rw [HT.out, HST.out (by rw [ha]; decide), ha]
                        clear hmem htk hDx hDy
                        have hq := meta_neq l[j].md x.md
                        have hdq := bs_eq (a := l[j].data) (b := x.data)
                        generalize hyy : l[j] = y at *
                        unfold metB at hq
                        unfold metA at hq
                        obtain ⟨YD, hYD⟩ := hid_name (bs y.data)
                        obtain ⟨XD, hXD⟩ := hid_name (bs x.data)
                        rw [hYD.out] at hdq
                        simp only [hYD.out] at hcy
                        rw [hXD.out] at hdq
                        simp only [hXD.out] at hcx
                        clear hyy
                        by_cases h1 : y.same = x.same
                        · rw [decide_eq_true h1, Bool.true_and] at HJ2 HV
                          have h1b : (y.same == x.same) = true := by simpa using h1
                          rw [h1] at g2
                          by_cases h2 : y.md = x.md
                          · rw [decide_eq_true h2, Bool.true_and] at HJ2 HV
                            rw [decide_eq_true h2] at hq
                            by_cases h3 : y.data = x.data
                            · have HJ2 := Lib.hid (HJ2.out (by rw [decide_eq_true h3]; rfl))
                              rw [decide_eq_true h3] at hdq
                              have hdn : (YD.toList != XD.toList) = false := by rw [bne, hdq]; rfl
                              clear h1 h2 h3 HV
                              go_upto_region 20 with fail
                              go_quiet (fail)
                              go_wp2_with fail
                              go_roundw
                              case rel => exact ⟨j + 1, by omega, by go_num, HJ2, HS.out.drewN _⟩
                              case measure => simp [intOf]; omega
                            · have HV := Lib.hid (HV.out (by rw [decide_eq_false h3]; rfl))
                              rw [decide_eq_false h3] at hdq
                              have hdn : (YD.toList != XD.toList) = true := by rw [bne, hdq]; rfl
                              clear h1 h2 h3 HJ2
                              go_upto_region 20 with fail
                              go_quiet (fail)
                              go_wp2_with fail
                              go_ret
                              exact ⟨ret_int (by rw [HV.out]), HB.out.trans ((HS.out.drewN _).2.mono HB.out.size)⟩
                          · rw [decide_eq_false h2, Bool.false_and] at HJ2 HV
                            rw [decide_eq_false h2] at hq
                            have HV := Lib.hid (HV.out rfl)
                            clear h1 h2 HJ2
                            go_upto_region 20 with fail
                            go_quiet (fail)
                            go_wp2_with fail
                            go_ret
                            exact ⟨ret_int (by rw [HV.out]), HB.out.trans ((HS.out.drewN _).2.mono HB.out.size)⟩
                        · have HJ2 := Lib.hid (HJ2.out (by rw [decide_eq_false h1]; rfl))
                          have h1b : (y.same == x.same) = false := by simpa using h1
                          clear h1 HV
                          go_upto_region 20 with fail
                          go_quiet (fail)
                          go_wp2_with fail
                          go_roundw
                          case rel => exact ⟨j + 1, by omega, by go_num, HJ2, HS.out.drewN _⟩
                          case measure => simp [intOf]; omega
                      · obtain rfl : j = k := by omega
                        have HV : Hid (walkE [] (l.take (j + 1)) = 0) := HSP.out ((atE_zero _ _).2 ⟨hne, HL.out, HUp.out, by
                          rw [HLk.out]
                          have := HJ.out
                          rwa [List.take_of_length_le (by rw [List.length_take]; omega)] at this⟩)
                        go_wp2_with fail
                        go_roundw
                        case rel => exact ⟨j + 1, by omega, by go_num, HV, HB.out.trans (HS.out.2.mono HB.out.size)⟩
                        case measure => simp [intOf]; omega
        · have hne2 : (nodE x != 0) = true := by simpa using hne
          have HV : Hid (treeE l = nodE x) := by
            unfold Hid
            have ha := atE_node (t := l.take k) hne
            rw [HT.out, HST.out (by rw [ha]; exact hne), ha]
          generalize nodE x = ex at *
          clear hne
          go_wp2_with fail
          refine (HNd.out _).mono ?_; rintro e' w4 ⟨rfl, hb4⟩
          have HB4 := Lib.hid (HB.out.trans ((HBa.out.trans (hb4.mono HBa.out.size)).mono HB.out.size))
          clear hb4 e0 e1 e2 e3 e4 e5 e6 e7 e8 e9 eA eB
          go_wp2_with fail
          go_ret
          exact ⟨ret_int (by rw [HV.out]), HB4.out⟩
      · obtain rfl : k = n := by omega
        have HV : Hid (treeE l = 0) := by
          have := HW.out
          rw [List.take_of_length_le (by rw [HN.out]; omega)] at this
          unfold Hid; rw [HT.out, this]
        go_wp2_with fail
        go_ret
        exact ⟨ret_int (by rw [HV.out]), HB.out⟩
end Go.Proofs.YtoikpnjnljdpaaaGreatDoor
