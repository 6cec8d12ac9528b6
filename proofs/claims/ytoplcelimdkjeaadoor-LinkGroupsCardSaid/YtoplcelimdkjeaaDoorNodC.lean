/- The reference's faults of nodes; finding. -/
import Derived.Test.YtoplcelimdkjeaaDoorNodB
import Derived.Test.YtoplcelimdkjeaaDoorMth
import Derived.Test.YtoplcelimdkjeaaDoorSplB
set_option linter.unusedVariables false
set_option maxRecDepth 100000
namespace Go.Proofs.YtoplcelimdkjeaaDoor
open Go.RowKit
open Go.OpenShut
/-- texts and data are no longer than memory -/
def NodeV.sz (x : NodeV) : Prop := (x.path.length ≤ 140737488351232 ∧ x.target.length ≤ 140737488351232 ∧ x.data.length ≤ 140737488351232) ∧ x.md.sz
theorem NodeV.wf.sz {x : NodeV} (h : x.wf) : x.sz := ⟨h.1, h.2.1.1⟩
theorem bs_nil_eq {l : List UInt8} : ((bs l).toList == []) = decide (l = []) := by
  rw [ByteArray.toList_eq, Bool.eq_iff_iff, beq_iff_eq, decide_eq_true_eq]; exact Iff.rfl
set_option maxHeartbeats 4000000 in
theorem rNode_any (x : NodeV) (D : Option Addr) (c : Nat) (hx : x.sz) (w : World) : Calls Tryd.prog 42 #[.agg (nodC x D c).toArray] w fun e w' => e = .returned (.int .i64 (nodE x)) ∧ Below w.heap.size w w' := by
  obtain ⟨path, kind, same, target, md, data⟩ := x
  obtain ⟨⟨z1, z2, z3⟩, z4⟩ := hx
  simp only at z1 z2 z3 z4
  have HP := Lib.hid fun W => rFault_any (bs path) W (by rw [bs_size]; unfold maxLen; omega)
  have HM := Lib.hid fun W => rMetaFault_any md z4 W
  rw [bs_list] at HP
  have HX1 := Lib.hid fun h => nodE_path (n := ⟨path, kind, same, target, md, data⟩) h
  have HX2 := Lib.hid fun h h2 => nodE_meta (n := ⟨path, kind, same, target, md, data⟩) h h2
  have HX3 := Lib.hid fun h h2 => nodE_kind (n := ⟨path, kind, same, target, md, data⟩) h h2
  simp only at HX1 HX2 HX3
  obtain ⟨e1, he1⟩ : ∃ e, e = pathE path := ⟨_, rfl⟩
  obtain ⟨e2, he2⟩ : ∃ e, e = metE md := ⟨_, rfl⟩
  rw [← he1] at HP HX1 HX2 HX3
  rw [← he2] at HM HX2 HX3
  clear he1 he2 z4
  obtain ⟨m0, m1, m2, m3, m4, m5, m6⟩ := md
  unfold metA at HM
  unfold nodC
  simp only at HM ⊢
  have s2 := bs_size target
  obtain ⟨P, hP⟩ := hid_name (bs path)
  have hps : P.size ≤ 140737488351232 := by rw [← hP.out, bs_size]; exact z1
  rw [hP.out] at HP ⊢
  have hb0 := Blk.new w 39 #[.string P, .int .i64 kind, .int .i64 same, .string (bs target), .int .i64 m0, .int .i64 m1, .int .i64 m2, .string (bs m3), .string (bs m4), .int .i64 m5, .int .i64 m6, .slice D data.length c]
  have hw0 : Below w.heap.size w (w.alloc (.cells #[.string P, .int .i64 kind, .int .i64 same, .string (bs target), .int .i64 m0, .int .i64 m1, .int .i64 m2, .string (bs m3), .string (bs m4), .int .i64 m5, .int .i64 m6, .slice D data.length c] 39)) := (Below.refl _ _).alloc (Nat.le_refl _) _
  by_cases h1 : e1 = 0
  · subst h1
    have HX2 := Lib.hid (HX2.out rfl)
    have HX3 := Lib.hid (HX3.out rfl)
    clear HX1
    by_cases h2 : e2 = 0
    · subst h2
      rw [HX3.out rfl]
      clear HX2 HX3
      -- CASES
      have hn0 : ¬ (kind = 1) → nodK ⟨path, kind, same, target, ⟨m0, m1, m2, m3, m4, m5, m6⟩, data⟩ = if kind = 2 ∨ kind = 3 then (if data ≠ [] ∨ same ≠ 0 ∨ (kind = 2 ∧ target ≠ []) ∨ (kind = 3 ∧ target = []) ∨ hasB 0 target = true then 3 else if 400 < target.length then 1 else 0) else 2 := fun h => if_neg h
      have hn1 : kind = 1 → nodK ⟨path, kind, same, target, ⟨m0, m1, m2, m3, m4, m5, m6⟩, data⟩ = if target ≠ [] ∨ same < 0 then 3 else if 2000 < data.length then 1 else 0 := fun h => if_pos h
      have HH := Lib.hid fun W => has_any (bs target) 0 0 W (by rw [s2]; unfold maxLen; omega) rfl
      rw [bs_list] at HH
      have ht0 : target ≠ [] → ¬ (bs target).toList = [] ∧ ((bs target).toList == []) = false := fun h => by
        have : ((bs target).toList == []) = false := by rw [bs_nil_eq]; simpa using h
        exact ⟨fun e => (by rw [e] at this; exact absurd this (by decide)), this⟩
      have hd0 : data = [] ↔ data.length = 0 := List.length_eq_zero_iff.symm
      generalize nodK ⟨path, kind, same, target, ⟨m0, m1, m2, m3, m4, m5, m6⟩, data⟩ = R at hn0 hn1 ⊢
      generalize hL : data.length = L at *
      by_cases k1 : kind = 1
      · have hR := hn1 k1
        subst k1
        clear hn0 hn1 HH hd0 hL
        by_cases t1 : target = []
        · subst t1
          simp only [show bs [] = (⟨#[]⟩ : ByteArray) from rfl] at *
          clear ht0
          by_cases q1 : same < 0
          · rw [if_pos (.inr q1)] at hR
            subst hR
            go_enter Tryd.func42, Tryd.ntmps42
            go_wp2_with fail
            refine (HP.out _).mono ?_; rintro e w1 ⟨rfl, hb⟩
            have hb1 := hb0.below hb hb0.lt
            have HW1 := Lib.hid (hw0.trans (hb.mono hw0.size))
            clear hb0 hw0 hb
            obtain ⟨c0, c1, c2, c3, c4, c5, c6, c7, c8, c9, cA, cB⟩ := blk12 hb1
            go_wp2_with fail
            refine (HM.out _).mono ?_; rintro e w2 ⟨rfl, hb⟩
            have hb2 := hb1.below hb hb1.lt
            have HW2 := Lib.hid (HW1.out.trans (hb.mono HW1.out.size))
            clear hb1 hb c0 c1 c2 c3 c4 c5 c6 c7 c8 c9 cA cB
            obtain ⟨c0, c1, c2, c3, c4, c5, c6, c7, c8, c9, cA, cB⟩ := blk12 hb2
            clear hb2
            go_wp2_with fail
            go_ret
            exact ⟨rfl, HW2.out⟩
          · by_cases q2 : 2000 < L
            · rw [if_neg (by rintro (e | e); exact e rfl; exact q1 e), if_pos q2] at hR
              subst hR
              go_enter Tryd.func42, Tryd.ntmps42
              go_wp2_with fail
              refine (HP.out _).mono ?_; rintro e w1 ⟨rfl, hb⟩
              have hb1 := hb0.below hb hb0.lt
              have HW1 := Lib.hid (hw0.trans (hb.mono hw0.size))
              clear hb0 hw0 hb
              obtain ⟨c0, c1, c2, c3, c4, c5, c6, c7, c8, c9, cA, cB⟩ := blk12 hb1
              go_wp2_with fail
              refine (HM.out _).mono ?_; rintro e w2 ⟨rfl, hb⟩
              have hb2 := hb1.below hb hb1.lt
              have HW2 := Lib.hid (HW1.out.trans (hb.mono HW1.out.size))
              clear hb1 hb c0 c1 c2 c3 c4 c5 c6 c7 c8 c9 cA cB
              obtain ⟨c0, c1, c2, c3, c4, c5, c6, c7, c8, c9, cA, cB⟩ := blk12 hb2
              clear hb2
              go_wp2_with fail
              go_ret
              exact ⟨rfl, HW2.out⟩
            · rw [if_neg (by rintro (e | e); exact e rfl; exact q1 e), if_neg q2] at hR
              subst hR
              go_enter Tryd.func42, Tryd.ntmps42
              go_wp2_with fail
              refine (HP.out _).mono ?_; rintro e w1 ⟨rfl, hb⟩
              have hb1 := hb0.below hb hb0.lt
              have HW1 := Lib.hid (hw0.trans (hb.mono hw0.size))
              clear hb0 hw0 hb
              obtain ⟨c0, c1, c2, c3, c4, c5, c6, c7, c8, c9, cA, cB⟩ := blk12 hb1
              go_wp2_with fail
              refine (HM.out _).mono ?_; rintro e w2 ⟨rfl, hb⟩
              have hb2 := hb1.below hb hb1.lt
              have HW2 := Lib.hid (HW1.out.trans (hb.mono HW1.out.size))
              clear hb1 hb c0 c1 c2 c3 c4 c5 c6 c7 c8 c9 cA cB
              obtain ⟨c0, c1, c2, c3, c4, c5, c6, c7, c8, c9, cA, cB⟩ := blk12 hb2
              clear hb2
              go_wp2_with fail
              go_ret
              exact ⟨rfl, HW2.out⟩
        · obtain ⟨ht1, ht2⟩ := ht0 t1
          rw [if_pos (.inl t1)] at hR
          subst hR
          clear ht0
          obtain ⟨T, hT⟩ := hid_name (bs target)
          rw [hT.out] at ht1 ht2 s2 hb0 hw0 ⊢
          clear t1 s2
          go_enter Tryd.func42, Tryd.ntmps42
          go_wp2_with fail
          refine (HP.out _).mono ?_; rintro e w1 ⟨rfl, hb⟩
          have hb1 := hb0.below hb hb0.lt
          have HW1 := Lib.hid (hw0.trans (hb.mono hw0.size))
          clear hb0 hw0 hb
          obtain ⟨c0, c1, c2, c3, c4, c5, c6, c7, c8, c9, cA, cB⟩ := blk12 hb1
          go_wp2_with fail
          refine (HM.out _).mono ?_; rintro e w2 ⟨rfl, hb⟩
          have hb2 := hb1.below hb hb1.lt
          have HW2 := Lib.hid (HW1.out.trans (hb.mono HW1.out.size))
          clear hb1 hb c0 c1 c2 c3 c4 c5 c6 c7 c8 c9 cA cB
          obtain ⟨c0, c1, c2, c3, c4, c5, c6, c7, c8, c9, cA, cB⟩ := blk12 hb2
          clear hb2
          go_wp2_with fail
          go_ret
          exact ⟨rfl, HW2.out⟩
      · have hR := hn0 k1
        clear hn0 hn1
        have k1b : (kind != 1) = true := by simpa using k1
        have k1c : (kind == 1) = false := by simpa using k1
        by_cases k2 : kind = 2
        · subst k2
          rw [if_pos (.inl rfl)] at hR
          clear k1 k1b k1c
          by_cases d1 : L = 0
          · subst d1
            have d2 : data = [] := hd0.2 rfl
            by_cases q1 : same = 0
            · subst q1
              by_cases t1 : target = []
              · subst t1
                rw [if_neg (by simp [d2, hasB]), if_neg (by simp)] at hR
                subst hR
                have HH2 : Hid (∀ W, Calls Tryd.prog 71 #[.string ⟨#[]⟩, .int .u8 0] W fun e w' => e = .returned (.bool false) ∧ W = w') := HH
                simp only [show bs [] = (⟨#[]⟩ : ByteArray) from rfl] at *
                clear ht0 hd0 hL HH d2
                go_enter Tryd.func42, Tryd.ntmps42
                go_wp2_with fail
                refine (HP.out _).mono ?_; rintro e w1 ⟨rfl, hb⟩
                have hb1 := hb0.below hb hb0.lt
                have HW1 := Lib.hid (hw0.trans (hb.mono hw0.size))
                clear hb0 hw0 hb
                obtain ⟨c0, c1, c2, c3, c4, c5, c6, c7, c8, c9, cA, cB⟩ := blk12 hb1
                go_wp2_with fail
                refine (HM.out _).mono ?_; rintro e w2 ⟨rfl, hb⟩
                have hb2 := hb1.below hb hb1.lt
                have HW2 := Lib.hid (HW1.out.trans (hb.mono HW1.out.size))
                clear hb1 hb c0 c1 c2 c3 c4 c5 c6 c7 c8 c9 cA cB
                obtain ⟨c0, c1, c2, c3, c4, c5, c6, c7, c8, c9, cA, cB⟩ := blk12 hb2
                clear hb2
                go_wp2_with fail
                refine (HH2.out _).mono ?_; rintro e w3 ⟨rfl, rfl⟩
                go_wp2_with fail
                go_ret
                exact ⟨rfl, HW2.out⟩
              · rw [if_pos (.inr (.inr (.inl ⟨rfl, t1⟩)))] at hR
                subst hR
                obtain ⟨ht1, ht2⟩ := ht0 t1
                clear ht0 hd0 hL HH d2
                obtain ⟨T, hT⟩ := hid_name (bs target)
                rw [hT.out] at ht1 ht2 s2 hb0 hw0 ⊢
                clear t1 s2
                go_enter Tryd.func42, Tryd.ntmps42
                go_wp2_with fail
                refine (HP.out _).mono ?_; rintro e w1 ⟨rfl, hb⟩
                have hb1 := hb0.below hb hb0.lt
                have HW1 := Lib.hid (hw0.trans (hb.mono hw0.size))
                clear hb0 hw0 hb
                obtain ⟨c0, c1, c2, c3, c4, c5, c6, c7, c8, c9, cA, cB⟩ := blk12 hb1
                go_wp2_with fail
                refine (HM.out _).mono ?_; rintro e w2 ⟨rfl, hb⟩
                have hb2 := hb1.below hb hb1.lt
                have HW2 := Lib.hid (HW1.out.trans (hb.mono HW1.out.size))
                clear hb1 hb c0 c1 c2 c3 c4 c5 c6 c7 c8 c9 cA cB
                obtain ⟨c0, c1, c2, c3, c4, c5, c6, c7, c8, c9, cA, cB⟩ := blk12 hb2
                clear hb2
                go_wp2_with fail
                go_ret
                exact ⟨rfl, HW2.out⟩
            · rw [if_pos (.inr (.inl q1))] at hR
              subst hR
              have q1b : (same != 0) = true := by simpa using q1
              clear ht0 hd0 hL HH d2 q1
              go_enter Tryd.func42, Tryd.ntmps42
              go_wp2_with fail
              refine (HP.out _).mono ?_; rintro e w1 ⟨rfl, hb⟩
              have hb1 := hb0.below hb hb0.lt
              have HW1 := Lib.hid (hw0.trans (hb.mono hw0.size))
              clear hb0 hw0 hb
              obtain ⟨c0, c1, c2, c3, c4, c5, c6, c7, c8, c9, cA, cB⟩ := blk12 hb1
              go_wp2_with fail
              refine (HM.out _).mono ?_; rintro e w2 ⟨rfl, hb⟩
              have hb2 := hb1.below hb hb1.lt
              have HW2 := Lib.hid (HW1.out.trans (hb.mono HW1.out.size))
              clear hb1 hb c0 c1 c2 c3 c4 c5 c6 c7 c8 c9 cA cB
              obtain ⟨c0, c1, c2, c3, c4, c5, c6, c7, c8, c9, cA, cB⟩ := blk12 hb2
              clear hb2
              go_wp2_with fail
              go_ret
              exact ⟨rfl, HW2.out⟩
          · rw [if_pos (.inl (fun e => d1 (hd0.1 e)))] at hR
            subst hR
            have d1b : ((L : Int) != 0) = true := by simp; omega
            clear ht0 hd0 hL HH d1
            go_enter Tryd.func42, Tryd.ntmps42
            go_wp2_with fail
            refine (HP.out _).mono ?_; rintro e w1 ⟨rfl, hb⟩
            have hb1 := hb0.below hb hb0.lt
            have HW1 := Lib.hid (hw0.trans (hb.mono hw0.size))
            clear hb0 hw0 hb
            obtain ⟨c0, c1, c2, c3, c4, c5, c6, c7, c8, c9, cA, cB⟩ := blk12 hb1
            go_wp2_with fail
            refine (HM.out _).mono ?_; rintro e w2 ⟨rfl, hb⟩
            have hb2 := hb1.below hb hb1.lt
            have HW2 := Lib.hid (HW1.out.trans (hb.mono HW1.out.size))
            clear hb1 hb c0 c1 c2 c3 c4 c5 c6 c7 c8 c9 cA cB
            obtain ⟨c0, c1, c2, c3, c4, c5, c6, c7, c8, c9, cA, cB⟩ := blk12 hb2
            clear hb2
            go_wp2_with fail
            go_ret
            exact ⟨rfl, HW2.out⟩
        · have k2b : (kind != 2) = true := by simpa using k2
          have k2c : (kind == 2) = false := by simpa using k2
          by_cases k3 : kind = 3
          · subst k3
            rw [if_pos (.inr rfl)] at hR
            clear k1 k1b k1c k2 k2b k2c
            by_cases d1 : L = 0
            · subst d1
              have d2 : data = [] := hd0.2 rfl
              by_cases q1 : same = 0
              · subst q1
                by_cases t1 : target = []
                · subst t1
                  rw [if_pos (by simp)] at hR
                  subst hR
                  simp only [show bs [] = (⟨#[]⟩ : ByteArray) from rfl] at *
                  clear ht0 hd0 hL HH d2
                  go_enter Tryd.func42, Tryd.ntmps42
                  go_wp2_with fail
                  refine (HP.out _).mono ?_; rintro e w1 ⟨rfl, hb⟩
                  have hb1 := hb0.below hb hb0.lt
                  have HW1 := Lib.hid (hw0.trans (hb.mono hw0.size))
                  clear hb0 hw0 hb
                  obtain ⟨c0, c1, c2, c3, c4, c5, c6, c7, c8, c9, cA, cB⟩ := blk12 hb1
                  go_wp2_with fail
                  refine (HM.out _).mono ?_; rintro e w2 ⟨rfl, hb⟩
                  have hb2 := hb1.below hb hb1.lt
                  have HW2 := Lib.hid (HW1.out.trans (hb.mono HW1.out.size))
                  clear hb1 hb c0 c1 c2 c3 c4 c5 c6 c7 c8 c9 cA cB
                  obtain ⟨c0, c1, c2, c3, c4, c5, c6, c7, c8, c9, cA, cB⟩ := blk12 hb2
                  clear hb2
                  go_wp2_with fail
                  go_ret
                  exact ⟨rfl, HW2.out⟩
                · obtain ⟨ht1, ht2⟩ := ht0 t1
                  cases z0 : hasB 0 target
                  · rw [if_neg (by simp [d2, t1, z0])] at hR
                    rw [z0] at HH
                    clear ht0 hd0 hL d2 z0
                    by_cases q4 : 400 < (bs target).size
                    · rw [if_pos (by rw [← s2]; exact q4)] at hR
                      subst hR
                      obtain ⟨T, hT⟩ := hid_name (bs target)
                      rw [hT.out] at ht1 ht2 s2 hb0 hw0 HH q4 ⊢
                      clear t1 s2
                      go_enter Tryd.func42, Tryd.ntmps42
                      go_wp2_with fail
                      refine (HP.out _).mono ?_; rintro e w1 ⟨rfl, hb⟩
                      have hb1 := hb0.below hb hb0.lt
                      have HW1 := Lib.hid (hw0.trans (hb.mono hw0.size))
                      clear hb0 hw0 hb
                      obtain ⟨c0, c1, c2, c3, c4, c5, c6, c7, c8, c9, cA, cB⟩ := blk12 hb1
                      go_wp2_with fail
                      refine (HM.out _).mono ?_; rintro e w2 ⟨rfl, hb⟩
                      have hb2 := hb1.below hb hb1.lt
                      have HW2 := Lib.hid (HW1.out.trans (hb.mono HW1.out.size))
                      clear hb1 hb c0 c1 c2 c3 c4 c5 c6 c7 c8 c9 cA cB
                      obtain ⟨c0, c1, c2, c3, c4, c5, c6, c7, c8, c9, cA, cB⟩ := blk12 hb2
                      clear hb2
                      go_wp2_with fail
                      refine (HH.out _).mono ?_; rintro e w3 ⟨rfl, rfl⟩
                      go_wp2_with fail
                      go_ret
                      exact ⟨rfl, HW2.out⟩
                    · rw [if_neg (by rw [← s2]; exact q4)] at hR
                      subst hR
                      obtain ⟨T, hT⟩ := hid_name (bs target)
                      rw [hT.out] at ht1 ht2 s2 hb0 hw0 HH q4 ⊢
                      clear t1 s2
                      go_enter Tryd.func42, Tryd.ntmps42
                      go_wp2_with fail
                      refine (HP.out _).mono ?_; rintro e w1 ⟨rfl, hb⟩
                      have hb1 := hb0.below hb hb0.lt
                      have HW1 := Lib.hid (hw0.trans (hb.mono hw0.size))
                      clear hb0 hw0 hb
                      obtain ⟨c0, c1, c2, c3, c4, c5, c6, c7, c8, c9, cA, cB⟩ := blk12 hb1
                      go_wp2_with fail
                      refine (HM.out _).mono ?_; rintro e w2 ⟨rfl, hb⟩
                      have hb2 := hb1.below hb hb1.lt
                      have HW2 := Lib.hid (HW1.out.trans (hb.mono HW1.out.size))
                      clear hb1 hb c0 c1 c2 c3 c4 c5 c6 c7 c8 c9 cA cB
                      obtain ⟨c0, c1, c2, c3, c4, c5, c6, c7, c8, c9, cA, cB⟩ := blk12 hb2
                      clear hb2
                      go_wp2_with fail
                      refine (HH.out _).mono ?_; rintro e w3 ⟨rfl, rfl⟩
                      go_wp2_with fail
                      go_ret
                      exact ⟨rfl, HW2.out⟩
                  · rw [if_pos (.inr (.inr (.inr (.inr z0))))] at hR
                    subst hR
                    rw [z0] at HH
                    clear ht0 hd0 hL d2 z0
                    obtain ⟨T, hT⟩ := hid_name (bs target)
                    rw [hT.out] at ht1 ht2 s2 hb0 hw0 HH ⊢
                    clear t1 s2
                    go_enter Tryd.func42, Tryd.ntmps42
                    go_wp2_with fail
                    refine (HP.out _).mono ?_; rintro e w1 ⟨rfl, hb⟩
                    have hb1 := hb0.below hb hb0.lt
                    have HW1 := Lib.hid (hw0.trans (hb.mono hw0.size))
                    clear hb0 hw0 hb
                    obtain ⟨c0, c1, c2, c3, c4, c5, c6, c7, c8, c9, cA, cB⟩ := blk12 hb1
                    go_wp2_with fail
                    refine (HM.out _).mono ?_; rintro e w2 ⟨rfl, hb⟩
                    have hb2 := hb1.below hb hb1.lt
                    have HW2 := Lib.hid (HW1.out.trans (hb.mono HW1.out.size))
                    clear hb1 hb c0 c1 c2 c3 c4 c5 c6 c7 c8 c9 cA cB
                    obtain ⟨c0, c1, c2, c3, c4, c5, c6, c7, c8, c9, cA, cB⟩ := blk12 hb2
                    clear hb2
                    go_wp2_with fail
                    refine (HH.out _).mono ?_; rintro e w3 ⟨rfl, rfl⟩
                    go_wp2_with fail
                    go_ret
                    exact ⟨rfl, HW2.out⟩
              · rw [if_pos (.inr (.inl q1))] at hR
                subst hR
                have q1b : (same != 0) = true := by simpa using q1
                clear ht0 hd0 hL HH d2 q1
                go_enter Tryd.func42, Tryd.ntmps42
                go_wp2_with fail
                refine (HP.out _).mono ?_; rintro e w1 ⟨rfl, hb⟩
                have hb1 := hb0.below hb hb0.lt
                have HW1 := Lib.hid (hw0.trans (hb.mono hw0.size))
                clear hb0 hw0 hb
                obtain ⟨c0, c1, c2, c3, c4, c5, c6, c7, c8, c9, cA, cB⟩ := blk12 hb1
                go_wp2_with fail
                refine (HM.out _).mono ?_; rintro e w2 ⟨rfl, hb⟩
                have hb2 := hb1.below hb hb1.lt
                have HW2 := Lib.hid (HW1.out.trans (hb.mono HW1.out.size))
                clear hb1 hb c0 c1 c2 c3 c4 c5 c6 c7 c8 c9 cA cB
                obtain ⟨c0, c1, c2, c3, c4, c5, c6, c7, c8, c9, cA, cB⟩ := blk12 hb2
                clear hb2
                go_wp2_with fail
                go_ret
                exact ⟨rfl, HW2.out⟩
            · rw [if_pos (.inl (fun e => d1 (hd0.1 e)))] at hR
              subst hR
              have d1b : ((L : Int) != 0) = true := by simp; omega
              clear ht0 hd0 hL HH d1
              go_enter Tryd.func42, Tryd.ntmps42
              go_wp2_with fail
              refine (HP.out _).mono ?_; rintro e w1 ⟨rfl, hb⟩
              have hb1 := hb0.below hb hb0.lt
              have HW1 := Lib.hid (hw0.trans (hb.mono hw0.size))
              clear hb0 hw0 hb
              obtain ⟨c0, c1, c2, c3, c4, c5, c6, c7, c8, c9, cA, cB⟩ := blk12 hb1
              go_wp2_with fail
              refine (HM.out _).mono ?_; rintro e w2 ⟨rfl, hb⟩
              have hb2 := hb1.below hb hb1.lt
              have HW2 := Lib.hid (HW1.out.trans (hb.mono HW1.out.size))
              clear hb1 hb c0 c1 c2 c3 c4 c5 c6 c7 c8 c9 cA cB
              obtain ⟨c0, c1, c2, c3, c4, c5, c6, c7, c8, c9, cA, cB⟩ := blk12 hb2
              clear hb2
              go_wp2_with fail
              go_ret
              exact ⟨rfl, HW2.out⟩
          · rw [if_neg (by rintro (e | e); exact k2 e; exact k3 e)] at hR
            subst hR
            have k3b : (kind != 3) = true := by simpa using k3
            have k3c : (kind == 3) = false := by simpa using k3
            clear ht0 hd0 hL HH k1 k2 k3
            go_enter Tryd.func42, Tryd.ntmps42
            go_wp2_with fail
            refine (HP.out _).mono ?_; rintro e w1 ⟨rfl, hb⟩
            have hb1 := hb0.below hb hb0.lt
            have HW1 := Lib.hid (hw0.trans (hb.mono hw0.size))
            clear hb0 hw0 hb
            obtain ⟨c0, c1, c2, c3, c4, c5, c6, c7, c8, c9, cA, cB⟩ := blk12 hb1
            go_wp2_with fail
            refine (HM.out _).mono ?_; rintro e w2 ⟨rfl, hb⟩
            have hb2 := hb1.below hb hb1.lt
            have HW2 := Lib.hid (HW1.out.trans (hb.mono HW1.out.size))
            clear hb1 hb c0 c1 c2 c3 c4 c5 c6 c7 c8 c9 cA cB
            obtain ⟨c0, c1, c2, c3, c4, c5, c6, c7, c8, c9, cA, cB⟩ := blk12 hb2
            clear hb2
            go_wp2_with fail
            go_ret
            exact ⟨rfl, HW2.out⟩
    · have h2' : (e2 != 0) = true := by simpa using h2
      rw [HX2.out h2]
      clear HX2 HX3 h2
      go_enter Tryd.func42, Tryd.ntmps42
      go_wp2_with fail
      refine (HP.out _).mono ?_; rintro e w1 ⟨rfl, hb⟩
      have hb1 := hb0.below hb hb0.lt
      have HW1 := Lib.hid (hw0.trans (hb.mono hw0.size))
      clear hb0 hw0 hb
      obtain ⟨c0, c1, c2, c3, c4, c5, c6, c7, c8, c9, cA, cB⟩ := blk12 hb1
      go_wp2_with fail
      refine (HM.out _).mono ?_; rintro e w2 ⟨rfl, hb⟩
      have HW2 := Lib.hid (HW1.out.trans (hb.mono HW1.out.size))
      clear hb1 hb c0 c1 c2 c3 c4 c5 c6 c7 c8 c9 cA cB
      go_wp2_with fail
      go_ret
      exact ⟨rfl, HW2.out⟩
  · have h1' : (e1 != 0) = true := by simpa using h1
    rw [HX1.out h1]
    clear HX1 HX2 HX3 h1
    go_enter Tryd.func42, Tryd.ntmps42
    go_wp2_with fail
    refine (HP.out _).mono ?_; rintro e w1 ⟨rfl, hb⟩
    have HW1 := Lib.hid (hw0.trans (hb.mono hw0.size))
    clear hb0 hw0 hb
    go_wp2_with fail
    go_ret
    exact ⟨rfl, HW1.out⟩
end Go.Proofs.YtoplcelimdkjeaaDoor
