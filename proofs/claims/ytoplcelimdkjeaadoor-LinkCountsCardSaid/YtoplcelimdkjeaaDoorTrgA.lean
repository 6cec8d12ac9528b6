/- tree.Right: a node by itself. -/
import Derived.Test.YtoplcelimdkjeaaDoorNodD
import Derived.Test.YtoplcelimdkjeaaDoorSplA
import Derived.Test.YtoplcelimdkjeaaDoorMetA
set_option linter.unusedVariables false
set_option maxRecDepth 100000
namespace Go.Proofs.YtoplcelimdkjeaaDoor
open Go.RowKit
open Go.OpenShut
set_option maxHeartbeats 2000000 in
theorem rgFile_any (x : NodeV) (D : Option Addr) (c : Nat) (hk : x.kind = 1) (w : World) : Calls Tryd.prog 61 #[.agg (nodC x D c).toArray] w fun e w' => e = .returned (.int .i64 (nodK x)) ∧ Below w.heap.size w w' := by
  obtain ⟨path, kind, same, target, ⟨m0, m1, m2, m3, m4, m5, m6⟩, data⟩ := x
  simp only at hk
  subst hk
  have hR : nodK ⟨path, 1, same, target, ⟨m0, m1, m2, m3, m4, m5, m6⟩, data⟩ = if target ≠ [] ∨ same < 0 then 3 else if 2000 < data.length then 1 else 0 := if_pos rfl
  unfold nodC
  simp only at hR ⊢
  have q := bs_nil_eq (l := target)
  generalize nodK ⟨path, 1, same, target, ⟨m0, m1, m2, m3, m4, m5, m6⟩, data⟩ = R at hR ⊢
  generalize hL : data.length = L at *
  obtain ⟨T, hT⟩ := hid_name (bs target)
  rw [hT.out] at q ⊢
  clear hL
  have hw : ∀ o, Below w.heap.size w (w.alloc o) := fun o => belowA (Below.refl _ _) o
  have HW := Lib.hid hw
  clear hw
  by_cases t1 : target = []
  · rw [decide_eq_true t1] at q
    have q' : T.toList = [] := by simpa using q
    by_cases q1 : same < 0
    · rw [if_pos (.inr q1)] at hR
      subst hR
      clear t1 hT
      go_enter Tryd.func61, Tryd.ntmps61
      go_wp2_with fail
      go_ret
      exact ⟨rfl, HW.out _⟩
    · by_cases q2 : 2000 < L
      · rw [if_neg (by rintro (e | e); exact e t1; exact q1 e), if_pos q2] at hR
        subst hR
        clear t1 hT
        go_enter Tryd.func61, Tryd.ntmps61
        go_wp2_with fail
        go_ret
        exact ⟨rfl, HW.out _⟩
      · rw [if_neg (by rintro (e | e); exact e t1; exact q1 e), if_neg q2] at hR
        subst hR
        clear t1 hT
        go_enter Tryd.func61, Tryd.ntmps61
        go_wp2_with fail
        go_ret
        exact ⟨rfl, HW.out _⟩
  · rw [decide_eq_false t1] at q
    have q' : ¬ T.toList = [] := by simpa using q
    rw [if_pos (.inl t1)] at hR
    subst hR
    clear t1 hT
    go_enter Tryd.func61, Tryd.ntmps61
    go_wp2_with fail
    go_ret
    exact ⟨rfl, HW.out _⟩
set_option maxHeartbeats 4000000 in
theorem rgOther_any (x : NodeV) (D : Option Addr) (c : Nat) (hx : x.sz) (hk : x.kind = 2 ∨ x.kind = 3) (w : World) : Calls Tryd.prog 62 #[.agg (nodC x D c).toArray] w fun e w' => e = .returned (.int .i64 (nodK x)) ∧ Below w.heap.size w w' := by
  obtain ⟨path, kind, same, target, ⟨m0, m1, m2, m3, m4, m5, m6⟩, data⟩ := x
  obtain ⟨⟨-, z2, -⟩, -⟩ := hx
  simp only at hk z2
  have hR : nodK ⟨path, kind, same, target, ⟨m0, m1, m2, m3, m4, m5, m6⟩, data⟩ = (if data ≠ [] ∨ same ≠ 0 ∨ (kind = 2 ∧ target ≠ []) ∨ (kind = 3 ∧ target = []) ∨ hasB 0 target = true then 3 else if 400 < target.length then 1 else 0) := by
    unfold nodK; rw [if_neg (by simp only; omega), if_pos hk]
  unfold nodC
  simp only at hR ⊢
  have q := bs_nil_eq (l := target)
  have s2 := bs_size target
  generalize nodK ⟨path, kind, same, target, ⟨m0, m1, m2, m3, m4, m5, m6⟩, data⟩ = R at hR ⊢
  have hd0 : data = [] ↔ data.length = 0 := List.length_eq_zero_iff.symm
  generalize hL : data.length = L at *
  have HI0 : hasB 0 target = false → Hid (∀ W, Calls Tryd.prog 93 #[.string (bs target), .int .u8 0] W fun e w' => e = .returned (.int .i64 (-1)) ∧ W = w') := fun h W => IndexByte_no (bs target) W (by rw [bs_list]; exact h)
  have HI1 : hasB 0 target = true → Hid (∀ W, Calls Tryd.prog 93 #[.string (bs target), .int .u8 0] W fun e w' => e = .returned (.int .i64 (pos 0 target)) ∧ W = w') := fun h W => by
    have := IndexByte_yes (bs target) W (by rw [bs_list]; exact h)
    rw [bs_list] at this; exact this
  obtain ⟨T, hT⟩ := hid_name (bs target)
  rw [hT.out] at q s2 HI0 HI1 ⊢
  have HW := Lib.hid fun o => belowA (Below.refl w.heap.size w) o
  clear hL hT
  by_cases d1 : L = 0
  · have d2 := hd0.2 d1
    by_cases q1 : same = 0
    · subst q1
      by_cases k2 : kind = 2
      · subst k2
        by_cases t1 : target = []
        · subst t1
          rw [if_neg (by simp [d2, hasB]), if_neg (by simp)] at hR
          subst hR
          have q' : T.toList = [] := by simpa using q
          have HI := HI0 rfl
          have hl : ¬ 400 < T.size := by rw [s2]; simp
          clear HI0 HI1 d2 hd0 s2 hk z2
          subst d1
          go_enter Tryd.func62, Tryd.ntmps62
          go_wp2_with fail
          refine (HI.out _).mono ?_; rintro e w3 ⟨rfl, rfl⟩
          go_wp2_with fail
          go_ret
          exact ⟨rfl, HW.out _⟩
        · rw [if_pos (by simp [t1])] at hR
          subst hR
          rw [decide_eq_false t1] at q
          have q' : ¬ T.toList = [] := by simpa using q
          clear HI0 HI1 d2 hd0 s2 hk z2 t1
          subst d1
          go_enter Tryd.func62, Tryd.ntmps62
          go_wp2_with fail
          go_ret
          exact ⟨rfl, HW.out _⟩
      · obtain rfl : kind = 3 := by omega
        by_cases t1 : target = []
        · subst t1
          rw [if_pos (by simp)] at hR
          subst hR
          have q' : T.toList = [] := by simpa using q
          clear HI0 HI1 d2 hd0 s2 hk z2
          subst d1
          go_enter Tryd.func62, Tryd.ntmps62
          go_wp2_with fail
          go_ret
          exact ⟨rfl, HW.out _⟩
        · rw [decide_eq_false t1] at q
          have q' : ¬ T.toList = [] := by simpa using q
          cases z0 : hasB 0 target
          · rw [if_neg (by simp [d2, t1, z0])] at hR
            have HI := HI0 z0
            rw [← s2] at hR
            by_cases q4 : 400 < T.size
            · rw [if_pos q4] at hR
              subst hR
              clear HI0 HI1 d2 hd0 s2 hk z2 t1
              subst d1
              go_enter Tryd.func62, Tryd.ntmps62
              go_wp2_with fail
              refine (HI.out _).mono ?_; rintro e w3 ⟨rfl, rfl⟩
              go_wp2_with fail
              go_ret
              exact ⟨rfl, HW.out _⟩
            · rw [if_neg q4] at hR
              subst hR
              clear HI0 HI1 d2 hd0 s2 hk z2 t1
              subst d1
              go_enter Tryd.func62, Tryd.ntmps62
              go_wp2_with fail
              refine (HI.out _).mono ?_; rintro e w3 ⟨rfl, rfl⟩
              go_wp2_with fail
              go_ret
              exact ⟨rfl, HW.out _⟩
          · rw [if_pos (by simp [z0])] at hR
            subst hR
            have HI := HI1 z0
            have hp : (0 : Int) ≤ (pos 0 target : Nat) := Int.natCast_nonneg _
            generalize ((pos 0 target : Nat) : Int) = p at HI hp
            clear HI0 HI1 d2 hd0 s2 hk z2 t1 z0
            subst d1
            go_enter Tryd.func62, Tryd.ntmps62
            go_wp2_with fail
            refine (HI.out _).mono ?_; rintro e w3 ⟨rfl, rfl⟩
            go_wp2_with fail
            go_ret
            exact ⟨rfl, HW.out _⟩
    · rw [if_pos (.inr (.inl q1))] at hR
      subst hR
      have q1b : (same != 0) = true := by simpa using q1
      clear HI0 HI1 d2 hd0 s2 hk z2 q1
      subst d1
      go_enter Tryd.func62, Tryd.ntmps62
      go_wp2_with fail
      go_ret
      exact ⟨rfl, HW.out _⟩
  · rw [if_pos (.inl (fun e => d1 (hd0.1 e)))] at hR
    subst hR
    have d1b : 0 < L := by omega
    clear HI0 HI1 hd0 s2 hk z2 d1
    go_enter Tryd.func62, Tryd.ntmps62
    go_wp2_with fail
    go_ret
    exact ⟨rfl, HW.out _⟩
set_option maxHeartbeats 4000000 in
theorem Right_any (x : NodeV) (D : Option Addr) (c : Nat) (hx : x.sz) (w : World) : Calls Tryd.prog 36 #[.agg (nodC x D c).toArray] w fun e w' => e = .returned (.int .i64 (nodE x)) ∧ Below w.heap.size w w' := by
  have HF : x.kind = 1 → Hid (∀ W, Calls Tryd.prog 61 #[.agg (nodC x D c).toArray] W fun e w' => e = .returned (.int .i64 (nodK x)) ∧ Below W.heap.size W w') := fun h W => rgFile_any x D c h W
  have HO : (x.kind = 2 ∨ x.kind = 3) → Hid (∀ W, Calls Tryd.prog 62 #[.agg (nodC x D c).toArray] W fun e w' => e = .returned (.int .i64 (nodK x)) ∧ Below W.heap.size W w') := fun h W => rgOther_any x D c hx h W
  obtain ⟨path, kind, same, target, md, data⟩ := x
  obtain ⟨⟨z1, z2, z3⟩, z4⟩ := hx
  simp only at z1 z2 z3 z4 HF HO
  have HP := Lib.hid fun W => Check_any (bs path) W (by rw [bs_size]; unfold maxLen; omega)
  have HM := Lib.hid fun W => metCheck_any md z4 W
  rw [bs_list] at HP
  have HX1 := Lib.hid fun h => nodE_path (n := ⟨path, kind, same, target, md, data⟩) h
  have HX2 := Lib.hid fun h h2 => nodE_meta (n := ⟨path, kind, same, target, md, data⟩) h h2
  have HX3 := Lib.hid fun h h2 => nodE_kind (n := ⟨path, kind, same, target, md, data⟩) h h2
  simp only at HX1 HX2 HX3
  have hn0 : ¬ (kind = 1) → ¬ (kind = 2 ∨ kind = 3) → nodK ⟨path, kind, same, target, md, data⟩ = 2 := fun h h2 => by unfold nodK; rw [if_neg h, if_neg h2]
  obtain ⟨e1, he1⟩ : ∃ e, e = pathE path := ⟨_, rfl⟩
  obtain ⟨e2, he2⟩ : ∃ e, e = metE md := ⟨_, rfl⟩
  rw [← he1] at HP HX1 HX2 HX3
  rw [← he2] at HM HX2 HX3
  generalize nodK ⟨path, kind, same, target, md, data⟩ = R at *
  generalize nodE ⟨path, kind, same, target, md, data⟩ = V at *
  clear he1 he2 z4
  obtain ⟨m0, m1, m2, m3, m4, m5, m6⟩ := md
  unfold metA at HM
  unfold nodC at HF HO ⊢
  simp only at HM HF HO ⊢
  obtain ⟨P, hP⟩ := hid_name (bs path)
  obtain ⟨T, hT⟩ := hid_name (bs target)
  rw [hP.out] at HP HF HO ⊢
  rw [hT.out] at HF HO ⊢
  have hb0 := Blk.new w 39 #[.string P, .int .i64 kind, .int .i64 same, .string T, .int .i64 m0, .int .i64 m1, .int .i64 m2, .string (bs m3), .string (bs m4), .int .i64 m5, .int .i64 m6, .slice D data.length c]
  have hw0 : Below w.heap.size w (w.alloc (.cells #[.string P, .int .i64 kind, .int .i64 same, .string T, .int .i64 m0, .int .i64 m1, .int .i64 m2, .string (bs m3), .string (bs m4), .int .i64 m5, .int .i64 m6, .slice D data.length c] 39)) := (Below.refl _ _).alloc (Nat.le_refl _) _
  clear z1 z2 z3
  by_cases h1 : e1 = 0
  · subst h1
    have HX2 := Lib.hid (HX2.out rfl)
    have HX3 := Lib.hid (HX3.out rfl)
    clear HX1
    by_cases h2 : e2 = 0
    · subst h2
      have hV := HX3.out rfl
      subst hV
      clear HX2 HX3
      by_cases k1 : kind = 1
      · have HF2 := HF k1
        clear HF HO hn0
        subst k1
        go_enter Tryd.func36, Tryd.ntmps36
        go_wp2_with fail
        refine (HP.out _).mono ?_; rintro e w1 ⟨rfl, hb⟩
        have hb1 := hb0.below hb hb0.lt
        have HW1 := Lib.hid (hw0.trans (hb.mono hw0.size))
        clear hb0 hw0 hb
        obtain ⟨c0, c1, c2, c3, c4, c5, c6, c7, c8, c9, cA, cB⟩ := blk12 hb1
        go_wp2_with fail
        refine (HM.out _).mono ?_; rintro e w2 ⟨rfl, hb⟩
        have hb2 := hb1.below hb hb1.lt
        have HW2 := Lib.hid (HW1.out.trans (hb.mono HW1.out.size))
        clear hb1 hb c0 c1 c2 c3 c4 c5 c6 c7 c8 c9 cA cB
        obtain ⟨⟨c0, c1, c2, c3, c4, c5, c6, c7, c8, c9, cA, cB⟩, -⟩ := blk12 hb2
        clear hb2
        go_wp2_with fail
        refine (HF2.out _).mono ?_; rintro e w3 ⟨rfl, hb⟩
        have HW3 := Lib.hid (HW2.out.trans (hb.mono HW2.out.size))
        clear hb
        go_wp2_with fail
        go_ret
        exact ⟨rfl, HW3.out⟩
      · have k1b : (kind == 1) = false := by simpa using k1
        by_cases k2 : kind = 2
        · have HO2 := HO (.inl k2)
          clear HO HF hn0
          subst k2
          go_enter Tryd.func36, Tryd.ntmps36
          go_wp2_with fail
          refine (HP.out _).mono ?_; rintro e w1 ⟨rfl, hb⟩
          have hb1 := hb0.below hb hb0.lt
          have HW1 := Lib.hid (hw0.trans (hb.mono hw0.size))
          clear hb0 hw0 hb
          obtain ⟨c0, c1, c2, c3, c4, c5, c6, c7, c8, c9, cA, cB⟩ := blk12 hb1
          go_wp2_with fail
          refine (HM.out _).mono ?_; rintro e w2 ⟨rfl, hb⟩
          have hb2 := hb1.below hb hb1.lt
          have HW2 := Lib.hid (HW1.out.trans (hb.mono HW1.out.size))
          clear hb1 hb c0 c1 c2 c3 c4 c5 c6 c7 c8 c9 cA cB
          obtain ⟨⟨c0, c1, c2, c3, c4, c5, c6, c7, c8, c9, cA, cB⟩, -⟩ := blk12 hb2
          clear hb2
          go_wp2_with fail
          refine (HO2.out _).mono ?_; rintro e w3 ⟨rfl, hb⟩
          have HW3 := Lib.hid (HW2.out.trans (hb.mono HW2.out.size))
          clear hb
          go_wp2_with fail
          go_ret
          exact ⟨rfl, HW3.out⟩
        · have k2b : (kind == 2) = false := by simpa using k2
          by_cases k3 : kind = 3
          · have HO2 := HO (.inr k3)
            clear HO HF hn0
            subst k3
            go_enter Tryd.func36, Tryd.ntmps36
            go_wp2_with fail
            refine (HP.out _).mono ?_; rintro e w1 ⟨rfl, hb⟩
            have hb1 := hb0.below hb hb0.lt
            have HW1 := Lib.hid (hw0.trans (hb.mono hw0.size))
            clear hb0 hw0 hb
            obtain ⟨c0, c1, c2, c3, c4, c5, c6, c7, c8, c9, cA, cB⟩ := blk12 hb1
            go_wp2_with fail
            refine (HM.out _).mono ?_; rintro e w2 ⟨rfl, hb⟩
            have hb2 := hb1.below hb hb1.lt
            have HW2 := Lib.hid (HW1.out.trans (hb.mono HW1.out.size))
            clear hb1 hb c0 c1 c2 c3 c4 c5 c6 c7 c8 c9 cA cB
            obtain ⟨⟨c0, c1, c2, c3, c4, c5, c6, c7, c8, c9, cA, cB⟩, -⟩ := blk12 hb2
            clear hb2
            go_wp2_with fail
            refine (HO2.out _).mono ?_; rintro e w3 ⟨rfl, hb⟩
            have HW3 := Lib.hid (HW2.out.trans (hb.mono HW2.out.size))
            clear hb
            go_wp2_with fail
            go_ret
            exact ⟨rfl, HW3.out⟩
          · have hv := hn0 k1 (by rintro (e | e); exact k2 e; exact k3 e)
            subst hv
            have k3b : (kind == 3) = false := by simpa using k3
            clear HF HO hn0 k1 k2 k3
            go_enter Tryd.func36, Tryd.ntmps36
            go_wp2_with fail
            refine (HP.out _).mono ?_; rintro e w1 ⟨rfl, hb⟩
            have hb1 := hb0.below hb hb0.lt
            have HW1 := Lib.hid (hw0.trans (hb.mono hw0.size))
            clear hb0 hw0 hb
            obtain ⟨c0, c1, c2, c3, c4, c5, c6, c7, c8, c9, cA, cB⟩ := blk12 hb1
            go_wp2_with fail
            refine (HM.out _).mono ?_; rintro e w2 ⟨rfl, hb⟩
            have hb2 := hb1.below hb hb1.lt
            have HW2 := Lib.hid (HW1.out.trans (hb.mono HW1.out.size))
            clear hb1 hb c0 c1 c2 c3 c4 c5 c6 c7 c8 c9 cA cB
            obtain ⟨⟨c0, c1, c2, c3, c4, c5, c6, c7, c8, c9, cA, cB⟩, -⟩ := blk12 hb2
            clear hb2
            go_wp2_with fail
            go_ret
            exact ⟨rfl, HW2.out⟩
    · have h2' : (e2 != 0) = true := by simpa using h2
      have hV := HX2.out h2
      subst hV
      clear HX2 HX3 h2 HF HO hn0
      go_enter Tryd.func36, Tryd.ntmps36
      go_wp2_with fail
      refine (HP.out _).mono ?_; rintro e w1 ⟨rfl, hb⟩
      have hb1 := hb0.below hb hb0.lt
      have HW1 := Lib.hid (hw0.trans (hb.mono hw0.size))
      clear hb0 hw0 hb
      obtain ⟨c0, c1, c2, c3, c4, c5, c6, c7, c8, c9, cA, cB⟩ := blk12 hb1
      go_wp2_with fail
      refine (HM.out _).mono ?_; rintro e w2 ⟨rfl, hb⟩
      have HW2 := Lib.hid (HW1.out.trans (hb.mono HW1.out.size))
      clear hb1 hb c0 c1 c2 c3 c4 c5 c6 c7 c8 c9 cA cB
      go_wp2_with fail
      go_ret
      exact ⟨rfl, HW2.out⟩
  · have h1' : (e1 != 0) = true := by simpa using h1
    have hV := HX1.out h1
    subst hV
    clear HX1 HX2 HX3 h1 HF HO hn0
    go_enter Tryd.func36, Tryd.ntmps36
    go_wp2_with fail
    refine (HP.out _).mono ?_; rintro e w1 ⟨rfl, hb⟩
    have HW1 := Lib.hid (hw0.trans (hb.mono hw0.size))
    clear hb0 hw0 hb
    go_wp2_with fail
    go_ret
    exact ⟨rfl, HW1.out⟩
end Go.Proofs.YtoplcelimdkjeaaDoor
