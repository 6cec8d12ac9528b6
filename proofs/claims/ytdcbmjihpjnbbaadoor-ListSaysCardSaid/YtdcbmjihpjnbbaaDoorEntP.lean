/- Contracts of package plan: what is wrong with a member. -/
import Derived.Test.YtdcbmjihpjnbbaaDoorEna
import Derived.Test.YtdcbmjihpjnbbaaDoorSpl
import Derived.Test.YtdcbmjihpjnbbaaDoorMet
import Derived.Test.YtdcbmjihpjnbbaaDoorFld
set_option linter.unusedVariables false
set_option maxRecDepth 100000
namespace Go.Proofs.YtdcbmjihpjnbbaaDoor
open Go.RowKit
open Go.OpenShut
theorem indexByte_sg (s : List UInt8) : (0 ≤ Lib.indexByte s 0) = (hasB 0 s = true) := by
  rw [indexByte_pos]
  cases h : hasB 0 s
  · simp
  · simp
set_option maxHeartbeats 4000000 in
/-- rightContent, at the four kinds -/
theorem pRC_any (x : EntV) (D : Option Addr) (c : Nat) (hx : x.sz) (hk1 : ¬ x.kind < 1) (hk4 : ¬ 4 < x.kind) (w : World) : Calls Tryd.prog 47 #[.agg (entC x D c).toArray] w fun e w' => e = .returned (.int .i64 (entK x)) ∧ Below w.heap.size w w' := by
  obtain ⟨path, kind, target, md, data⟩ := x
  obtain ⟨⟨z1, z2, z3⟩, z4⟩ := hx
  simp only at z1 z2 z3 z4 hk1 hk4
  have HPT := Lib.hid fun W => Check_any (bs target) W (by rw [bs_size]; unfold maxLen; omega)
  have HH := Lib.hid fun W => IndexByte_any (bs target) 0 W
  rw [bs_list] at HPT HH
  rw [show (0 : Int).toNat.toUInt8 = 0 by decide] at HH
  obtain ⟨m0, m1, m2, m3, m4, m5, m6⟩ := md
  clear z4
  unfold entC
  simp only
  have s2 := bs_size target
  obtain ⟨P, hP⟩ := hid_name (bs path)
  rw [hP.out]
  have hR : entK ⟨path, kind, target, ⟨m0, m1, m2, m3, m4, m5, m6⟩, data⟩ = if kind < 1 ∨ 4 < kind then 2
    else if (2 < kind ∧ target = []) ∨ (¬ 2 < kind ∧ target ≠ []) ∨ (1 < kind ∧ data ≠ []) then 3
    else if 2000 < data.length ∨ 400 < target.length then 1
    else if kind = 4 then pathE target
    else if hasB 0 target = true then 3 else 0 := rfl
  have ht0 : target ≠ [] → ¬ (bs target).toList = [] ∧ ((bs target).toList == []) = false := fun h => by
    have : ((bs target).toList == []) = false := by rw [bs_nil_eq]; simpa using h
    exact ⟨fun e => (by rw [e] at this; exact absurd this (by decide)), this⟩
  have hd0 : data = [] ↔ data.length = 0 := List.length_eq_zero_iff.symm
  have hsg := indexByte_sg target
  generalize entK ⟨path, kind, target, ⟨m0, m1, m2, m3, m4, m5, m6⟩, data⟩ = R at hR ⊢
  generalize Lib.indexByte target 0 = ix at HH hsg
  obtain ⟨L, hL⟩ : ∃ L, L = data.length := ⟨_, rfl⟩
  rw [← hL] at hd0 hR z3 ⊢
  clear hL z1 z2
  rw [if_neg (by rintro (e | e); exact hk1 e; exact hk4 e)] at hR
  have hw0 : Below w.heap.size w (w.alloc (.cells #[.string P, .int .i64 kind, .string (bs target), .int .i64 m0, .int .i64 m1, .int .i64 m2, .string (bs m3), .string (bs m4), .int .i64 m5, .int .i64 m6, .slice D L c] 30)) := (Below.refl _ _).alloc (Nat.le_refl _) _
  have hks : kind = 1 ∨ kind = 2 ∨ kind = 3 ∨ kind = 4 := by omega
  clear hk1 hk4
  rcases hks with hk | hk | hk | hk

  · -- kind 1
    subst hk
    by_cases d0 : 0 < L
    · have d0b : (0 : Int) < (L : Int) := by omega
      by_cases t1 : target = []
      · have hc : ¬ (((1 : Int) > 2 ∧ target = []) ∨ (¬ (2 : Int) < 1 ∧ target ≠ []) ∨ ((1 : Int) < 1 ∧ data ≠ [])) := by rintro (⟨e, -⟩ | ⟨-, e⟩ | ⟨e, e2⟩); exact absurd e (by decide); exact e t1; exact absurd e (by decide)
        rw [if_neg hc] at hR
        subst t1
        clear hc
        simp only [show bs [] = (⟨#[]⟩ : ByteArray) from rfl] at *
        by_cases q2 : 2000 < L
        · rw [if_pos (.inl q2)] at hR
          subst hR
          have q2b : (2000 : Int) < (L : Int) := by omega
          have HW0 := Lib.hid hw0
          clear hw0 s2
          clear ht0 hd0 hsg HPT HH
          go_enter Tryd.func47, Tryd.ntmps47
          go_wp2_with fail
          go_ret
          exact ⟨rfl, HW0.out⟩
        · rw [if_neg (by rintro (e | e); exact q2 e; simp at e), if_neg (by decide), if_neg (by decide)] at hR
          subst hR
          have q2b : ¬ (2000 : Int) < (L : Int) := by omega
          have hneg : ¬ (0 : Int) ≤ ix := by rw [hsg]; decide
          have HW0 := Lib.hid hw0
          clear hw0 s2
          clear ht0 hd0 hsg
          go_enter Tryd.func47, Tryd.ntmps47
          go_wp2_with fail
          refine (HH.out _).mono ?_; rintro e w1 ⟨rfl, rfl⟩
          go_wp2_with fail
          go_ret
          exact ⟨rfl, HW0.out⟩
      · obtain ⟨ht1, ht2⟩ := ht0 t1
        rw [if_pos (.inr (.inl ⟨by decide, t1⟩))] at hR
        subst hR
        obtain ⟨T, hT⟩ := hid_name (bs target)
        rw [hT.out] at ht1 ht2 hw0 ⊢
        have HW0 := Lib.hid hw0
        clear hw0 s2 t1
        clear ht0 hd0 hsg HPT HH
        go_enter Tryd.func47, Tryd.ntmps47
        go_wp2_with fail
        go_ret
        exact ⟨rfl, HW0.out⟩
    · have d2 : L = 0 := by omega
      subst d2
      clear d0
      by_cases t1 : target = []
      · have hc : ¬ (((1 : Int) > 2 ∧ target = []) ∨ (¬ (2 : Int) < 1 ∧ target ≠ []) ∨ ((1 : Int) < 1 ∧ data ≠ [])) := by rintro (⟨e, -⟩ | ⟨-, e⟩ | ⟨e, e2⟩); exact absurd e (by decide); exact e t1; exact absurd e (by decide)
        rw [if_neg hc] at hR
        subst t1
        clear hc
        simp only [show bs [] = (⟨#[]⟩ : ByteArray) from rfl] at *
        rw [if_neg (by simp), if_neg (by decide), if_neg (by decide)] at hR
        subst hR
        have hneg : ¬ (0 : Int) ≤ ix := by rw [hsg]; decide
        have HW0 := Lib.hid hw0
        clear hw0 s2
        clear ht0 hd0 hsg
        go_enter Tryd.func47, Tryd.ntmps47
        go_wp2_with fail
        refine (HH.out _).mono ?_; rintro e w1 ⟨rfl, rfl⟩
        go_wp2_with fail
        go_ret
        exact ⟨rfl, HW0.out⟩
      · obtain ⟨ht1, ht2⟩ := ht0 t1
        rw [if_pos (.inr (.inl ⟨by decide, t1⟩))] at hR
        subst hR
        obtain ⟨T, hT⟩ := hid_name (bs target)
        rw [hT.out] at ht1 ht2 hw0 ⊢
        have HW0 := Lib.hid hw0
        clear hw0 s2 t1
        clear ht0 hd0 hsg HPT HH
        go_enter Tryd.func47, Tryd.ntmps47
        go_wp2_with fail
        go_ret
        exact ⟨rfl, HW0.out⟩
  · -- kind 2
    subst hk
    by_cases d1 : 0 < L
    · rw [if_pos (.inr (.inr ⟨by omega, fun e => by have := hd0.1 e; omega⟩))] at hR
      subst hR
      have d1b : (0 : Int) < (L : Int) := by omega
      obtain ⟨T, hT⟩ := hid_name (bs target)
      rw [hT.out] at hw0 ⊢
      have HW0 := Lib.hid hw0
      clear hw0 s2
      clear ht0 hd0 hsg HPT HH
      go_enter Tryd.func47, Tryd.ntmps47
      go_wp2_with fail
      go_ret
      exact ⟨rfl, HW0.out⟩
    · have d2 : L = 0 := by omega
      have d3 : data = [] := hd0.2 d2
      subst d2
      clear d1
      by_cases t1 : target = []
      · have hc : ¬ (((2 : Int) > 2 ∧ target = []) ∨ (¬ (2 : Int) < 2 ∧ target ≠ []) ∨ ((1 : Int) < 2 ∧ data ≠ [])) := by rintro (⟨e, -⟩ | ⟨-, e⟩ | ⟨e, e2⟩); exact absurd e (by decide); exact e t1; exact e2 d3
        rw [if_neg hc] at hR
        subst t1
        clear hc
        simp only [show bs [] = (⟨#[]⟩ : ByteArray) from rfl] at *
        rw [if_neg (by simp), if_neg (by decide), if_neg (by decide)] at hR
        subst hR
        have hneg : ¬ (0 : Int) ≤ ix := by rw [hsg]; decide
        have HW0 := Lib.hid hw0
        clear hw0 s2
        clear ht0 hd0 hsg
        go_enter Tryd.func47, Tryd.ntmps47
        go_wp2_with fail
        refine (HH.out _).mono ?_; rintro e w1 ⟨rfl, rfl⟩
        go_wp2_with fail
        go_ret
        exact ⟨rfl, HW0.out⟩
      · obtain ⟨ht1, ht2⟩ := ht0 t1
        rw [if_pos (.inr (.inl ⟨by decide, t1⟩))] at hR
        subst hR
        obtain ⟨T, hT⟩ := hid_name (bs target)
        rw [hT.out] at ht1 ht2 hw0 ⊢
        have HW0 := Lib.hid hw0
        clear hw0 s2 t1
        clear ht0 hd0 hsg HPT HH
        go_enter Tryd.func47, Tryd.ntmps47
        go_wp2_with fail
        go_ret
        exact ⟨rfl, HW0.out⟩
  · -- kind 3
    subst hk
    by_cases d1 : 0 < L
    · rw [if_pos (.inr (.inr ⟨by omega, fun e => by have := hd0.1 e; omega⟩))] at hR
      subst hR
      have d1b : (0 : Int) < (L : Int) := by omega
      obtain ⟨T, hT⟩ := hid_name (bs target)
      rw [hT.out] at hw0 ⊢
      have HW0 := Lib.hid hw0
      clear hw0 s2
      clear ht0 hd0 hsg HPT HH
      go_enter Tryd.func47, Tryd.ntmps47
      go_wp2_with fail
      go_ret
      exact ⟨rfl, HW0.out⟩
    · have d2 : L = 0 := by omega
      have d3 : data = [] := hd0.2 d2
      subst d2
      clear d1
      by_cases t1 : target = []
      · rw [if_pos (.inl ⟨by decide, t1⟩)] at hR
        subst hR t1
        simp only [show bs [] = (⟨#[]⟩ : ByteArray) from rfl] at *
        have HW0 := Lib.hid hw0
        clear hw0 s2
        clear ht0 hd0 hsg HPT HH
        go_enter Tryd.func47, Tryd.ntmps47
        go_wp2_with fail
        go_ret
        exact ⟨rfl, HW0.out⟩
      · obtain ⟨ht1, ht2⟩ := ht0 t1
        rw [if_neg (by rintro (⟨-, e⟩ | ⟨e, -⟩ | ⟨-, e⟩); exact t1 e; exact e (by decide); exact e d3)] at hR
        by_cases q4 : 400 < (bs target).size
        · rw [if_pos (.inr (by rw [← s2]; exact q4))] at hR
          subst hR
          obtain ⟨T, hT⟩ := hid_name (bs target)
          rw [hT.out] at ht1 ht2 hw0 q4 ⊢
          have q4b : (400 : Int) < (T.size : Int) := by omega
          have HW0 := Lib.hid hw0
          clear hw0 s2 t1
          clear ht0 hd0 hsg HPT HH
          go_enter Tryd.func47, Tryd.ntmps47
          go_wp2_with fail
          go_ret
          exact ⟨rfl, HW0.out⟩
        · rw [if_neg (by rintro (e | e); omega; exact q4 (by rw [s2]; exact e))] at hR
          rw [if_neg (by decide)] at hR
          obtain ⟨T, hT⟩ := hid_name (bs target)
          rw [hT.out] at ht1 ht2 hw0 q4 HH ⊢
          have q4b : ¬ (400 : Int) < (T.size : Int) := by omega
          have HW0 := Lib.hid hw0
          clear hw0 s2 t1 HPT
          by_cases z0 : (0 : Int) ≤ ix
          · rw [hsg] at z0
            rw [if_pos z0] at hR
            rw [← hsg] at z0
            subst hR
            clear ht0 hd0 hsg
            go_enter Tryd.func47, Tryd.ntmps47
            go_wp2_with fail
            refine (HH.out _).mono ?_; rintro e w1 ⟨rfl, rfl⟩
            go_wp2_with fail
            go_ret
            exact ⟨rfl, HW0.out⟩
          · rw [hsg] at z0
            rw [if_neg z0] at hR
            rw [← hsg] at z0
            subst hR
            clear ht0 hd0 hsg
            go_enter Tryd.func47, Tryd.ntmps47
            go_wp2_with fail
            refine (HH.out _).mono ?_; rintro e w1 ⟨rfl, rfl⟩
            go_wp2_with fail
            go_ret
            exact ⟨rfl, HW0.out⟩
  · -- kind 4
    subst hk
    by_cases d1 : 0 < L
    · rw [if_pos (.inr (.inr ⟨by omega, fun e => by have := hd0.1 e; omega⟩))] at hR
      subst hR
      have d1b : (0 : Int) < (L : Int) := by omega
      obtain ⟨T, hT⟩ := hid_name (bs target)
      rw [hT.out] at hw0 ⊢
      have HW0 := Lib.hid hw0
      clear hw0 s2
      clear ht0 hd0 hsg HPT HH
      go_enter Tryd.func47, Tryd.ntmps47
      go_wp2_with fail
      go_ret
      exact ⟨rfl, HW0.out⟩
    · have d2 : L = 0 := by omega
      have d3 : data = [] := hd0.2 d2
      subst d2
      clear d1
      by_cases t1 : target = []
      · rw [if_pos (.inl ⟨by decide, t1⟩)] at hR
        subst hR t1
        simp only [show bs [] = (⟨#[]⟩ : ByteArray) from rfl] at *
        have HW0 := Lib.hid hw0
        clear hw0 s2
        clear ht0 hd0 hsg HPT HH
        go_enter Tryd.func47, Tryd.ntmps47
        go_wp2_with fail
        go_ret
        exact ⟨rfl, HW0.out⟩
      · obtain ⟨ht1, ht2⟩ := ht0 t1
        rw [if_neg (by rintro (⟨-, e⟩ | ⟨e, -⟩ | ⟨-, e⟩); exact t1 e; exact e (by decide); exact e d3)] at hR
        by_cases q4 : 400 < (bs target).size
        · rw [if_pos (.inr (by rw [← s2]; exact q4))] at hR
          subst hR
          obtain ⟨T, hT⟩ := hid_name (bs target)
          rw [hT.out] at ht1 ht2 hw0 q4 ⊢
          have q4b : (400 : Int) < (T.size : Int) := by omega
          have HW0 := Lib.hid hw0
          clear hw0 s2 t1
          clear ht0 hd0 hsg HPT HH
          go_enter Tryd.func47, Tryd.ntmps47
          go_wp2_with fail
          go_ret
          exact ⟨rfl, HW0.out⟩
        · rw [if_neg (by rintro (e | e); omega; exact q4 (by rw [s2]; exact e))] at hR
          rw [if_pos rfl] at hR
          obtain ⟨E, hE⟩ := hid_name (pathE target)
          rw [hE.out] at hR HPT
          subst hR
          obtain ⟨T, hT⟩ := hid_name (bs target)
          rw [hT.out] at ht1 ht2 hw0 q4 HPT ⊢
          have q4b : ¬ (400 : Int) < (T.size : Int) := by omega
          have HW0 := Lib.hid hw0
          clear hw0 s2 t1 HH
          clear ht0 hd0 hsg
          go_enter Tryd.func47, Tryd.ntmps47
          go_wp2_with fail
          refine (HPT.out _).mono ?_; rintro e w1 ⟨rfl, hb⟩
          have HW1 := Lib.hid (HW0.out.trans (hb.mono HW0.out.size))
          clear hb
          go_wp2_with fail
          go_ret
          exact ⟨rfl, HW1.out⟩
set_option maxHeartbeats 4000000 in
theorem pRight_any (x : EntV) (D : Option Addr) (c : Nat) (hx : x.sz) (w : World) : Calls Tryd.prog 23 #[.agg (entC x D c).toArray] w fun e w' => e = .returned (.int .i64 (entE x)) ∧ Below w.heap.size w w' := by
  have HC := Lib.hid fun h1 h4 W => pRC_any x D c hx h1 h4 W
  have HX1 := Lib.hid fun h => entE_path (n := x) h
  have HX2 := Lib.hid fun h h2 => entE_meta (n := x) h h2
  have HX3 := Lib.hid fun h h2 => entE_kind (n := x) h h2
  obtain ⟨⟨z1, z2, z3⟩, z4⟩ := hx
  have HP := Lib.hid fun W => Check_any (bs x.path) W (by rw [bs_size]; unfold maxLen; omega)
  have HM := Lib.hid fun W => metCheck_any x.md z4 W
  rw [bs_list] at HP
  have hK : x.kind < 1 ∨ 4 < x.kind → entK x = 2 := fun h => if_pos h
  have HK := Lib.hid hK
  obtain ⟨e1, he1⟩ : ∃ e, e = pathE x.path := ⟨_, rfl⟩
  obtain ⟨e2, he2⟩ : ∃ e, e = metE x.md := ⟨_, rfl⟩
  rw [← he1] at HP HX1 HX2 HX3
  rw [← he2] at HM HX2 HX3
  clear he1 he2 z1 z2 z3 z4 hK
  unfold entC at HC ⊢
  unfold metA at HM
  (try simp only at HM)
  generalize entK x = eK at HC HX3 HK
  generalize entE x = eE at HX1 HX2 HX3 ⊢
  obtain ⟨P, hP⟩ := hid_name (bs x.path)
  rw [hP.out] at HP HC ⊢
  generalize bs x.target = T at HC ⊢
  obtain ⟨mdl, hmd⟩ : ∃ m, m = x.md := ⟨_, rfl⟩
  rw [← hmd] at HM HC ⊢
  generalize x.kind = kind at HC HK ⊢
  generalize x.data.length = L at HC ⊢
  clear hmd
  obtain ⟨m0, m1, m2, m3, m4, m5, m6⟩ := mdl
  (try simp only at HM)
  (try simp only at HC)
  (try simp only)
  have hb0 := Blk.new w 30 #[.string P, .int .i64 kind, .string T, .int .i64 m0, .int .i64 m1, .int .i64 m2, .string (bs m3), .string (bs m4), .int .i64 m5, .int .i64 m6, .slice D L c]
  have hw0 : Below w.heap.size w (w.alloc (.cells #[.string P, .int .i64 kind, .string T, .int .i64 m0, .int .i64 m1, .int .i64 m2, .string (bs m3), .string (bs m4), .int .i64 m5, .int .i64 m6, .slice D L c] 30)) := (Below.refl _ _).alloc (Nat.le_refl _) _
  have HB0 := Lib.hid hb0
  have HW0 := Lib.hid hw0
  clear hb0 hw0
  by_cases h1 : e1 = 0
  · subst h1
    have HX2 := Lib.hid (HX2.out rfl)
    have HX3 := Lib.hid (HX3.out rfl)
    clear HX1
    by_cases h2 : e2 = 0
    · subst h2
      rw [HX3.out rfl]
      clear HX2 HX3
      by_cases hk : kind < 1 ∨ 4 < kind
      · rw [HK.out hk]
        clear HC HK
        have k1 : (kind == 1) = false := by simp; omega
        have k2 : (kind == 2) = false := by simp; omega
        have k3 : (kind == 3) = false := by simp; omega
        have k4 : (kind == 4) = false := by simp; omega
        clear hk
        go_enter Tryd.func23, Tryd.ntmps23
        go_wp2_with fail
        refine (HP.out _).mono ?_; rintro e w1 ⟨rfl, hb⟩
        have hb1 := HB0.out.below hb HB0.out.lt
        have HW1 := Lib.hid (HW0.out.trans (hb.mono HW0.out.size))
        clear hb
        obtain ⟨⟨c0, c1, c3, c4, c5, c6, c7, c8, c9, cA, cB⟩, -⟩ := blk11 hb1
        go_wp2_with fail
        refine (HM.out _).mono ?_; rintro e w2 ⟨rfl, hb⟩
        have hb2 := hb1.below hb hb1.lt
        have HW2 := Lib.hid (HW1.out.trans (hb.mono HW1.out.size))
        clear hb1 hb c0 c1 c3 c4 c5 c6 c7 c8 c9 cA cB
        obtain ⟨⟨c0, c1, c3, c4, c5, c6, c7, c8, c9, cA, cB⟩, -⟩ := blk11 hb2
        clear hb2
        go_wp2_with fail
        go_ret
        exact ⟨rfl, HW2.out⟩
      · have HC2 := Lib.hid fun W => HC.out (by omega) (by omega) W
        have hks : kind = 1 ∨ kind = 2 ∨ kind = 3 ∨ kind = 4 := by omega
        clear HC HK hk
        rcases hks with hk | hk | hk | hk
        all_goals
          subst hk
          go_enter Tryd.func23, Tryd.ntmps23
          go_wp2_with fail
          refine (HP.out _).mono ?_; rintro e w1 ⟨rfl, hb⟩
          have hb1 := HB0.out.below hb HB0.out.lt
          have HW1 := Lib.hid (HW0.out.trans (hb.mono HW0.out.size))
          clear hb
          obtain ⟨⟨c0, c1, c3, c4, c5, c6, c7, c8, c9, cA, cB⟩, -⟩ := blk11 hb1
          go_wp2_with fail
          refine (HM.out _).mono ?_; rintro e w2 ⟨rfl, hb⟩
          have hb2 := hb1.below hb hb1.lt
          have HW2 := Lib.hid (HW1.out.trans (hb.mono HW1.out.size))
          clear hb1 hb c0 c1 c3 c4 c5 c6 c7 c8 c9 cA cB
          obtain ⟨⟨c0, c1, c3, c4, c5, c6, c7, c8, c9, cA, cB⟩, -⟩ := blk11 hb2
          clear hb2
          go_wp2_with fail
          refine (HC2.out _).mono ?_; rintro e w3 ⟨rfl, hb⟩
          have HW3 := Lib.hid (HW2.out.trans (hb.mono HW2.out.size))
          clear hb c0 c1 c3 c4 c5 c6 c7 c8 c9 cA cB
          go_wp2_with fail
          go_ret
          exact ⟨rfl, HW3.out⟩
    · rw [HX2.out h2]
      have h2b : (e2 == 0) = false := by simpa using h2
      clear HX2 HX3 HC HK h2
      go_enter Tryd.func23, Tryd.ntmps23
      go_wp2_with fail
      refine (HP.out _).mono ?_; rintro e w1 ⟨rfl, hb⟩
      have hb1 := HB0.out.below hb HB0.out.lt
      have HW1 := Lib.hid (HW0.out.trans (hb.mono HW0.out.size))
      clear hb
      obtain ⟨⟨c0, c1, c3, c4, c5, c6, c7, c8, c9, cA, cB⟩, -⟩ := blk11 hb1
      go_wp2_with fail
      refine (HM.out _).mono ?_; rintro e w2 ⟨rfl, hb⟩
      have HW2 := Lib.hid (HW1.out.trans (hb.mono HW1.out.size))
      clear hb1 hb c0 c1 c3 c4 c5 c6 c7 c8 c9 cA cB
      go_wp2_with fail
      go_ret
      exact ⟨rfl, HW2.out⟩
  · rw [HX1.out h1]
    have h1b : (e1 == 0) = false := by simpa using h1
    clear HX1 HX2 HX3 HC HK h1
    go_enter Tryd.func23, Tryd.ntmps23
    go_wp2_with fail
    refine (HP.out _).mono ?_; rintro e w1 ⟨rfl, hb⟩
    have HW1 := Lib.hid (HW0.out.trans (hb.mono HW0.out.size))
    clear hb
    go_wp2_with fail
    go_ret
    exact ⟨rfl, HW1.out⟩
end Go.Proofs.YtdcbmjihpjnbbaaDoor

