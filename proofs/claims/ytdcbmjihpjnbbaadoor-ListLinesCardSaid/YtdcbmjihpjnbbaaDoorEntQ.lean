/- Contracts of package plan: what is wrong with a list of members. -/
import Derived.Test.YtdcbmjihpjnbbaaDoorEntJ
import Derived.Test.YtdcbmjihpjnbbaaDoorEntG
import Derived.Deep.RegionHeld3
import Derived.Deep.DeepCutAuto
import Derived.Deep.QuietTactic
import Derived.BigQuiet
set_option linter.unusedVariables false
set_option maxRecDepth 100000
namespace Go.Proofs.YtdcbmjihpjnbbaaDoor
open Go.RowKit
open Go.OpenShut
def aheadE (t : List EntV) (x : EntV) : Int := if upE t x.path = false then 10 else if aimE t x = false then 11 else 0
theorem ent_field1 (v0 v1 v2 v3 v4 v5 v6 v7 v8 v9 vA : Value) (h : v1.oneCell' = true) (W : World) : (Instr.field 30 (.agg #[v0, v1, v2, v3, v4, v5, v6, v7, v8, v9, vA]) 1).run Tryd.prog W = .ok v1 W := by
  cases v1 <;> first | (cases h; done) | kernel_rfl
set_option maxHeartbeats 4000000 in
theorem pAhead_any (r : Nat) (t : List EntV) (x : EntV) (hx : x.sz) (D : Option Addr) (c : Nat) (w : World) (hM : MetE w r t) :
    Calls Tryd.prog 55 #[.map (some r), .agg (entC x D c).toArray] w fun e w' => e = .returned (.int .i64 (aheadE t x)) ∧ Below w.heap.size w w' := by
  have HU := Lib.hid fun W => Up_any (bs x.path) W (by rw [bs_size]; have := hx.1.1; omega)
  rw [bs_list] at HU
  have HV : Hid (aheadE t x = if (decide (upL x.path = []) || decide ((gotE t (upL x.path)).kind = 2)) = false then 10 else if (decide (x.kind ≠ 4) || (decide ((gotE t x.target).kind = 1) && decide ((gotE t x.target).md = x.md))) = false then 11 else 0) := by
    unfold Hid aheadE
    rw [upE_got, aimE_got]
  rw [HV.out]
  have HL := Lib.hid fun W (h : Below w.heap.size w W) (s : List UInt8) => (hM.below h).look s
  clear HV hM hx
  generalize hup : upL x.path = up at HU ⊢
  clear hup
  obtain ⟨U, hU⟩ : ∃ U : ByteArray, U = bs up := ⟨_, rfl⟩
  have hU2 : (⟨up.toArray⟩ : ByteArray) = U := hU.symm
  rw [hU2] at HU
  have hul : U.data.toList = up := by rw [hU]; rfl
  have HLU := Lib.hid fun W h => HL.out W h up
  rw [← hU] at HLU
  clear hU hU2
  generalize gotE t up = yu at HLU ⊢
  have HLT := Lib.hid fun W h => HL.out W h x.target
  generalize gotE t x.target = yt at HLT ⊢
  have hq := meta_neq yt.md x.md
  have hmb : decide (yt.md = x.md) = metB yt.md x.md := rfl
  rw [hmb]
  clear HL hmb
  generalize metB yt.md x.md = mb at hq ⊢
  unfold entC at HLU HLT ⊢
  unfold metA at hq
  (try simp only at hq)
  obtain ⟨P, hP⟩ := hid_name (bs x.path)
  rw [hP.out] at HU ⊢
  generalize hT : bs x.target = T at HLT ⊢
  generalize x.kind = kind
  generalize x.data.length = L
  obtain ⟨ku, hku⟩ : ∃ k, k = yu.kind := ⟨_, rfl⟩
  obtain ⟨kt, hkt⟩ : ∃ k, k = yt.kind := ⟨_, rfl⟩
  rw [← hku] at HLU ⊢
  rw [← hkt] at HLT ⊢
  have hb0 := Blk.new w 30 #[.string P, .int .i64 kind, .string T, .int .i64 x.md.mode, .int .i64 x.md.uid, .int .i64 x.md.gid, .string (bs x.md.user), .string (bs x.md.group), .int .i64 x.md.second, .int .i64 x.md.nano, .slice D L c]
  have hw0 : Below w.heap.size w (w.alloc (.cells #[.string P, .int .i64 kind, .string T, .int .i64 x.md.mode, .int .i64 x.md.uid, .int .i64 x.md.gid, .string (bs x.md.user), .string (bs x.md.group), .int .i64 x.md.second, .int .i64 x.md.nano, .slice D L c] 30)) := (Below.refl _ _).alloc (Nat.le_refl _) _
  have HB0 := Lib.hid hb0
  have HW0 := Lib.hid hw0
  clear hT hku hkt hb0 hw0
  by_cases hu0 : up = []
  · rw [decide_eq_true hu0, Bool.true_or, if_neg (by decide)]
    have f0 : U.toList = [] := by rw [ByteArray.toList_eq, hul]; exact hu0
    have f1 : (U.toList == []) = true := by rw [f0]; rfl
    have f2 : (U.toList != []) = false := by rw [f0]; rfl
    clear HLU hu0 hul
    by_cases k4 : kind = 4
    · subst k4
      rw [decide_eq_false (by decide), Bool.false_or]
      by_cases k1 : kt = 1
      · subst k1
        rw [decide_eq_true rfl, Bool.true_and]
        cases mb
        · rw [if_pos rfl]
          go_enter Tryd.func55, Tryd.ntmps55
          go_wp2_with fail
          refine (HU.out _).mono ?_; rintro e w1 ⟨rfl, hb⟩
          have hb1 := HB0.out.below hb HB0.out.lt
          have HW1 := Lib.hid (HW0.out.trans (hb.mono HW0.out.size))
          obtain ⟨D1, c1', hl⟩ := HLT.out _ HW1.out
          clear hb
          obtain ⟨⟨c0, c1, c3, c4, c5, c6, c7, c8, c9, cA, cB⟩, -⟩ := blk11 hb1
          go_upto_region 7 with fail
          have hb2 := Blk.new w1 30 #[.string (bs yt.path), .int .i64 1, .string (bs yt.target), .int .i64 yt.md.mode, .int .i64 yt.md.uid, .int .i64 yt.md.gid, .string (bs yt.md.user), .string (bs yt.md.group), .int .i64 yt.md.second, .int .i64 yt.md.nano, .slice D1 yt.data.length c1']
          have hb3 := hb1.alloc (.cells #[.string (bs yt.path), .int .i64 1, .string (bs yt.target), .int .i64 yt.md.mode, .int .i64 yt.md.uid, .int .i64 yt.md.gid, .string (bs yt.md.user), .string (bs yt.md.group), .int .i64 yt.md.second, .int .i64 yt.md.nano, .slice D1 yt.data.length c1'] 30)
          have HW2 := Lib.hid (belowA HW1.out (.cells #[.string (bs yt.path), .int .i64 1, .string (bs yt.target), .int .i64 yt.md.mode, .int .i64 yt.md.uid, .int .i64 yt.md.gid, .string (bs yt.md.user), .string (bs yt.md.group), .int .i64 yt.md.second, .int .i64 yt.md.nano, .slice D1 yt.data.length c1'] 30))
          generalize hwa : w1.alloc _ = wa at hb2 hb3 HW2 ⊢
          clear hwa hl c0 c1 c3 c4 c5 c6 c7 c8 c9 cA cB
          obtain ⟨⟨c0, c1, c3, c4, c5, c6, c7, c8, c9, cA, cB⟩, -⟩ := blk11 hb3
          obtain ⟨⟨d0, d1, d3, d4, d5, d6, d7, d8, d9, dA, dB⟩, -⟩ := blk11 hb2
          clear hb2 hb3 hb1
          go_wp2_with fail
          go_ret
          exact ⟨rfl, by first | exact HW2.out | exact HW1.out | exact belowA HW1.out _⟩
        · rw [if_neg (by decide)]
          go_enter Tryd.func55, Tryd.ntmps55
          go_wp2_with fail
          refine (HU.out _).mono ?_; rintro e w1 ⟨rfl, hb⟩
          have hb1 := HB0.out.below hb HB0.out.lt
          have HW1 := Lib.hid (HW0.out.trans (hb.mono HW0.out.size))
          obtain ⟨D1, c1', hl⟩ := HLT.out _ HW1.out
          clear hb
          obtain ⟨⟨c0, c1, c3, c4, c5, c6, c7, c8, c9, cA, cB⟩, -⟩ := blk11 hb1
          go_upto_region 7 with fail
          have hb2 := Blk.new w1 30 #[.string (bs yt.path), .int .i64 1, .string (bs yt.target), .int .i64 yt.md.mode, .int .i64 yt.md.uid, .int .i64 yt.md.gid, .string (bs yt.md.user), .string (bs yt.md.group), .int .i64 yt.md.second, .int .i64 yt.md.nano, .slice D1 yt.data.length c1']
          have hb3 := hb1.alloc (.cells #[.string (bs yt.path), .int .i64 1, .string (bs yt.target), .int .i64 yt.md.mode, .int .i64 yt.md.uid, .int .i64 yt.md.gid, .string (bs yt.md.user), .string (bs yt.md.group), .int .i64 yt.md.second, .int .i64 yt.md.nano, .slice D1 yt.data.length c1'] 30)
          have HW2 := Lib.hid (belowA HW1.out (.cells #[.string (bs yt.path), .int .i64 1, .string (bs yt.target), .int .i64 yt.md.mode, .int .i64 yt.md.uid, .int .i64 yt.md.gid, .string (bs yt.md.user), .string (bs yt.md.group), .int .i64 yt.md.second, .int .i64 yt.md.nano, .slice D1 yt.data.length c1'] 30))
          generalize hwa : w1.alloc _ = wa at hb2 hb3 HW2 ⊢
          clear hwa hl c0 c1 c3 c4 c5 c6 c7 c8 c9 cA cB
          obtain ⟨⟨c0, c1, c3, c4, c5, c6, c7, c8, c9, cA, cB⟩, -⟩ := blk11 hb3
          obtain ⟨⟨d0, d1, d3, d4, d5, d6, d7, d8, d9, dA, dB⟩, -⟩ := blk11 hb2
          clear hb2 hb3 hb1
          go_wp2_with fail
          go_ret
          exact ⟨rfl, by first | exact HW2.out | exact HW1.out | exact belowA HW1.out _⟩
      · rw [decide_eq_false k1, Bool.false_and, if_pos rfl]
        have k1b : (kt != 1) = true := by simpa using k1
        have k1c : (kt == 1) = false := by simpa using k1
        clear hq k1
        go_enter Tryd.func55, Tryd.ntmps55
        go_wp2_with fail
        refine (HU.out _).mono ?_; rintro e w1 ⟨rfl, hb⟩
        have hb1 := HB0.out.below hb HB0.out.lt
        have HW1 := Lib.hid (HW0.out.trans (hb.mono HW0.out.size))
        obtain ⟨D1, c1', hl⟩ := HLT.out _ HW1.out
        clear hb
        obtain ⟨⟨c0, c1, c3, c4, c5, c6, c7, c8, c9, cA, cB⟩, -⟩ := blk11 hb1
        go_wp2_with fail
        go_ret
        exact ⟨rfl, by first | exact HW2.out | exact HW1.out | exact belowA HW1.out _⟩
    · rw [decide_eq_true k4, Bool.true_or, if_neg (by decide)]
      have k4b : (kind != 4) = true := by simpa using k4
      have k4c : (kind == 4) = false := by simpa using k4
      clear hq k4 HLT
      go_enter Tryd.func55, Tryd.ntmps55
      go_wp2_with fail
      refine (HU.out _).mono ?_; rintro e w1 ⟨rfl, hb⟩
      have hb1 := HB0.out.below hb HB0.out.lt
      have HW1 := Lib.hid (HW0.out.trans (hb.mono HW0.out.size))
      clear hb
      obtain ⟨⟨c0, c1, c3, c4, c5, c6, c7, c8, c9, cA, cB⟩, -⟩ := blk11 hb1
      go_wp2_with fail
      go_ret
      exact ⟨rfl, HW1.out⟩
  · rw [decide_eq_false hu0, Bool.false_or]
    have f0 : ¬ U.toList = [] := fun e => hu0 (by rw [← hul, ← ByteArray.toList_eq]; exact e)
    have f1 : (U.toList == []) = false := by simpa using f0
    have f2 : (U.toList != []) = true := by simpa using f0
    have f3 : decide (U.toList = []) = false := by simpa using f0
    clear hu0 hul
    by_cases k2 : ku = 2
    · subst k2
      rw [decide_eq_true rfl, if_neg (by decide)]
      by_cases k4 : kind = 4
      · subst k4
        rw [decide_eq_false (by decide), Bool.false_or]
        by_cases k1 : kt = 1
        · subst k1
          rw [decide_eq_true rfl, Bool.true_and]
          cases mb
          · rw [if_pos rfl]
            go_enter Tryd.func55, Tryd.ntmps55
            go_wp2_with fail
            refine (HU.out _).mono ?_; rintro e w1 ⟨rfl, hb⟩
            have hb1 := HB0.out.below hb HB0.out.lt
            have HW1 := Lib.hid (HW0.out.trans (hb.mono HW0.out.size))
            obtain ⟨D1, c1', hl⟩ := HLT.out _ HW1.out
            obtain ⟨D2, c2', hl2⟩ := HLU.out _ HW1.out
            have hfd := ent_field1 (.string (bs yu.path)) (.int .i64 2) (.string (bs yu.target)) (.int .i64 yu.md.mode) (.int .i64 yu.md.uid) (.int .i64 yu.md.gid) (.string (bs yu.md.user)) (.string (bs yu.md.group)) (.int .i64 yu.md.second) (.int .i64 yu.md.nano) (.slice D2 yu.data.length c2') rfl
            clear hb
            obtain ⟨⟨c0, c1, c3, c4, c5, c6, c7, c8, c9, cA, cB⟩, -⟩ := blk11 hb1
            go_upto_region 7 with fail
            have hb2 := Blk.new w1 30 #[.string (bs yt.path), .int .i64 1, .string (bs yt.target), .int .i64 yt.md.mode, .int .i64 yt.md.uid, .int .i64 yt.md.gid, .string (bs yt.md.user), .string (bs yt.md.group), .int .i64 yt.md.second, .int .i64 yt.md.nano, .slice D1 yt.data.length c1']
            have hb3 := hb1.alloc (.cells #[.string (bs yt.path), .int .i64 1, .string (bs yt.target), .int .i64 yt.md.mode, .int .i64 yt.md.uid, .int .i64 yt.md.gid, .string (bs yt.md.user), .string (bs yt.md.group), .int .i64 yt.md.second, .int .i64 yt.md.nano, .slice D1 yt.data.length c1'] 30)
            have HW2 := Lib.hid (belowA HW1.out (.cells #[.string (bs yt.path), .int .i64 1, .string (bs yt.target), .int .i64 yt.md.mode, .int .i64 yt.md.uid, .int .i64 yt.md.gid, .string (bs yt.md.user), .string (bs yt.md.group), .int .i64 yt.md.second, .int .i64 yt.md.nano, .slice D1 yt.data.length c1'] 30))
            generalize hwa : w1.alloc _ = wa at hb2 hb3 HW2 ⊢
            clear hwa hl c0 c1 c3 c4 c5 c6 c7 c8 c9 cA cB
            obtain ⟨⟨c0, c1, c3, c4, c5, c6, c7, c8, c9, cA, cB⟩, -⟩ := blk11 hb3
            obtain ⟨⟨d0, d1, d3, d4, d5, d6, d7, d8, d9, dA, dB⟩, -⟩ := blk11 hb2
            clear hb2 hb3 hb1
            go_wp2_with fail
            go_ret
            exact ⟨rfl, by first | exact HW2.out | exact HW1.out | exact belowA HW1.out _⟩
          · rw [if_neg (by decide)]
            go_enter Tryd.func55, Tryd.ntmps55
            go_wp2_with fail
            refine (HU.out _).mono ?_; rintro e w1 ⟨rfl, hb⟩
            have hb1 := HB0.out.below hb HB0.out.lt
            have HW1 := Lib.hid (HW0.out.trans (hb.mono HW0.out.size))
            obtain ⟨D1, c1', hl⟩ := HLT.out _ HW1.out
            obtain ⟨D2, c2', hl2⟩ := HLU.out _ HW1.out
            have hfd := ent_field1 (.string (bs yu.path)) (.int .i64 2) (.string (bs yu.target)) (.int .i64 yu.md.mode) (.int .i64 yu.md.uid) (.int .i64 yu.md.gid) (.string (bs yu.md.user)) (.string (bs yu.md.group)) (.int .i64 yu.md.second) (.int .i64 yu.md.nano) (.slice D2 yu.data.length c2') rfl
            clear hb
            obtain ⟨⟨c0, c1, c3, c4, c5, c6, c7, c8, c9, cA, cB⟩, -⟩ := blk11 hb1
            go_upto_region 7 with fail
            have hb2 := Blk.new w1 30 #[.string (bs yt.path), .int .i64 1, .string (bs yt.target), .int .i64 yt.md.mode, .int .i64 yt.md.uid, .int .i64 yt.md.gid, .string (bs yt.md.user), .string (bs yt.md.group), .int .i64 yt.md.second, .int .i64 yt.md.nano, .slice D1 yt.data.length c1']
            have hb3 := hb1.alloc (.cells #[.string (bs yt.path), .int .i64 1, .string (bs yt.target), .int .i64 yt.md.mode, .int .i64 yt.md.uid, .int .i64 yt.md.gid, .string (bs yt.md.user), .string (bs yt.md.group), .int .i64 yt.md.second, .int .i64 yt.md.nano, .slice D1 yt.data.length c1'] 30)
            have HW2 := Lib.hid (belowA HW1.out (.cells #[.string (bs yt.path), .int .i64 1, .string (bs yt.target), .int .i64 yt.md.mode, .int .i64 yt.md.uid, .int .i64 yt.md.gid, .string (bs yt.md.user), .string (bs yt.md.group), .int .i64 yt.md.second, .int .i64 yt.md.nano, .slice D1 yt.data.length c1'] 30))
            generalize hwa : w1.alloc _ = wa at hb2 hb3 HW2 ⊢
            clear hwa hl c0 c1 c3 c4 c5 c6 c7 c8 c9 cA cB
            obtain ⟨⟨c0, c1, c3, c4, c5, c6, c7, c8, c9, cA, cB⟩, -⟩ := blk11 hb3
            obtain ⟨⟨d0, d1, d3, d4, d5, d6, d7, d8, d9, dA, dB⟩, -⟩ := blk11 hb2
            clear hb2 hb3 hb1
            go_wp2_with fail
            go_ret
            exact ⟨rfl, by first | exact HW2.out | exact HW1.out | exact belowA HW1.out _⟩
        · rw [decide_eq_false k1, Bool.false_and, if_pos rfl]
          have k1b : (kt != 1) = true := by simpa using k1
          have k1c : (kt == 1) = false := by simpa using k1
          clear hq k1
          go_enter Tryd.func55, Tryd.ntmps55
          go_wp2_with fail
          refine (HU.out _).mono ?_; rintro e w1 ⟨rfl, hb⟩
          have hb1 := HB0.out.below hb HB0.out.lt
          have HW1 := Lib.hid (HW0.out.trans (hb.mono HW0.out.size))
          obtain ⟨D1, c1', hl⟩ := HLT.out _ HW1.out
          obtain ⟨D2, c2', hl2⟩ := HLU.out _ HW1.out
          have hfd := ent_field1 (.string (bs yu.path)) (.int .i64 2) (.string (bs yu.target)) (.int .i64 yu.md.mode) (.int .i64 yu.md.uid) (.int .i64 yu.md.gid) (.string (bs yu.md.user)) (.string (bs yu.md.group)) (.int .i64 yu.md.second) (.int .i64 yu.md.nano) (.slice D2 yu.data.length c2') rfl
          clear hb
          obtain ⟨⟨c0, c1, c3, c4, c5, c6, c7, c8, c9, cA, cB⟩, -⟩ := blk11 hb1
          go_wp2_with fail
          go_ret
          exact ⟨rfl, by first | exact HW2.out | exact HW1.out | exact belowA HW1.out _⟩
      · rw [decide_eq_true k4, Bool.true_or, if_neg (by decide)]
        have k4b : (kind != 4) = true := by simpa using k4
        have k4c : (kind == 4) = false := by simpa using k4
        clear hq k4 HLT
        go_enter Tryd.func55, Tryd.ntmps55
        go_wp2_with fail
        refine (HU.out _).mono ?_; rintro e w1 ⟨rfl, hb⟩
        have hb1 := HB0.out.below hb HB0.out.lt
        have HW1 := Lib.hid (HW0.out.trans (hb.mono HW0.out.size))
        obtain ⟨D2, c2', hl2⟩ := HLU.out _ HW1.out
        have hfd := ent_field1 (.string (bs yu.path)) (.int .i64 2) (.string (bs yu.target)) (.int .i64 yu.md.mode) (.int .i64 yu.md.uid) (.int .i64 yu.md.gid) (.string (bs yu.md.user)) (.string (bs yu.md.group)) (.int .i64 yu.md.second) (.int .i64 yu.md.nano) (.slice D2 yu.data.length c2') rfl
        clear hb
        obtain ⟨⟨c0, c1, c3, c4, c5, c6, c7, c8, c9, cA, cB⟩, -⟩ := blk11 hb1
        go_wp2_with fail
        go_ret
        exact ⟨rfl, HW1.out⟩
    · rw [decide_eq_false k2, if_pos rfl]
      have k2b : (ku != 2) = true := by simpa using k2
      have k2c : (ku == 2) = false := by simpa using k2
      clear hq k2 HLT
      go_enter Tryd.func55, Tryd.ntmps55
      go_wp2_with fail
      refine (HU.out _).mono ?_; rintro e w1 ⟨rfl, hb⟩
      have hb1 := HB0.out.below hb HB0.out.lt
      have HW1 := Lib.hid (HW0.out.trans (hb.mono HW0.out.size))
      obtain ⟨D2, c2', hl2⟩ := HLU.out _ HW1.out
      have hfd := ent_field1 (.string (bs yu.path)) (.int .i64 ku) (.string (bs yu.target)) (.int .i64 yu.md.mode) (.int .i64 yu.md.uid) (.int .i64 yu.md.gid) (.string (bs yu.md.user)) (.string (bs yu.md.group)) (.int .i64 yu.md.second) (.int .i64 yu.md.nano) (.slice D2 yu.data.length c2') rfl
      clear hb
      obtain ⟨⟨c0, c1, c3, c4, c5, c6, c7, c8, c9, cA, cB⟩, -⟩ := blk11 hb1
      go_wp2_with fail
      go_ret
      exact ⟨rfl, HW1.out⟩
end Go.Proofs.YtdcbmjihpjnbbaaDoor
