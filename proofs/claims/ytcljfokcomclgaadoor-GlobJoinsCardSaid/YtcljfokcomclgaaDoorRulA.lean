/- Drawn rules: creelkeep.Rules. -/
import Derived.Test.YtcljfokcomclgaaDoorPrtA
import Derived.Test.YtcljfokcomclgaaDoorOctA
import Derived.Test.YtcljfokcomclgaaDoorSlc
import Derived.Test.YtcljfokcomclgaaDoorBlk
import Derived.Test.YtcljfokcomclgaaDoorOwb
import Derived.Deep.RegionHeld3
import Derived.Deep.RegionLaw
import Derived.BigQuiet
import Derived.Deep.DeepCutAuto
set_option linter.unusedVariables false
set_option maxRecDepth 100000
namespace Go.Proofs.YtcljfokcomclgaaDoor
open Go.RowKit
open Go.OpenShut
/-- the patterns that are drawn -/
def patsL : List (List UInt8) := [[97], [42, 42], [42], [97, 47, 42, 42], [42, 42, 47, 98], [63], [91, 97, 45, 98, 93], [91, 33, 97, 93, 42], [42, 42, 47, 42, 46, 116, 120, 116], [120, 42], [97, 98, 47, 42], [42, 42, 47, 110, 42]]
/-- a rule: does it take, its pattern -/
abbrev RuleV : Type := Bool × List UInt8
def ruleT (r : RawV) : RuleV := (decide (pick r.kind 2 = 0), patsL.getD (pick r.a 12).toNat [])
theorem ruleT_mem (r : RawV) : (ruleT r).2 ∈ patsL := by
  obtain ⟨h1, h2⟩ := pick_bd r.a 12 (by omega)
  have hl : patsL.length = 12 := rfl
  show patsL.getD (pick r.a 12).toNat [] ∈ patsL
  rw [List.getD_eq_getElem?_getD, List.getElem?_eq_getElem (by omega)]
  exact List.getElem_mem _
def ruleC (q : RuleV) : List Value := [.bool q.1, strV q.2]
def rulesC (qs : List RuleV) : List Value := qs.flatMap ruleC
theorem rulesC_len (qs : List RuleV) : (rulesC qs).length = qs.length * 2 := by
  induction qs with
  | nil => rfl
  | cons x xs ih =>
    rw [show rulesC (x :: xs) = ruleC x ++ rulesC xs from rfl, List.length_append, ih, List.length_cons, show (ruleC x).length = 2 from rfl]; omega
theorem rulesC_app (a b : List RuleV) : rulesC (a ++ b) = rulesC a ++ rulesC b := by simp [rulesC]
theorem rulesC_get (qs : List RuleV) (j : Nat) (hj : j < qs.length) : (rulesC qs)[j * 2]? = some (.bool qs[j].1) ∧ (rulesC qs)[j * 2 + 1]? = some (strV qs[j].2) := by
  induction qs generalizing j with
  | nil => simp at hj
  | cons x xs ih =>
    rw [show rulesC (x :: xs) = .bool x.1 :: strV x.2 :: rulesC xs from rfl]
    cases j with
    | zero => exact ⟨rfl, rfl⟩
    | succ j =>
      obtain ⟨h1, h2⟩ := ih j (by simpa using hj)
      rw [show (j + 1) * 2 = j * 2 + 1 + 1 by omega, show j * 2 + 1 + 1 + 1 = (j * 2 + 1) + 1 + 1 by omega]
      exact ⟨by simpa using h1, by simpa using h2⟩
theorem info_rule : (Tryd.prog.info? 36).map (fun i => (i.zero, i.size, i.bytes)) = some (some (.agg #[.bool false, .string ⟨#[]⟩]), 2, 24) := by kernel_rfl
/-- rules in a row of the call's own -/
def Rls (w : World) (B : Nat) (v : Value) (qs : List RuleV) : Prop := w.ownsRow B 36 2 v qs.length (rulesC qs)
theorem Rls.nil (w : World) (B : Nat) : Rls w B (.slice none 0 0) [] := World.ownsRow_nil _ _ _ _
theorem Rls.below {w w' : World} {B : Nat} {v : Value} {qs : List RuleV} (h : Rls w B v qs) (hb : Below w.heap.size w w') : Rls w' B v qs :=
  own_heap h fun g hg => hb.block g (World.ownsRow.lt h g hg).2
theorem Rls.any {w : World} {B : Nat} {v : Value} {qs : List RuleV} (h : Rls w B v qs) : ∃ A cap, v = .slice A qs.length cap ∧ ∀ j (hj : j < qs.length), ∃ g, A = some ⟨g, 0, none⟩ ∧ w.cell? ⟨g, j * 2, none⟩ = some (.bool qs[j].1) ∧ w.cell? ⟨g, j * 2 + 1, none⟩ = some (strV qs[j].2) := by
  have h' := h
  unfold Rls World.ownsRow at h
  rcases h.2 with ⟨rfl, h0⟩ | ⟨g, cap, cur, rfl, hB, hg, hcap, hm, hs, ht⟩
  · exact ⟨none, 0, by rw [h0], fun j hj => by omega⟩
  · refine ⟨some ⟨g, 0, none⟩, cap, rfl, fun j hj => ⟨g, rfl, ?_, ?_⟩⟩
    · unfold Rls at h'
      rw [h'.cellAt (j * 2) (by omega), (rulesC_get qs j hj).1]
    · unfold Rls at h'
      rw [h'.cellAt (j * 2 + 1) (by omega), (rulesC_get qs j hj).2]
/-- a rule is appended to a row of the call's own -/
theorem append_rule {w : World} {ops : Array Oper} {rest : List Oper} {o : Oper} {a : Act} {Q : Exit → Act → World → Prop} (hgd : o.guard = none) (s x : Operand)
    (ho : o.op = .call { callee := .builtin .append, args := #[s, x], argTypes := #[33, 33] }) (B : Nat) (v : Value) (qs : List RuleV) (hs : a.eval s = v) (hown : Rls w B v qs)
    (g c : Nat) (q : RuleV) (hx : a.eval x = .slice (some ⟨g, 0, none⟩) 1 c) (hc : w.cell? ⟨g, 0, none⟩ = some (.bool q.1) ∧ w.cell? ⟨g, 1, none⟩ = some (strV q.2)) (hbig : qs.length ≤ 1000000) (hB : B ≤ w.heap.size)
    (h : ∀ v' w', Rls w' B v' (qs ++ [q]) → w.grownBy w' v.ownBlock → wpList Tryd.prog ops Q rest (a.put o.dst v') w') : wpList Tryd.prog ops Q (o :: rest) a w := by
  obtain ⟨i0, hi, hz0, hz1, hz2⟩ := info_parts info_rule
  refine wpList_append_own _ hgd s x 33 ho B 36 i0 _ 2 24 Tryd.underlying33 hi hz0 hz1 hz2 rfl (by decide) v _ _ hs hown ⟨g, 0, none⟩ 1 c (ruleC q) hx rfl (fun j u hu => ?_) (fun u hu => ?_) (by unfold maxLen; omega) (by omega) hB ?_
  · rw [Addr.add_lit, Nat.zero_add]
    match j, hu with
    | 0, hu => rw [hc.1]; exact hu
    | 1, hu => rw [hc.2]; exact hu
    | j + 2, hu => simp [ruleC] at hu
  · simp only [ruleC, List.mem_cons, List.not_mem_nil, or_false] at hu
    rcases hu with rfl | rfl <;> rfl
  · intro v6 w6 hown6 hgrow _
    exact h v6 w6 (by unfold Rls; rw [List.length_append, rulesC_app]; simpa [rulesC] using hown6) hgrow
/-- the same at a step of a region that draws its order -/
theorem step_append_rule {w : World} {ops : Array Oper} {o : Oper} {a : Act} {K : Act → World → Prop} {Q : Exit → Act → World → Prop} {E : Prop} (hgd : o.guard = none) (s x : Operand)
    (ho : o.op = .call { callee := .builtin .append, args := #[s, x], argTypes := #[33, 33] }) (B : Nat) (v : Value) (qs : List RuleV) (hs : a.eval s = v) (hown : Rls w B v qs)
    (g c : Nat) (q : RuleV) (hx : a.eval x = .slice (some ⟨g, 0, none⟩) 1 c) (hc : w.cell? ⟨g, 0, none⟩ = some (.bool q.1) ∧ w.cell? ⟨g, 1, none⟩ = some (strV q.2)) (hbig : qs.length ≤ 1000000) (hB : B ≤ w.heap.size)
    (h : ∀ v' w', Rls w' B v' (qs ++ [q]) → w.grownBy w' v.ownBlock → K (a.put o.dst v') w') :
    if Region.wanted o (yielded ops a.tmps) = true then Oper.wp Tryd.prog o a w K Q else E := by
  have hw : Region.wanted o (yielded ops a.tmps) = true := by simp [Region.wanted, hgd]
  rw [if_pos hw]
  obtain ⟨i0, hi, hz0, hz1, hz2⟩ := info_parts info_rule
  obtain ⟨v6, w6, hrun, hown6, hgrow, _, h5⟩ := run_append_own_at (P := Tryd.prog) w B 33 o.type 36 i0 _ 2 24 Tryd.underlying33 hi hz0 hz1 hz2 rfl (by decide) _ _ _ hown ⟨g, 0, none⟩ 1 c (ruleC q) rfl (fun j u hu => by
    rw [Addr.add_lit, Nat.zero_add]
    match j, hu with
    | 0, hu => rw [hc.1]; exact hu
    | 1, hu => rw [hc.2]; exact hu
    | j + 2, hu => simp [ruleC] at hu) (fun u hu => by
    simp only [ruleC, List.mem_cons, List.not_mem_nil, or_false] at hu
    rcases hu with rfl | rfl <;> rfl) (by unfold maxLen; omega) (by omega) hB
  unfold Oper.wp execOp
  simp only [ho, resolve, invoke, builtin, Sem.run_bind, Sem.run_pure, Result.andThen_ok, List.map_toArray, List.map_cons, List.map_nil, hs, hx, hrun]
  exact h v6 w6 (by unfold Rls; rw [List.length_append, rulesC_app]; simpa [rulesC] using hown6) hgrow
theorem Rls.alloc {w : World} {B : Nat} {v : Value} {qs : List RuleV} (h : Rls w B v qs) (o : Obj) : Rls (w.alloc o) B v qs := World.ownsRow.alloc h o
/-- the raw thing's own block, nothing elder turned -/
def RuS (w : World) (gr : Nat) (cs : Array Value) (W : World) : Prop := Blk W gr 62 cs ∧ Below w.heap.size w W
theorem RuS.drew_ {w W : World} {gr : Nat} {cs : Array Value} (h : RuS w gr cs W) : RuS w gr cs W.drew := ⟨h.1.drew_, h.2.drew⟩
theorem RuS.alloc {w W : World} {gr : Nat} {cs : Array Value} (h : RuS w gr cs W) (o : Obj) : RuS w gr cs (W.alloc o) := ⟨h.1.alloc o, h.2.alloc h.2.size o⟩
theorem RuS.grown {w W W' : World} {gr : Nat} {cs : Array Value} {v : Value} {qs : List RuleV} (h : RuS w gr cs W) (ho : Rls W w.heap.size v qs) (hg : W.grownBy W' v.ownBlock) : RuS w gr cs W' := by
  refine ⟨h.1.grown hg ?_, h.2.grown hg h.2.size fun g0 e => (own_block ho g0 e).1⟩
  intro e
  obtain ⟨-, cur, hc⟩ := own_block ho gr e.symm
  have h1 := h.1
  unfold Blk at h1
  rw [hc] at h1
  injection h1 with h1
  injection h1 with _ ht
  exact absurd ht (by decide)
set_option maxHeartbeats 4000000 in
theorem Rules_any (m : Nat) (hm20 : m ≤ 1000) (A : Option Addr) (n c : Nat) (rs : List RawV) (hn : rs.length = n) (hn2 : n ≤ 140737488355328) (hwf : ∀ r ∈ rs, r.wf) (w : World) (hA : RawsAt w A rs) :
    Calls Tryd.prog 16 #[.slice A n c, .int .i64 (m : Nat)] w fun e w' => ∃ v, e = .returned v ∧ Rls w' w.heap.size v ((rs.take m).map ruleT) ∧ Below w.heap.size w w' := by
  have HN := Lib.hid hn
  have HWf := Lib.hid hwf
  obtain ⟨pc, hpc⟩ : ∃ pc : Array Value, pc = (strC patsL).toArray := ⟨_, rfl⟩
  have hpe : pc = #[.string ⟨#[97]⟩, .string ⟨#[42, 42]⟩, .string ⟨#[42]⟩, .string ⟨#[97, 47, 42, 42]⟩, .string ⟨#[42, 42, 47, 98]⟩, .string ⟨#[63]⟩, .string ⟨#[91, 97, 45, 98, 93]⟩, .string ⟨#[91, 33, 97, 93, 42]⟩, .string ⟨#[42, 42, 47, 42, 46, 116, 120, 116]⟩, .string ⟨#[120, 42]⟩, .string ⟨#[97, 98, 47, 42]⟩, .string ⟨#[42, 42, 47, 110, 42]⟩] := by rw [hpc]; rfl
  have HA := Lib.hid (hA.below ((Below.refl w.heap.size w).alloc (Nat.le_refl _) (.cells pc 9)))
  have HPB := Lib.hid (Blk.new w 9 pc)
  have HB0 := Lib.hid (belowA (Below.refl w.heap.size w) (.cells pc 9))
  have HPC := Lib.hid hpc
  have HPE := Lib.hid hpe
  clear hn hwf hA hpc hpe
  go_enter Tryd.func16, Tryd.ntmps16
  go_wp2_with fail
  rw [← HPE.out]
  obtain ⟨gp, hgp⟩ : ∃ gp, gp = w.heap.size := ⟨_, rfl⟩
  rw [← hgp] at HPB ⊢
  generalize w.alloc (.cells pc 9) = w1 at HA HPB HB0 ⊢
  clear hgp HPE
  go_loopw [5, 12] (fun ov i wr => ∃ (k : Nat), i = .int .i64 k ∧ k ≤ n ∧ Hid (Rls wr w1.heap.size ov (((rs.take k).take m).map ruleT)) ∧ Hid (Below w1.heap.size w1 wr)) (fun _ i _ => n - (intOf i).toNat)
  case atStart => exact ⟨0, rfl, Nat.zero_le _, (by unfold Hid; rw [List.take_zero, List.take_nil]; exact Rls.nil _ _), Below.refl _ _⟩
  case round =>
    obtain ⟨k, rfl, hk, HO, HB⟩ := hrel
    obtain ⟨v0, hv0⟩ : ∃ v0, v0 = u5 := ⟨_, rfl⟩
    subst hv0
    by_cases hlt : k < n
    · have hkr : k < rs.length := by rw [HN.out]; exact hlt
      obtain ⟨b, o, rfl, hraw⟩ := HA.out.below HB.out k hkr
      obtain ⟨r, Hr⟩ := hid_name rs[k]
      rw [Hr.out] at hraw
      obtain ⟨e0, e1, e2, e3⟩ := raw_four hraw
      have hrwf := HWf.out r (by rw [← Hr.out]; exact List.getElem_mem _)
      have htk : rs.take (k + 1) = rs.take k ++ [r] := by rw [List.take_succ_eq_append_getElem hkr, Hr.out]
      clear hraw
      by_cases h6 : k < m
      · have hsn : ((rs.take (k + 1)).take m).map ruleT = ((rs.take k).take m).map ruleT ++ [ruleT r] := by
          rw [List.take_take, List.take_take, Nat.min_eq_right (by omega), Nat.min_eq_right (by omega), htk, List.map_append]; rfl
        have hln : (((rs.take k).take m).map ruleT).length = k := by
          rw [List.length_map, List.length_take, List.length_take]; omega
        have HSN := Lib.hid hsn
        have HLn := Lib.hid hln
        obtain ⟨kind, ra, rb, text⟩ := r
        obtain ⟨hkd, hra, hrb, ht⟩ := hrwf
        simp only at hkd hra hrb ht e0 e1 e2 e3
        obtain ⟨q1, q2⟩ := pick_bd ra 12 (by omega)
        obtain ⟨x, hx⟩ : ∃ x : Nat, pick ra 12 = x := ⟨(pick ra 12).toNat, by omega⟩
        have HPa : Hid (∀ W, Calls Tryd.prog 14 #[.int .i64 ra, .int .i64 12] W fun e w' => e = .returned (.int .i64 (x : Int)) ∧ w' = W) := fun W => by
          have := picked_any ra 12 W hra (by omega)
          rw [hx] at this
          exact flip_same this
        have HPk : Hid (∀ W, Calls Tryd.prog 14 #[.int .i64 kind, .int .i64 2] W fun e w' => e = .returned (.int .i64 (pick kind 2)) ∧ w' = W) := fun W => flip_same (picked_any kind 2 W hkd (by omega))
        have hrt : ruleT ⟨kind, ra, rb, text⟩ = ((pick kind 2 == 0), patsL.getD x []) := by
          unfold ruleT
          simp only
          rw [hx, Int.toNat_natCast]; rfl
        obtain ⟨y0, hy0⟩ : ∃ y0, pick kind 2 = y0 := ⟨_, rfl⟩
        rw [hy0] at HPk hrt
        obtain ⟨b0, hb0⟩ : ∃ b0 : Bool, (y0 == 0) = b0 := ⟨_, rfl⟩
        rw [hb0] at hrt
        clear hy0
        have hx12 : x < 12 := by omega
        have hpx : (strC patsL)[x]? = some (strV (patsL.getD x [])) := strC_get _ _ (by show x < 12; omega)
        obtain ⟨P, HP⟩ := hid_name (⟨(patsL.getD x []).toArray⟩ : ByteArray)
        have hpx2 : pc[x]? = some (.string P) := by
          rw [HPC.out, List.getElem?_toArray, hpx]
          unfold strV; rw [HP.out]
        have hgpl : gp < w1.heap.size := HPB.out.lt
        have HBX := Lib.hid (Blk.new wr 62 #[.int .i64 kind, .int .i64 ra, .int .i64 rb, .string text])
        have HO1 := Lib.hid (HO.out.below ((Below.refl wr.heap.size wr).alloc (Nat.le_refl _) (.cells #[.int .i64 kind, .int .i64 ra, .int .i64 rb, .string text] 62)))
        have HB1 := Lib.hid (HB.out.alloc HB.out.size (.cells #[.int .i64 kind, .int .i64 ra, .int .i64 rb, .string text] 62))
        have HRt := Lib.hid hrt
        have h12 : (x : Int) < 12 := by omega
        have h10 : (0 : Int) ≤ (x : Int) := by omega
        clear hkd hra hrb ht q1 q2 hx hrt hpx hsn hln htk
        go_upto_region 7 with fail
        obtain ⟨gr, Hgr⟩ := hid_name wr.heap.size
        obtain ⟨wr1, Hw1⟩ := hid_name (wr.alloc (.cells #[.int .i64 kind, .int .i64 ra, .int .i64 rb, .string text] 62))
        rw [Hgr.out, Hw1.out] at HBX
        rw [Hw1.out] at HO1 HB1
        rw [Hgr.out, Hw1.out]
        clear e0 e1 e2 e3
        have hS0 : RuS w1 gr #[.int .i64 kind, .int .i64 ra, .int .i64 rb, .string text] wr1 := ⟨HBX.out, HB1.out⟩
        have r0 : ∀ W : World, RuS w1 gr #[.int .i64 kind, .int .i64 ra, .int .i64 rb, .string text] W → W.cell? ⟨gr, 0, none⟩ = some (.int .i64 kind) := fun W h => (blk4 h.1).1
        have r1 : ∀ W : World, RuS w1 gr #[.int .i64 kind, .int .i64 ra, .int .i64 rb, .string text] W → W.cell? ⟨gr, 1, none⟩ = some (.int .i64 ra) := fun W h => (blk4 h.1).2.1
        have r2 : ∀ W : World, RuS w1 gr #[.int .i64 kind, .int .i64 ra, .int .i64 rb, .string text] W → W.cell? ⟨gp, x, none⟩ = some (.string P) := fun W h => by rw [(HPB.out.below h.2 hgpl).cell, hpx2]
        have hS1 : RuS w1 gr #[.int .i64 kind, .int .i64 ra, .int .i64 rb, .string text] (wr1.alloc (.cells #[.bool b0, .string P] 36)).drew := RuS.drew_ (hS0.alloc _)
        have hOV : Rls (wr1.alloc (.cells #[.bool b0, .string P] 36)).drew w1.heap.size v0 (((rs.take k).take m).map ruleT) := Rls.alloc (w := wr1) HO1.out _
        have hsV : w1.heap.size ≤ (wr1.alloc (.cells #[.bool b0, .string P] 36)).drew.heap.size := hS1.2.size
        have hcl : (wr1.alloc (.cells #[.bool b0, .string P] 36)).drew.cell? ⟨wr1.heap.size, 0, none⟩ = some (.bool b0) ∧ (wr1.alloc (.cells #[.bool b0, .string P] 36)).drew.cell? ⟨wr1.heap.size, 1, none⟩ = some (strV (patsL.getD x [])) := by
          have hbk := Blk.new wr1 36 #[.bool b0, .string P]
          refine ⟨hbk.cell 0, ?_⟩
          unfold strV
          rw [HP.out]; exact hbk.cell 1
        have hbig : (((rs.take k).take m).map ruleT).length ≤ 1000000 := by rw [HLn.out]; omega
        clear hpx2
        go_region_held3 (fun W => RuS w1 gr #[.int .i64 kind, .int .i64 ra, .int .i64 rb, .string text] W)
          (first
            | (with_reducible assumption)
            | (with_reducible refine RuS.drew_ ?_; with_reducible assumption)
            | (with_reducible refine RuS.alloc ?_ _; with_reducible assumption)
            | (with_reducible exact hS1))
          (first
            | (refine step_append_rule rfl (.tmp 20) (.tmp 34) rfl w1.heap.size v0 _ rfl hOV wr1.heap.size 1 (b0, patsL.getD x []) rfl hcl hbig hsV ?_;
               intro v6 w6 hown1 hgrow1; have hS6 := RuS.grown hS1 hOV hgrow1)
            | (go_at_call 14; with_reducible refine (HPk.out _).mono ?_; rintro e w' ⟨rfl, rfl⟩)
            | (go_at_call 14; with_reducible refine (HPa.out _).mono ?_; rintro e w' ⟨rfl, rfl⟩))
        have HO6 : Hid (Rls w6 w1.heap.size v6 (((rs.take (k + 1)).take m).map ruleT)) := by
          unfold Hid
          rw [HSN.out, HRt.out]; exact hown1
        have HB6 := Lib.hid hS6.2
        clear hown1 hgrow1 hS6 hS1 hOV hsV hcl hbig r0 r1 r2 hS0
        go_wp2_with fail
        go_roundw
        case rel => exact ⟨k + 1, by go_num, by omega, HO6.out, HB6.out⟩
        case measure => simp [intOf]; omega
      · have hsn : ((rs.take (k + 1)).take m).map ruleT = ((rs.take k).take m).map ruleT := by
          rw [List.take_take, List.take_take, Nat.min_eq_left (by omega), Nat.min_eq_left (by omega)]
        have HO1 : Hid (Rls (wr.alloc (.cells (rawC r).toArray 62)) w1.heap.size v0 (((rs.take (k + 1)).take m).map ruleT)) := by
          unfold Hid; rw [hsn]; exact HO.out.below ((Below.refl wr.heap.size wr).alloc (Nat.le_refl _) _)
        have HB1 := Lib.hid (HB.out.alloc HB.out.size (.cells (rawC r).toArray 62))
        unfold rawC at HO1 HB1
        clear hrwf hsn htk
        go_wp2_with fail
        go_roundw
        case rel => exact ⟨k + 1, by go_num, by omega, HO1.out, HB1.out⟩
        case measure => simp [intOf]; omega
    · obtain rfl : k = n := by omega
      have hX : rs.take k = rs := List.take_of_length_le (by rw [HN.out]; omega)
      rw [hX] at HO
      clear hX
      have HOw := Lib.hid (own_mono HO.out HB0.out.size)
      go_wp2_with fail
      go_ret
      exact ⟨v0, rfl, HOw.out, HB0.out.trans (HB.out.mono HB0.out.size)⟩
end Go.Proofs.YtcljfokcomclgaaDoor
