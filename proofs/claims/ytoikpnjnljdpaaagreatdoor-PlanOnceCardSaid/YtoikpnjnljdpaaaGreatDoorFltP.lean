/- Contracts of package filter: Check; slices.Backward at rules, and the range over it in isTaken; Takes. -/
import Derived.Test.YtoikpnjnljdpaaaGreatDoorFlb
import Derived.Test.YtoikpnjnljdpaaaGreatDoorGlf
import Derived.RangeFuncNested
import Derived.RangeFuncBound
import Derived.RangeFuncCalls
import Derived.RangeFuncLeaves
import Derived.RangeFuncFrom
import Derived.Shelf.Abstract
import Derived.Shelf.RegionOpen
import Derived.WalkKit
import Derived.OwnWalkIn
import Derived.TacticsInMore
import Derived.LoopNIn
import Derived.LoopIn
set_option linter.unusedVariables false
set_option maxRecDepth 100000
namespace Go.Proofs.YtoikpnjnljdpaaaGreatDoor
open Go.RowKit
open Go.OpenShut
set_option maxHeartbeats 2000000 in
theorem fCheck_any (A : Option Addr) (n c : Nat) (qs : List RuleV) (hn : qs.length = n) (hn2 : n ≤ 140737488355328) (hok : okR qs) (w : World) (hA : RulesAt w A qs) :
    Calls Tryz.prog 39 #[.slice A n c] w fun e w' => e = .returned (.int .i64 (rulesE qs)) ∧ Below w.heap.size w w' := by
  by_cases h12 : 12 < n
  · rw [show rulesE qs = 1 from if_pos (by rw [hn]; exact h12)]
    have h12' : (12 : Int) < (n : Int) := by omega
    clear hn hA hok
    go_enter Tryz.func39, Tryz.ntmps39
    go_wp2_with fail
    go_ret
    exact ⟨rfl, Below.refl _ _⟩
  · rw [show rulesE qs = rulesP qs from if_neg (by rw [hn]; exact h12)]
    have h12' : ¬ (12 : Int) < (n : Int) := by omega
    have HN := Lib.hid hn
    have HA := Lib.hid hA
    have HOk := Lib.hid hok
    clear hn hA hok
    go_enter Tryz.func39, Tryz.ntmps39
    go_wp2_with fail
    go_loopw [11] (fun iv wr => ∃ k : Nat, k ≤ n ∧ iv = .int .i64 k ∧ Hid (rulesP qs = rulesP (qs.drop k)) ∧ Hid (Below w.heap.size w wr)) (fun iv _ => n - (intOf iv).toNat)
    case atStart => exact ⟨0, Nat.zero_le _, rfl, rfl, Below.refl _ _⟩
    case round =>
      obtain ⟨k, hk, rfl, HE, HB⟩ := hrel
      by_cases hlt : k < n
      · have hkq : k < qs.length := by rw [HN.out]; exact hlt
        obtain ⟨r, Hr⟩ := hid_name qs[k]
        obtain ⟨P, HP⟩ := hid_name (⟨r.2.toArray⟩ : ByteArray)
        obtain ⟨b, o, rfl, hc1, hc2⟩ := rule_cells (HA.out.below HB.out) hkq Hr.out HP.out
        have hE := HE.out
        rw [List.drop_eq_getElem_cons hkq, Hr.out, rulesP_cons] at hE
        have hPl : P.data.toList = r.2 := by rw [← HP.out]
        have hsz : P.size ≤ maxLen := by
          have h1 := HOk.out r (by rw [← Hr.out]; exact List.getElem_mem _)
          have h2 : P.data.toList.length = P.size := by simp
          rw [hPl] at h2
          unfold maxLen; omega
        have hgf := fun W => gCheck_any P W hsz
        rw [hPl] at hgf
        have HG := Lib.hid hgf
        have HB1 := Lib.hid (belowA HB.out (.cells #[.bool r.1, .string P] 39))
        have HBk := Lib.hid (Blk.new wr 39 #[.bool r.1, .string P])
        clear hPl hsz hgf
        go_upto_region 6 with fail
        clear hc1 hc2
        have d1 : (wr.alloc (.cells #[.bool r.1, .string P] 39)).cell? ⟨wr.heap.size, 1, none⟩ = some (.string P) := HBk.out.cell 1
        by_cases h0 : globE r.2 = 0
        · rw [if_pos h0] at hE
          rw [h0] at HG
          have HE1 := Lib.hid hE
          clear hE h0
          go_wp2_with fail
          refine (HG.out _).mono ?_; rintro e w2 ⟨rfl, hb⟩
          have HB2 := Lib.hid (HB1.out.trans (hb.mono HB1.out.size))
          clear hb d1
          go_wp2_with fail
          go_roundw
          case rel => exact ⟨k + 1, by omega, by go_num, HE1.out, HB2.out⟩
          case measure => simp [intOf]; omega
        · rw [if_neg h0] at hE
          obtain ⟨E, HEE⟩ := hid_name (globE r.2)
          rw [HEE.out] at hE h0 HG
          have hne : (E == 0) = false := by simpa using h0
          have HE1 := Lib.hid hE
          clear hE h0
          go_wp2_with fail
          refine (HG.out _).mono ?_; rintro e w2 ⟨rfl, hb⟩
          have HB2 := Lib.hid (HB1.out.trans (hb.mono HB1.out.size))
          clear hb d1
          go_wp2_with fail
          go_ret
          exact ⟨ret_int HE1.out.symm, HB2.out⟩
      · obtain rfl : k = n := by omega
        have HR : Hid (rulesP qs = 0) := by
          have := HE.out
          rwa [List.drop_eq_nil_of_le (by rw [HN.out]; exact Nat.le_refl _)] at this
        go_wp2_with fail
        go_ret
        exact ⟨ret_int HR.out.symm, HB.out⟩
/-- what a round is handed: the index, the rule -/
abbrev AlR : Type := { x : Nat × RuleV // x.2.2.length ≤ 140737488351232 }
def encR (x : AlR) : Array Value := #[.int .i64 (x.1.1 : Int), .agg #[.bool x.1.2.1, strV x.1.2.2]]
section
attribute [local go_sem] Oper.semAt_some
set_option maxHeartbeats 2000000 in
/-- slices.Backward's closure, for every body that keeps what lay below n₀ -/
theorem back1_in (l Bs n₀ m : Nat) (hm : 1 ≤ m) (A : Option Addr) (n c : Nat) (qs : List RuleV) (hn : qs.length = n) (hn2 : n ≤ 140737488355328) (f : Nat → AlR) (hf : ∀ j (h : j < qs.length), (f j).1 = (j, qs[j])) (J Jx : List AlR → World → Prop)
    (hY : ∀ pre x W, J pre W → pre.length < n → YieldAt Fence.wide (m - 1) Tryz.prog l (encR x) W fun e W' =>
      (e = .returned (.bool true) ∧ J (pre ++ [x]) W' ∧ Below n₀ W W') ∨ (e = .returned (.bool false) ∧ Jx (pre ++ [x]) W'))
    (W : World) (hBs : W.cell? ⟨Bs, 0, none⟩ = some (.slice A n c)) (hB0 : Bs < n₀) (hA : ∀ W', Below n₀ W W' → RulesAt W' A qs) (h0 : J [] W) :
    CallsIn Fence.wide m Tryz.prog 115 #[.func (.yield l) #[] #[], .pointer (some ⟨Bs, 0, none⟩)] W fun e W' => (∃ v, e = .returned v) ∧
      ((∃ ys, ys = downF f n 0 ∧ J ys W') ∨ (∃ pre, (∃ k, k < n ∧ pre = downF f n k) ∧ Jx pre W')) := by
  have HN := Lib.hid hn
  have HA := Lib.hid hA
  have HF := Lib.hid hf
  clear hn hA hf
  refine callsIn_of_wp Tryz.func115 rfl trivial ?_ rfl
  simp only [Tryz.ntmps115, List.size_toArray, List.length_cons, List.length_nil, Nat.reduceAdd, Nat.reduceSub, Array.replicate_succ, Array.replicate_zero, List.push_toArray, List.append_toArray, List.nil_append, List.cons_append]
  gi_wp2
  gi_loopw [3] (fun i wr => ∃ k : Nat, k ≤ n ∧ i = .int .i64 ((k : Int) - 1) ∧ J (downF f n k) wr ∧ Hid (Below n₀ W wr)) (fun i _ => (intOf i + 1).toNat)
  case atStart => exact ⟨n, Nat.le_refl _, by first | rfl | (simp; done) | (congr 1; omega), by rw [downF_full]; exact h0, Below.refl _ _⟩
  case round =>
    obtain ⟨k, hk, rfl, hJs, HB⟩ := hrel
    have hcs : wr.cell? ⟨Bs, 0, none⟩ = some (.slice A n c) := (HB.out.cell (p := ⟨Bs, 0, none⟩) hB0).trans hBs
    cases k with
    | zero =>
      rw [show (((0 : Nat) : Int) - 1) = -1 by rfl]
      gi_wp2
      go_end0
      exact ⟨⟨_, rfl⟩, .inl ⟨_, rfl, hJs⟩⟩
    | succ j =>
      rw [show (((j + 1 : Nat) : Int) - 1) = (j : Int) by omega]
      have hjq : j < qs.length := by rw [HN.out]; omega
      have hlj : j < n := by omega
      obtain ⟨fn, tmps, assign, body, hy, hR⟩ := hY _ (f j) wr hJs (by rw [downF_len]; omega)
      have hAr : RulesAt wr A qs := HA.out wr HB.out
      obtain ⟨r, Hr⟩ := hid_name qs[j]
      obtain ⟨P, HP⟩ := hid_name (⟨r.2.toArray⟩ : ByteArray)
      obtain ⟨b, o, rfl, hc1, hc2⟩ := rule_cells hAr hjq Hr.out HP.out
      have hx : encR (f j) = #[.int .i64 (j : Int), .agg #[.bool r.1, .string P]] := by
        unfold encR
        rw [HF.out j hjq, Hr.out]
        show #[Value.int .i64 ((j : Nat) : Int), .agg #[.bool r.1, strV r.2]] = _
        unfold strV
        rw [HP.out]
      rw [hx] at hy
      clear hx hAr
      gi_wp2
      refine hR.mono ?_
      rintro e W3 (⟨rfl, hJ3, hk3⟩ | ⟨rfl, hJx3⟩)
      · gi_wp2
        go_roundw
        case rel => exact ⟨j, by omega, by simp, by rw [downF_step f hlj]; exact hJ3, HB.out.trans hk3⟩
        case measure => simp [intOf]
      · gi_wp2
        refine bodyPost_ret (results_none rfl _ _ _) rfl ?_
        exact ⟨⟨_, rfl⟩, .inr ⟨_, ⟨j, hlj, (downF_step f hlj).symm⟩, hJx3⟩⟩
set_option maxHeartbeats 1000000 in
theorem back_in (m : Nat) (A : Option Addr) (n c : Nat) (w : World) :
    CallsIn Fence.wide m Tryz.prog 72 #[.slice A n c] w fun e w' => e = .returned (.func (.func 115) #[] #[.pointer (some ⟨w.heap.size, 0, none⟩)]) ∧ w' = w.alloc (.cells #[.slice A n c] 23) := by
  refine callsIn_of_wp Tryz.func72 rfl trivial ?_ rfl
  simp only [Tryz.ntmps72, List.size_toArray, List.length_cons, List.length_nil, Nat.reduceAdd, Nat.reduceSub, Array.replicate_succ, Array.replicate_zero, List.push_toArray, List.append_toArray, List.nil_append, List.cons_append]
  gi_wp2
  go_ret
  exact ⟨rfl, rfl⟩
theorem back_stops (Bs m : Nat) (hm : 1 ≤ m) (A : Option Addr) (n c : Nat) (qs : List RuleV) (hn : qs.length = n) (hn2 : n ≤ 140737488355328) (f : Nat → AlR) (hf : ∀ j (h : j < qs.length), (f j).1 = (j, qs[j])) (w0 : World)
    (hBs : Blk w0 Bs 23 #[.slice A n c]) (hA : ∀ W', Below w0.heap.size w0 W' → RulesAt W' A qs) :
    SeqStopsK Fence.wide m Tryz.prog 115 #[.pointer (some ⟨Bs, 0, none⟩)] encR (Below w0.heap.size) (fun ys => ys = downF f n 0) (fun pre => ∃ k, k < n ∧ pre = downF f n k) n w0 := fun l J Jx W hW _ _ hY h0 =>
  back1_in l Bs w0.heap.size m hm A n c qs hn hn2 f hf J Jx hY W ((hW.cell (p := ⟨Bs, 0, none⟩) hBs.lt).trans (hBs.cell 0)) hBs.lt (fun W' h => hA W' (hW.trans h)) h0
/-- nothing that came fits -/
def noneFit (s : List UInt8) (pre : List AlR) : Prop := ∀ x ∈ pre, fitsB x.1.2.2 s = false
theorem noneFit_snoc {s : List UInt8} {pre : List AlR} {x : AlR} (h : noneFit s pre) (hx : fitsB x.1.2.2 s = false) : noneFit s (pre ++ [x]) := fun y hy => by
  rcases List.mem_append.1 hy with a | a
  · exact h y a
  · obtain rfl : y = x := by simpa using a
    exact hx
theorem below_keeps {B : Nat} {W W' : World} (h : Below W.heap.size W W') : KeepsFrom B W W' := ⟨h.size, fun k o _ hk _ => (h.block k (Array.getElem?_eq_some_iff.1 hk).1).trans hk⟩
theorem blk_own {B : Nat} {t : TypeId} {cs : Array Value} {X Y : World} {row : Option Nat} (h : Blk X B t cs) (hg : X.grownBy Y row) (hr : ∀ r, row = some r → ∃ o : Obj, X.heap[r]? = some o ∧ o.isCells = false) : Blk Y B t cs :=
  h.grown hg fun e => by
    obtain ⟨o, ho, hc⟩ := hr B e.symm
    rw [show X.heap[B]? = _ from h] at ho
    cases ho; cases hc
set_option maxHeartbeats 4000000 in
theorem isTaken_any (A : Option Addr) (n c : Nat) (qs : List RuleV) (hn : qs.length = n) (hn2 : n ≤ 140737488355328) (hok : okR qs) (s : ByteArray) (hs : s.size ≤ maxLen) (w : World) (hA : RulesAt w A qs) :
    Calls Tryz.prog 41 #[.slice A n c, .string s] w fun e w' => e = .returned (.bool (takenF qs s.data.toList)) ∧ Below w.heap.size w w' := by
  obtain ⟨f, hf⟩ : ∃ f : Nat → AlR, ∀ j (h : j < qs.length), (f j).1 = (j, qs[j]) :=
    ⟨fun j => if h : j < qs.length then ⟨(j, qs[j]), hok qs[j] (List.getElem_mem h)⟩ else ⟨(0, (false, [])), Nat.zero_le _⟩, fun j h => by simp [h]⟩
  have HNone : Hid (noneFit s.data.toList (downF f n 0) → takenF qs s.data.toList = true) := fun h => takenF_none fun r hr => by
    obtain ⟨j, hj, rfl⟩ := List.mem_iff_getElem.1 hr
    have := h (f j) (downF_mem.2 ⟨j, Nat.zero_le _, by omega, rfl⟩)
    rwa [hf j hj] at this
  have HLast : Hid (∀ k, k < n → ∀ fr x, downF f n k = fr ++ [x] → noneFit s.data.toList fr → fitsB x.1.2.2 s.data.toList = true → takenF qs s.data.toList = x.1.2.1) := fun k hk fr x he hno hfi => by
    rw [downF_step f hk] at he
    obtain ⟨h1, h2⟩ := List.append_inj' he rfl
    obtain rfl : f k = x := by simpa using h2
    subst h1
    have hkq : k < qs.length := by omega
    rw [hf k hkq] at hfi ⊢
    refine takenF_last k hkq hfi fun j hj hkj => ?_
    have := hno (f j) (downF_mem.2 ⟨j, hkj, by omega, rfl⟩)
    rwa [hf j hj] at this
  refine (callsIn_wide (n := 9)).1 ?_
  refine callsIn_of_wp_marks Tryz.func41 rfl trivial ?_ rfl
  simp only [Tryz.ntmps41, List.size_toArray, List.length_cons, List.length_nil, Nat.reduceAdd, Nat.reduceSub, Array.replicate_succ, Array.replicate_zero, List.push_toArray, List.append_toArray, List.nil_append, List.cons_append]
  gi_wp2_with (refine ⟨trivial, ?_⟩; gi_at_call 72; refine (back_in _ _ _ _ _).mono ?_; rintro e w' ⟨rfl, rfl⟩)
  have bS : Blk (((w.alloc (.cells #[.string s] 9)).alloc (.cells #[.bool false] 4)).alloc (.cells #[.slice A n c] 23)) w.heap.size 9 #[.string s] := ((Blk.new w 9 #[.string s]).alloc _).alloc _
  have bR : Blk (((w.alloc (.cells #[.string s] 9)).alloc (.cells #[.bool false] 4)).alloc (.cells #[.slice A n c] 23)) (w.heap.size + 1) 4 #[.bool false] := by
    have := (Blk.new (w.alloc (.cells #[.string s] 9)) 4 #[.bool false]).alloc (.cells #[.slice A n c] 23)
    rwa [World.size_alloc] at this
  have bL : Blk (((w.alloc (.cells #[.string s] 9)).alloc (.cells #[.bool false] 4)).alloc (.cells #[.slice A n c] 23)) (w.heap.size + 1 + 1) 23 #[.slice A n c] := by
    have := Blk.new ((w.alloc (.cells #[.string s] 9)).alloc (.cells #[.bool false] 4)) 23 #[.slice A n c]
    rwa [World.size_alloc, World.size_alloc] at this
  have hB0 : Below w.heap.size w (((w.alloc (.cells #[.string s] 9)).alloc (.cells #[.bool false] 4)).alloc (.cells #[.slice A n c] 23)) := belowA (belowA (belowA (Below.refl _ w) _) _) _
  have hsz : (((w.alloc (.cells #[.string s] 9)).alloc (.cells #[.bool false] 4)).alloc (.cells #[.slice A n c] 23)).heap.size = w.heap.size + 3 := by simp
  obtain ⟨W0, hW0⟩ : ∃ W0, ((w.alloc (.cells #[.string s] 9)).alloc (.cells #[.bool false] 4)).alloc (.cells #[.slice A n c] 23) = W0 := ⟨_, rfl⟩
  rw [hW0] at bS bR bL hB0 hsz ⊢
  clear hW0
  refine wpIn_rangeFunc_ownH rfl (by omega) (gf := 115) (lb := #[.pointer (some ⟨w.heap.size + 1 + 1, 0, none⟩)]) rfl trivial (enters_of Tryz.func115 (by kernel_rfl) rfl)
    (back_stops (w.heap.size + 1 + 1) _ (by omega) A n c qs hn hn2 f hf W0 bL (fun W' h => hA.below (hB0.trans (h.mono hB0.size)))) belowK_t (belowK_b (Nat.le_refl _)) (Below.refl _ _) (fun _ => rfl)
    (fun pre W => (Blk W w.heap.size 9 #[.string s] ∧ Blk W (w.heap.size + 1) 4 #[.bool false]) ∧ (Below w.heap.size w W ∧ Below W0.heap.size W0 W) ∧ noneFit s.data.toList pre)
    (fun cd pre W => (cd = .ret ∧ ∃ fr x, pre = fr ++ [x] ∧ noneFit s.data.toList fr ∧ fitsB x.1.2.2 s.data.toList = true ∧ Blk W (w.heap.size + 1) 4 #[.bool x.1.2.1]) ∧ Below w.heap.size w W)
    (OwnFrom.and (fun s' X Y row h hg hr => ⟨blk_own h.1 hg (fun r e => (hr r e).2), blk_own h.2 hg (fun r e => (hr r e).2)⟩) (OwnFrom.and (OwnFrom.and (ownFrom_below (Nat.le_refl _) hB0.size) (ownFrom_below (Nat.le_refl _) (Nat.le_refl _))) (ownFrom_pure _ _)))
    (fun cd => OwnFrom.and (fun s' X Y row h hg hr => ⟨h.1, by obtain ⟨fr, x, h1, h2, h3, h4⟩ := h.2; exact ⟨fr, x, h1, h2, h3, blk_own h4 hg (fun r e => (hr r e).2)⟩⟩) (ownFrom_below (Nat.le_refl _) hB0.size))
    ⟨⟨bS, bR⟩, ⟨hB0, Below.refl _ _⟩, (fun y hy => by cases hy)⟩
    (fun x a' W => ∃ Bx, w.heap.size + 1 < Bx ∧ Blk W Bx 39 #[.bool x.1.2.1, strV x.1.2.2] ∧ a' = { tmps := #[.slice A n c, .string s, undef, .pointer (some ⟨w.heap.size, 0, none⟩), .pointer (some ⟨w.heap.size + 1, 0, none⟩), undef, .pointer (some ⟨Bx, 0, none⟩), undef, undef, .slice A n c, .func (.func 115) #[] #[.pointer (some ⟨w.heap.size + 1 + 1, 0, none⟩)], .int .i64 (x.1.1 : Int), .agg #[.bool x.1.2.1, strV x.1.2.2], undef, undef, undef, undef, undef, undef, undef, undef, undef, undef], defers := [] })
    (fun x a' _ X Y row h hg hr => by obtain ⟨Bx, h1, h2, h3⟩ := h; exact ⟨Bx, h1, blk_own h2 hg (fun r e => (hr r e).2), h3⟩)
    ?assign ?body ?done ?stop
  case assign =>
    rintro l pre x W K ⟨⟨b1, b2⟩, ⟨hB1, hB2⟩, hno⟩ hK
    obtain ⟨⟨xi, xb, xp⟩, hxl⟩ := x
    obtain ⟨P, HP⟩ := hid_name (⟨xp.toArray⟩ : ByteArray)
    have he : encR ⟨(xi, xb, xp), hxl⟩ = #[.int .i64 (xi : Int), .agg #[.bool xb, .string P]] := by unfold encR strV; rw [HP.out]
    rw [he]
    simp only [strV, HP.out] at hK
    clear he
    gi_wp2
    exact hK _ _ ((KeepsOthers.alloc _ _).from _) ((Below.refl _ W).alloc hB2.size _) ⟨⟨b1.alloc _, b2.alloc _⟩, ⟨hB1.alloc hB1.size _, hB2.alloc hB2.size _⟩, hno⟩ ⟨W.heap.size, (by have := b2.lt; omega), Blk.new W _ _, rfl⟩
  case body =>
    rintro l pre x a' W hl ⟨r, hr⟩ ⟨⟨b1, b2⟩, ⟨hB1, hB2⟩, hno⟩ ⟨Bx, hBx, bX, rfl⟩ hlt
    have hsW := hB2.size
    obtain ⟨⟨xi, xb, xp⟩, hxl⟩ := x
    simp only at bX hxl ⊢
    obtain ⟨P, HP⟩ := hid_name (⟨xp.toArray⟩ : ByteArray)
    have hPl : P.data.toList = xp := by rw [← HP.out]
    have hPs : P.size ≤ maxLen := by
      have h2 : P.data.toList.length = P.size := by simp
      rw [hPl] at h2
      unfold maxLen; omega
    unfold strV at bX ⊢
    rw [HP.out] at bX ⊢
    have hG := fun W => gFits_any P s W hPs hs
    rw [hPl] at hG
    generalize fitsE xp s.data.toList = E at hG
    have d0 : W.cell? ⟨Bx, 1, none⟩ = some (.string P) := bX.cell 1
    have d1 : W.cell? ⟨w.heap.size, 0, none⟩ = some (.string s) := b1.cell 0
    cases hfi : fitsB xp s.data.toList with
    | true =>
      rw [hfi] at hG
      have HG1 := Lib.hid hG
      clear hG HP hPl
      gi_wp2_with (refine ⟨trivial, ?_⟩; gi_at_call 73; refine (CallsIn.inRound l (callsIn_wide.2 (HG1.out _))).mono ?_; rintro e w' ⟨rfl, hb⟩; have e0 : w'.cell? ⟨Bx, 0, none⟩ = some (.bool xb) := (bX.below hb bX.lt).cell 0; have e1 := (b2.below hb b2.lt).cell 0; have e2 := (b2.below hb b2.lt).frozen 0)
      have b3 : Blk _ (w.heap.size + 1) 4 #[.bool xb] := (b2.below hb b2.lt).set_ 0 (.bool xb)
      exact ⟨(below_keeps hb).trans ((KeepsOthers.setCell _ _ _).from _), ⟨rfl, pre, ⟨(xi, xb, xp), hxl⟩, rfl, hno, hfi, b3⟩, (hB1.trans (hb.mono hB1.size)).setCell (p := ⟨w.heap.size + 1, 0, none⟩) (by simp) _⟩
    | false =>
      rw [hfi] at hG
      have HG1 := Lib.hid hG
      clear hG HP hPl
      gi_wp2_with (refine ⟨trivial, ?_⟩; gi_at_call 73; refine (CallsIn.inRound l (callsIn_wide.2 (HG1.out _))).mono ?_; rintro e w' ⟨rfl, hb⟩)
      exact ⟨(below_keeps hb), hb.mono hsW, ⟨b1.below hb b1.lt, b2.below hb b2.lt⟩, ⟨hB1.trans (hb.mono hB1.size), hB2.trans (hb.mono hB2.size)⟩, noneFit_snoc hno hfi⟩
  case done =>
    rintro D ys W hD rfl ⟨⟨b1, b2⟩, ⟨hB1, hB2⟩, hno⟩ hK
    have e1 := b2.cell 0
    have e2 := b2.frozen 0
    gi_wp2
    have hK' := (KeepsOthers.setCell W ⟨w.heap.size + 1, 0, none⟩ (.bool true)).same D _ hK rfl
    refine ⟨by simp, .inl ⟨_, _, rfl, run_takeDeferred hK', ?_⟩⟩
    have b3 : Blk (W.setCell ⟨w.heap.size + 1, 0, none⟩ (.bool true)) (w.heap.size + 1) 4 #[.bool true] := b2.set_ 0 (.bool true)
    have hc5 := (blk_own b3 (grownBy_putObj' _ D (.deferred none)) (fun r e => by cases e; exact ⟨_, hK', rfl⟩)).cell 0
    refine ⟨.bool true, ?_, by rw [HNone.out hno], (hB1.setCell (p := ⟨w.heap.size + 1, 0, none⟩) (by simp) _).trans (belowK_b (w := w) (Nat.le_refl _) _ D _ _ (by omega) hK' rfl rfl)⟩
    simp [results, Tryz.results41, go_sem, hc5]
  case stop =>
    rintro D cd pre W hD ⟨k, hk, hpre⟩ ⟨⟨rfl, fr, x, h1, h2, h3, h4⟩, hB⟩ hK
    have e1 := h4.cell 0
    gi_wp2
    refine ⟨by simp, .inl ⟨_, _, rfl, run_takeDeferred hK, ?_⟩⟩
    have hc5 := (blk_own h4 (grownBy_putObj' _ D (.deferred none)) (fun r e => by cases e; exact ⟨_, hK, rfl⟩)).cell 0
    refine ⟨.bool x.1.2.1, ?_, by rw [HLast.out k hk fr x (hpre.symm.trans h1) h2 h3], hB.trans (belowK_b (w := w) (Nat.le_refl _) W D _ _ (by omega) hK rfl rfl)⟩
    simp [results, Tryz.results41, go_sem, hc5]
end
end Go.Proofs.YtoikpnjnljdpaaaGreatDoor
