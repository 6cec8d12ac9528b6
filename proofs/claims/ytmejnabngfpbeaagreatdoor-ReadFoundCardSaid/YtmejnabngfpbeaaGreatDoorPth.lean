/- Texts of one kind, in one file: PthA, PrtA. -/
import Derived.Test.YtmejnabngfpbeaaGreatDoorMth
import Derived.BigQuiet
import Derived.Deep.QuietTactic
import Derived.WalkLawsBesides
import Derived.IntWalk
import Derived.WalkSmall
import Derived.Below
import Derived.Laws.OwnMore
import Derived.Laws.AppendOwn
import Derived.Deep.AppendLies
import Derived.StillTailTactics
import Derived.OwnWalk
set_option linter.unusedVariables false
set_option maxRecDepth 100000
namespace Go.Proofs.YtmejnabngfpbeaaGreatDoor
open Go.RowKit
open Go.OpenShut
theorem toList_nil {s : ByteArray} (h : s.data.toList = []) : s.toList = [] := by rw [ByteArray.toList_eq]; exact h
theorem toList_ne {s : ByteArray} (h : s.data.toList ≠ []) : s.toList.isEmpty = false := by
 rw [ByteArray.toList_eq, ← Bool.not_eq_true, List.isEmpty_iff]; exact h
theorem str_eqL (a b : ByteArray) : (a.toList == b.toList) = decide (a.data.toList = b.data.toList) := by
 rw [ByteArray.toList_eq, ByteArray.toList_eq, Bool.eq_iff_iff, beq_iff_eq, decide_eq_true_eq]
theorem byte_eq (b c : UInt8) : ((b.toNat : Int) == (c.toNat : Int)) = decide (b = c) := by
 rw [Bool.eq_iff_iff, beq_iff_eq, decide_eq_true_eq]
 exact ⟨fun e => UInt8.toNat_inj.1 (by omega), fun e => by rw [e]⟩
theorem isNaN_any (x : Int) (w : World) : Calls Tryz.prog 130 #[.int .i64 x] w fun e w' => e = .returned (.bool false) ∧ w = w' := by
 go_enter Tryz.func130, Tryz.ntmps130
 go_wp2
 go_ret
 exact ⟨rfl, rfl⟩
theorem cCompare_any (x y : Int) (w : World) : Calls Tryz.prog 75 #[.int .i64 x, .int .i64 y] w fun e w' => e = .returned (.int .i64 (sgn x y)) ∧ w = w' := by
 by_cases h1 : x < y
 ·have hs := Lib.hid (sgn_lt h1)
  go_enter Tryz.func75, Tryz.ntmps75
  go_wp2_with (go_at_call 130; refine (isNaN_any _ _).mono ?_; rintro e w' ⟨rfl, rfl⟩)
  go_ret
  exact ⟨ret_int hs.out.symm, rfl⟩
 ·by_cases h2 : y < x
  ·have hs := Lib.hid (sgn_gt h2)
   go_enter Tryz.func75, Tryz.ntmps75
   go_wp2_with (go_at_call 130; refine (isNaN_any _ _).mono ?_; rintro e w' ⟨rfl, rfl⟩)
   go_ret
   exact ⟨ret_int hs.out.symm, rfl⟩
  ·have hs := Lib.hid (sgn_eq h1 h2)
   go_enter Tryz.func75, Tryz.ntmps75
   go_wp2_with (go_at_call 130; refine (isNaN_any _ _).mono ?_; rintro e w' ⟨rfl, rfl⟩)
   go_ret
   exact ⟨ret_int hs.out.symm, rfl⟩
theorem rank_any (b : UInt8) (w : World) : Calls Tryz.prog 76 #[.int .u8 (b.toNat : Int)] w fun e w' => e = .returned (.int .i64 (rk b)) ∧ w = w' := by
 have hb := u8_lt b
 by_cases h : b = 47
 ·subst h
  go_enter Tryz.func76, Tryz.ntmps76
  go_wp2
  go_ret
  exact ⟨rfl, rfl⟩
 ·have h' : ((b.toNat : Int) == 47) = false := by
   rw [beq_eq_false_iff_ne]; intro e; exact h (UInt8.toNat_inj.1 (show b.toNat = 47 by omega))
  have hr := Lib.hid (show rk b = (b.toNat : Int) from if_neg h)
  clear h
  go_enter Tryz.func76, Tryz.ntmps76
  go_wp2
  go_ret
  exact ⟨ret_int hr.out.symm, rfl⟩
set_option maxHeartbeats 400000 in
theorem Compare_any (a b : ByteArray) (w : World) (ha : a.size ≤ maxLen) (hb : b.size ≤ maxLen) : Calls Tryz.prog 43 #[.string a, .string b] w fun e w' => e = .returned (.int .i64 (pcmp a.data.toList b.data.toList)) ∧ ∃ n, w' = w.drewN n := by
 unfold maxLen at ha hb
 by_cases hm : a.size ≤ b.size
 all_goals
  go_enter Tryz.func43, Tryz.ntmps43
  go_wp2
  go_loopw [11] (fun i wr => ∃ k n : Nat, k ≤ a.size ∧ k ≤ b.size ∧ i = .int .i64 k ∧ Hid (a.data.toList.take k = b.data.toList.take k) ∧ Hid (wr = w.drewN n)) (fun i _ => a.size - (intOf i).toNat)
  case atStart => exact ⟨0, 0, Nat.zero_le _, Nat.zero_le _, rfl, rfl, rfl⟩
  case round =>
   obtain ⟨k, n, hk, hk', rfl, hz, hw⟩ := hrel
   by_cases hlt : k < a.size ∧ k < b.size
   ·obtain ⟨h1, h2⟩ := hlt
    have hq := byte_eq a[k] b[k]
    by_cases hc : a[k] = b[k]
    ·rw [decide_eq_true hc] at hq
     have hq' : ((a[k].toNat : Int) != (b[k].toNat : Int)) = false := by simp [bne, hq]
     have HN : Hid (a.data.toList.take (k + 1) = b.data.toList.take (k + 1)) := by
      unfold Hid; rw [take_snoc _ _ h1, take_snoc _ _ h2, hz.out, hc]
     clear hc hq
     go_wp2
     go_quiet (fail)
     go_wp2
     go_roundw
     case rel => exact ⟨k + 1, n + nq, by omega, by omega, by go_num, HN, by unfold Hid; rw [hw.out, World.drewN_drewN]⟩
     case measure => simp [intOf]; omega
    ·rw [decide_eq_false hc] at hq
     have hq' : ((a[k].toNat : Int) != (b[k].toNat : Int)) = true := by simp [bne, hq]
     have HP := Lib.hid (pcmp_at a.data.toList b.data.toList k hz.out (by simpa using h1) (by simpa using h2) hc)
     clear hc hq
     go_wp2
     go_quiet (fail)
     obtain ⟨w1, hw1⟩ := hid_name (wr.drewN nq)
     rw [hw1.out]
     go_wp2
     go_quiet ((first | (go_at_call 76; exact Calls.quiet_of_same (flip_same (rank_any _ _))) | (go_at_call 75; exact Calls.quiet_of_same (flip_same (cCompare_any _ _ _)))))
     go_wp2
     go_ret
     exact ⟨ret_int HP.out.symm, _, by rw [← hw1.out, hw.out, World.drewN_drewN, World.drewN_drewN]⟩
   ·have HP := Lib.hid (pcmp_end a.data.toList b.data.toList k hz.out (by simpa using hk) (by simpa using hk') (by simp; omega))
    go_wp2_with (go_at_call 75; refine (cCompare_any _ _ _).mono ?_; rintro e w' ⟨rfl, rfl⟩)
    go_ret
    exact ⟨ret_int (by rw [HP.out]; simp), _, hw.out⟩
theorem drewN_below {B : Nat} {a w : World} (h : Below B a w) (n : Nat) : Below B a (w.drewN n) := ⟨h.os, h.tape, h.output, h.size, h.block⟩
theorem info_str : (Tryz.prog.info? 9).map (fun i => (i.zero, i.size, i.bytes)) = some (some (.string ⟨#[]⟩), 1, 16) := by kernel_rfl
def Texts (w : World) (B : Nat) (v : Value) (ls : List (List UInt8)) : Prop := w.ownsRow B 9 1 v ls.length (strC ls)
theorem Texts.form {w : World} {B : Nat} {v : Value} {ls : List (List UInt8)} (h : Texts w B v ls) (hn : 1 ≤ ls.length) : ∃ g cap, v = .slice (some ⟨g, 0, none⟩) ls.length cap ∧ B ≤ g ∧ g < w.heap.size := World.ownsRow.form h hn
theorem Texts.cell {w : World} {B g cap n : Nat} {ls : List (List UInt8)} (h : Texts w B (.slice (some ⟨g, 0, none⟩) n cap) ls) (hn : ls.length = n) (j : Nat) (hj : j < n) : w.cell? ⟨g, j, none⟩ = some (strV (ls.getD j [])) := by
 subst hn
 unfold Texts at h
 rw [h.cellAt j (by omega), strC_get _ _ hj]
theorem grown_below {a w : World} (h : Below a.heap.size a w) (row : Option Nat) : a.grownBy w row := ⟨h.os, h.tape, h.output, h.size, fun i hi _ => h.block i hi⟩
theorem Texts.below {w w' : World} {B : Nat} {v : Value} {ls : List (List UInt8)} (h : Texts w B v ls) (hb : Below w.heap.size w w') : Texts w' B v ls :=
 World.ownsRow.kept h (grown_below hb none) (by
  by_cases e : v.ownBlock = none
  ·exact .inl e
  ·exact .inr e)
theorem Texts.drewN {w : World} {B : Nat} {v : Value} {ls : List (List UInt8)} (h : Texts w B v ls) (n : Nat) : Texts (w.drewN n) B v ls := h.below (drewN_below (Below.refl _ _) n)
theorem Texts.nil (w : World) (B : Nat) : Texts w B (.slice none 0 0) [] := World.ownsRow_nil w B 9 1
theorem Texts.any {w : World} {B : Nat} {v : Value} {ls : List (List UInt8)} (h : Texts w B v ls) : ∃ A cap, v = .slice A ls.length cap ∧ (∀ j, j < ls.length → ∃ g, A = some ⟨g, 0, none⟩ ∧ B ≤ g ∧ g < w.heap.size ∧ w.cell? ⟨g, j, none⟩ = some (strV (ls.getD j []))) := by
 by_cases hn : 1 ≤ ls.length
 ·obtain ⟨g, cap, rfl, hB, hlt⟩ := h.form hn
  exact ⟨_, cap, rfl, fun j hj => ⟨g, rfl, hB, hlt, h.cell rfl j hj⟩⟩
 ·have h0 : ls.length = 0 := by omega
  have h' := h
  unfold Texts World.ownsRow at h'
  rcases h'.2 with ⟨rfl, _⟩ | ⟨g, cap, cur, rfl, _⟩
  ·exact ⟨none, 0, by rw [h0], fun j hj => by omega⟩
  ·exact ⟨_, cap, rfl, fun j hj => by omega⟩
end Go.Proofs.YtmejnabngfpbeaaGreatDoor
