/- Plain mathematics of padding; nothing of the program. -/
import Derived.Test.YtmcojkgknffccaaFldM
set_option linter.unusedVariables false
namespace Go.Proofs.Ytmcojkgknffccaa
open Go.RowKit
/-- the number of blocks of n bytes -/
def padN (n : Nat) : Nat := (n + 511) / 512
theorem padN_ge (n : Nat) : n ≤ 512 * padN n := by unfold padN; omega
theorem padN_lt (n : Nat) : 512 * padN n < n + 512 := by unfold padN; omega
theorem padN_add (a b : Nat) : padN (a + b) ≤ padN a + padN b ∧ padN a + padN b ≤ padN (a + b) + 1 := by unfold padN; omega
theorem padN_mul (k : Nat) : padN (512 * k) = k := by unfold padN; omega
theorem padN_pad (n : Nat) : padN (512 * padN n) = padN n := padN_mul _
/-- as the reference counts: whole blocks, and one more if they are too few -/
theorem padN_ref (n : Nat) : padN n = if n / 512 * 512 < n then n / 512 + 1 else n / 512 := by unfold padN; split <;> omega
def padB (n : Int) : Int × Int := if 0 ≤ n ∧ n < 8589934592 then ((padN n.toNat : Int), 0) else (0, 4)
theorem padB_ok {n : Int} (h : 0 ≤ n ∧ n < 8589934592) : padB n = ((padN n.toNat : Int), 0) := if_pos h
theorem padB_no {n : Int} (h : ¬ (0 ≤ n ∧ n < 8589934592)) : padB n = (0, 4) := if_neg h
/-- bytes filled up -/
def padF (l : List UInt8) : List UInt8 := l ++ List.replicate (512 * padN l.length - l.length) 0
theorem padF_length (l : List UInt8) : (padF l).length = 512 * padN l.length := by
  have := padN_ge l.length
  unfold padF; rw [List.length_append, List.length_replicate]; omega
theorem padF_whole (l : List UInt8) (k : Nat) (h : l.length = 512 * k) : padF l = l := by
  unfold padF; rw [h, padN_mul, Nat.sub_self, List.replicate_zero, List.append_nil]
/-- one zero more is filled up to the same -/
theorem padF_step (l : List UInt8) (h : l.length % 512 ≠ 0) : padF (l ++ [0]) = padF l := by
  have e : padN (l.length + 1) = padN l.length := by unfold padN; omega
  have g := padN_ge l.length
  have g2 : l.length + 1 ≤ 512 * padN l.length := by unfold padN; omega
  unfold padF
  rw [List.length_append, List.length_singleton, e, List.append_assoc]
  congr 1
  obtain ⟨k, hk⟩ : ∃ k, 512 * padN l.length - l.length = k + 1 := ⟨512 * padN l.length - l.length - 1, by omega⟩
  rw [hk, show 512 * padN l.length - (l.length + 1) = k by omega, List.replicate_succ]
  rfl
/-- what is cut off -/
def padC (l : List UInt8) (n : Int) : (List UInt8 × List UInt8) × Int :=
  if 0 ≤ n ∧ n < 8589934592 then
    if l.length < 512 * padN n.toNat then (([], []), 7)
    else if allZ ((l.take (512 * padN n.toNat)).drop n.toNat) = true then ((l.take n.toNat, l.drop (512 * padN n.toNat)), 0) else (([], []), 3)
  else (([], []), 4)
theorem padC_range {l : List UInt8} {n : Int} (h : ¬ (0 ≤ n ∧ n < 8589934592)) : padC l n = (([], []), 4) := if_neg h
theorem padC_short {l : List UInt8} {n : Int} (h : 0 ≤ n ∧ n < 8589934592) (h2 : l.length < 512 * padN n.toNat) : padC l n = (([], []), 7) := by rw [padC, if_pos h, if_pos h2]
theorem padC_form {l : List UInt8} {n : Int} (h : 0 ≤ n ∧ n < 8589934592) (h2 : 512 * padN n.toNat ≤ l.length) (h3 : allZ ((l.take (512 * padN n.toNat)).drop n.toNat) = false) : padC l n = (([], []), 3) := by
  rw [padC, if_pos h, if_neg (by omega), if_neg (by simp [h3])]
theorem padC_ok {l : List UInt8} {n : Int} (h : 0 ≤ n ∧ n < 8589934592) (h2 : 512 * padN n.toNat ≤ l.length) (h3 : allZ ((l.take (512 * padN n.toNat)).drop n.toNat) = true) : padC l n = ((l.take n.toNat, l.drop (512 * padN n.toNat)), 0) := by
  rw [padC, if_pos h, if_neg (by omega), if_pos h3]
theorem allZ_zeros (k : Nat) : allZ (List.replicate k 0) = true := by rw [allZ_rep, List.length_replicate]; exact decide_eq_true rfl
/-- what was filled up is cut off as it was -/
theorem padC_padF (l m : List UInt8) (h : l.length < 8589934592) : padC (padF l ++ m) (l.length : Int) = ((l, m), 0) := by
  have hl := padF_length l
  have e1 : (padF l ++ m).take (512 * padN l.length) = padF l := List.take_left' hl
  have e2 : (padF l ++ m).drop (512 * padN l.length) = m := by rw [← hl, List.drop_left]
  have e3 : (padF l ++ m).take l.length = l := by unfold padF; rw [List.append_assoc, List.take_left]
  have e4 : (padF l).drop l.length = List.replicate (512 * padN l.length - l.length) 0 := by unfold padF; rw [List.drop_left]
  rw [padC_ok ⟨by omega, by omega⟩ (by rw [Int.toNat_natCast, List.length_append, hl]; omega) (by rw [Int.toNat_natCast, e1, e4]; exact allZ_zeros _), Int.toNat_natCast, e2, e3]
/-- what fills up is nought -/
theorem padC_turned (l : List UInt8) (h : l.length < 8589934592) (k : Nat) (h1 : l.length ≤ k) (h2 : k < 512 * padN l.length) (c : UInt8) (hc : c ≠ 0) : padC ((padF l).set k c) (l.length : Int) = (([], []), 3) := by
  have hl := padF_length l
  refine padC_form ⟨by omega, by omega⟩ (by rw [Int.toNat_natCast, List.length_set, hl]; omega) ?_
  rw [Int.toNat_natCast, List.take_of_length_le (by rw [List.length_set, hl]; omega)]
  refine allZ_false _ (k - l.length) (by rw [List.length_drop, List.length_set, hl]; omega) ?_
  rw [List.getElem_drop]
  simp only [show l.length + (k - l.length) = k by omega]
  rw [List.getElem_set_self]; exact hc
end Go.Proofs.Ytmcojkgknffccaa
