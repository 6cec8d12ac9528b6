import Derived.Test.YtfakaglkninbiaaOctB
import Derived.Test.YtfakaglkninbiaaOctC
import Derived.Test.YtfakaglkninbiaaOctD
import Derived.Test.YtfakaglkninbiaaOctE
import Derived.Test.YtfakaglkninbiaaOctM
import Derived.Test.YtfakaglkninbiaaStr
set_option linter.unusedVariables false
namespace Go.Proofs.Ytfakaglkninbiaa
open Go.RowKit
open Go.OpenShut
set_option maxHeartbeats 400000 in
theorem OctalWrites_walk (a0 : Int) (a1 : Int) (_w0 : (Lit.int .i64 a0).wf = true) (_w1 : (Lit.int .i64 a1).wf = true) (w : World) :
    Calls Try.prog 3 #[.int .i64 a0, .int .i64 a1] w fun e w' => e = .returned (.bool true) ∧ Below w.heap.size w w' := by
  go_enter Try.func3, Try.ntmps3
  go_wp2_with fail
  refine (Most_any _ _).mono ?_; rintro e w' ⟨rfl, rfl⟩
  go_wp2_with fail
  refine (Write_any _ _ _).mono ?_; rintro e w1 ⟨rfl, hb⟩
  go_wp2_with fail
  refine (rMost_any _ _).mono ?_; rintro e w' ⟨rfl, rfl⟩
  go_wp2_with fail
  refine (rText_any _ _ _).mono ?_; rintro e w' ⟨rfl, rfl⟩
  go_wp2_with fail
  go_ret
  exact ⟨rfl, hb⟩
set_option maxHeartbeats 400000 in
theorem OctalReads_walk (a0 : ByteArray) (w0 : a0.size ≤ maxLen) (w : World) :
    Calls Try.prog 4 #[.string a0] w fun e w' => e = .returned (.bool true) ∧ Below w.heap.size w w' := by
  go_enter Try.func4, Try.ntmps4
  go_wp2_with fail
  refine (Read_any _ _ w0).mono ?_; rintro e w' ⟨rfl, rfl⟩
  go_wp2_with fail
  refine (rOf_any _ _ w0).mono ?_; rintro e w1 ⟨rfl, hb⟩
  go_wp2_with fail
  go_ret
  exact ⟨rfl, hb⟩
theorem field_size (m j : Nat) (h : j ≤ 100) : (⟨(D m j ++ [0]).toArray⟩ : ByteArray).size = j + 1 := by simp [ByteArray.size]
set_option maxHeartbeats 400000 in
theorem OctalBack_walk (a0 : Int) (a1 : Int) (w0 : (Lit.int .i64 a0).wf = true) (w1 : (Lit.int .i64 a1).wf = true) (w : World) :
    Calls Try.prog 5 #[.int .i64 a0, .int .i64 a1] w fun e w' => e = .returned (.bool true) ∧ Below w.heap.size w w' := by
  go_enter Try.func5, Try.ntmps5
  go_wp2_with fail
  refine (picked_any _ _ _ w1 (by omega)).mono ?_; rintro e w' ⟨rfl, rfl⟩
  obtain ⟨p1, p2⟩ := pick_bd a1 11 (by omega)
  generalize pick a1 11 = y at *
  obtain ⟨x, Hx⟩ : ∃ x, Hid (2 + y = x) := ⟨_, rfl⟩
  have x1 : 2 ≤ x := by have := Hx.out; omega
  have x2 : x ≤ 12 := by have := Hx.out; omega
  have hm1 := most_ge x x1
  have hm2 := most_le x2
  go_wp2_with fail
  rw [show 2 + y = x from Hx.out]
  clear p1 p2
  refine (Most_yes x _ ⟨x1, x2⟩).mono ?_; rintro e w' ⟨rfl, rfl⟩
  go_wp2_with fail
  refine (picked_any _ _ _ w0 (by omega)).mono ?_; rintro e w' ⟨rfl, rfl⟩
  obtain ⟨p1, p2⟩ := pick_bd a0 (most x + 1) (by omega)
  generalize pick a0 (most x + 1) = n at *
  go_wp2_with fail
  refine (Write_yes n x _ ⟨x1, x2⟩ ⟨p1, by omega⟩).mono ?_; rintro e w1 ⟨rfl, hb⟩
  have hlt := most_nat x x1 n p1 (by omega)
  have hsz := field_size n.toNat (x.toNat - 1) (by omega)
  have HR := Lib.hid (octR_D n.toNat (x.toNat - 1) (by omega) (by omega) hlt)
  clear hlt hm1 hm2
  obtain ⟨s, Hs⟩ := hid_name (⟨(D n.toNat (x.toNat - 1) ++ [0]).toArray⟩ : ByteArray)
  rw [Hs.out] at hsz ⊢
  have hz1 : x.toNat - 1 + 1 ≤ s.size := by omega
  have hz2 : s.size ≤ x.toNat - 1 + 1 := by omega
  clear hsz
  have HR' : Hid (octR s.data.toList = (n, 0)) := by
    have e : s.data.toList = D n.toNat (x.toNat - 1) ++ [0] := by rw [← Hs.out]
    unfold Hid; rw [e, HR.out]; simp; omega
  go_wp2_with fail
  refine (Read_in s _ (by omega) (by omega)).mono ?_; rintro e w' ⟨rfl, rfl⟩
  rw [HR'.out]
  have hl : ((s.size : Int) == x) = true := by rw [beq_iff_eq]; omega
  go_wp2_with fail
  go_ret
  exact ⟨rfl, hb⟩
set_option maxHeartbeats 400000 in
theorem OctalRises_walk (a0 : Int) (a1 : Int) (a2 : Int) (w0 : (Lit.int .i64 a0).wf = true) (w1 : (Lit.int .i64 a1).wf = true) (w2 : (Lit.int .i64 a2).wf = true) (w : World) :
    Calls Try.prog 6 #[.int .i64 a0, .int .i64 a1, .int .i64 a2] w fun e w' => e = .returned (.bool true) ∧ Below w.heap.size w w' := by
  go_enter Try.func6, Try.ntmps6
  go_wp2_with fail
  refine (picked_any _ _ _ w2 (by omega)).mono ?_; rintro e w' ⟨rfl, rfl⟩
  obtain ⟨p1, p2⟩ := pick_bd a2 11 (by omega)
  generalize pick a2 11 = y at *
  obtain ⟨x, Hx⟩ : ∃ x, Hid (2 + y = x) := ⟨_, rfl⟩
  have x1 : 2 ≤ x := by have := Hx.out; omega
  have x2 : x ≤ 12 := by have := Hx.out; omega
  have hm1 := most_ge x x1
  have hm2 := most_le x2
  go_wp2_with fail
  rw [show 2 + y = x from Hx.out]
  clear p1 p2
  refine (Most_yes x _ ⟨x1, x2⟩).mono ?_; rintro e w' ⟨rfl, rfl⟩
  go_wp2_with fail
  refine (picked_any _ _ _ w0 (by omega)).mono ?_; rintro e w' ⟨rfl, rfl⟩
  obtain ⟨p1, p2⟩ := pick_bd a0 (most x + 1) (by omega)
  generalize pick a0 (most x + 1) = a at *
  go_wp2_with fail
  refine (picked_any _ _ _ w1 (by omega)).mono ?_; rintro e w' ⟨rfl, rfl⟩
  obtain ⟨q1, q2⟩ := pick_bd a1 (most x + 1) (by omega)
  generalize pick a1 (most x + 1) = b at *
  go_wp2_with fail
  refine (Write_yes a x _ ⟨x1, x2⟩ ⟨p1, by omega⟩).mono ?_; rintro e w1 ⟨rfl, hb⟩
  go_wp2_with fail
  refine (Write_yes b x _ ⟨x1, x2⟩ ⟨q1, by omega⟩).mono ?_; rintro e w2 ⟨rfl, hb2⟩
  have la := most_nat x x1 a p1 (by omega)
  have lb := most_nat x x1 b q1 (by omega)
  have hless := less_D a.toNat b.toNat (x.toNat - 1)
  rw [Nat.mod_eq_of_lt la, Nat.mod_eq_of_lt lb] at hless
  have hinj := fun h => octVal_inj_D (j := x.toNat - 1) la lb h
  have hbel : Below w.heap.size w w2 := hb.trans (hb2.mono hb.size)
  obtain ⟨s, Hs⟩ := hid_name (⟨(D a.toNat (x.toNat - 1) ++ [0]).toArray⟩ : ByteArray)
  obtain ⟨t, Ht⟩ := hid_name (⟨(D b.toNat (x.toNat - 1) ++ [0]).toArray⟩ : ByteArray)
  rw [Hs.out, Ht.out]
  have hs : s.data.toList = D a.toNat (x.toNat - 1) ++ [0] := by rw [← Hs.out]
  have ht : t.data.toList = D b.toNat (x.toNat - 1) ++ [0] := by rw [← Ht.out]
  have h1 : Op.bytesLess s.toList t.toList = decide (a < b) := by
    rw [ByteArray.toList_eq, ByteArray.toList_eq, hs, ht, hless]
    rw [decide_eq_decide]; omega
  have h2 : (s.toList == t.toList) = (a == b) := by
    rw [ByteArray.toList_eq, ByteArray.toList_eq, hs, ht, Bool.eq_iff_iff, beq_iff_eq, beq_iff_eq]
    exact ⟨fun h => by have := hinj h; omega, fun h => by rw [h]⟩
  clear hs ht hless hinj la lb hm1 hm2 hb hb2 p1 p2 q1 q2
  go_wp2_with fail
  go_ret
  exact ⟨rfl, hbel⟩
set_option maxHeartbeats 400000 in
theorem OctalOver_walk (a0 : Int) (w0 : (Lit.int .i64 a0).wf = true) (w : World) :
    Calls Try.prog 7 #[.int .i64 a0] w fun e w' => e = .returned (.bool true) ∧ Below w.heap.size w w' := by
  go_enter Try.func7, Try.ntmps7
  go_wp2_with fail
  refine (picked_any _ _ _ w0 (by omega)).mono ?_; rintro e w' ⟨rfl, rfl⟩
  obtain ⟨p1, p2⟩ := pick_bd a0 10 (by omega)
  generalize pick a0 10 = y at *
  obtain ⟨x, Hx⟩ : ∃ x, Hid (2 + y = x) := ⟨_, rfl⟩
  have x1 : 2 ≤ x := by have := Hx.out; omega
  have x2 : x ≤ 11 := by have := Hx.out; omega
  have hm1 := most_ge x x1
  have hm2 := most_le (show x ≤ 12 by omega)
  have hm3 := most_le (show x + 1 ≤ 12 by omega)
  have Hm := Lib.hid (most_succ x x1)
  go_wp2_with fail
  rw [show 2 + y = x from Hx.out]
  clear p1 p2
  refine (Most_yes x _ ⟨x1, by omega⟩).mono ?_; rintro e w' ⟨rfl, rfl⟩
  go_wp2_with fail
  refine (Most_yes (x + 1) _ ⟨by omega, by omega⟩).mono ?_; rintro e w' ⟨rfl, rfl⟩
  go_wp2_with fail
  refine (Write_range (most x + 1) x _ ⟨by omega, by omega⟩ (.inr (by omega))).mono ?_; rintro e w' ⟨rfl, rfl⟩
  go_wp2_with fail
  refine (Write_yes (most x + 1) (x + 1) _ ⟨by omega, by omega⟩ ⟨by omega, by have := Hm.out; omega⟩).mono ?_; rintro e w1 ⟨rfl, hb⟩
  have hp : most x + 1 = ((8 ^ (x.toNat - 1) : Nat) : Int) := by unfold most; simp
  have hpre : hasPre ⟨(D (most x + 1).toNat ((x + 1).toNat - 1) ++ [0]).toArray⟩ ⟨#[49, 48]⟩ = true := by
    rw [hasPre_iff]
    obtain ⟨l, hl⟩ := D_over (x.toNat - 1) (by omega)
    rw [hp, Int.toNat_natCast, show (x + 1).toNat - 1 = x.toNat - 1 + 1 from by omega, hl]
    exact ⟨l ++ [0], rfl⟩
  clear hp
  have hq := Hm.out
  have hsz := field_size (most x + 1).toNat ((x + 1).toNat - 1) (by omega)
  go_wp2_with fail
  refine (HasPrefix_any _ _ _ (by rw [hsz]; unfold maxLen; omega) (by decide)).mono ?_; rintro e w' ⟨rfl, rfl⟩
  go_wp2_with fail
  go_ret
  exact ⟨rfl, hb⟩
end Go.Proofs.Ytfakaglkninbiaa
