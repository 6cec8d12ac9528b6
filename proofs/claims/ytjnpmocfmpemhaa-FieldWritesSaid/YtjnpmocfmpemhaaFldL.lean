/- The laws of string fields. -/
import Derived.Test.YtjnpmocfmpemhaaFldC
import Derived.Test.YtjnpmocfmpemhaaFldD
import Derived.Test.YtjnpmocfmpemhaaOctA
import Derived.Test.YtjnpmocfmpemhaaStr
set_option linter.unusedVariables false
namespace Go.Proofs.Ytjnpmocfmpemhaa
open Go.RowKit
open Go.OpenShut
set_option maxHeartbeats 400000 in
theorem FieldWrites_walk (a0 : ByteArray) (a1 : Int) (a2 : Bool) (w0 : a0.size ≤ maxLen) (_w1 : (Lit.int .i64 a1).wf = true) (w : World) :
    Calls Try.prog 3 #[.string a0, .int .i64 a1, .bool a2] w fun e w' => e = .returned (.bool true) ∧ Below w.heap.size w w' := by
  go_enter Try.func3, Try.ntmps3
  go_wp2_with fail
  refine (fWrite_any _ _ _ _ w0).mono ?_; rintro e w1 ⟨rfl, hb⟩
  go_wp2_with fail
  refine (frText_any _ _ _ _ w0).mono ?_; rintro e w' ⟨rfl, rfl⟩
  go_wp2_with fail
  go_ret
  exact ⟨rfl, hb⟩
set_option maxHeartbeats 400000 in
theorem FieldReads_walk (a0 : ByteArray) (a1 : Bool) (w0 : a0.size ≤ maxLen) (w : World) :
    Calls Try.prog 4 #[.string a0, .bool a1] w fun e w' => e = .returned (.bool true) ∧ Below w.heap.size w w' := by
  go_enter Try.func4, Try.ntmps4
  go_wp2_with fail
  refine (fRead_any _ _ _ w0).mono ?_; rintro e w1 ⟨rfl, hb⟩
  go_wp2_with fail
  refine (frOf_any _ _ _ w0).mono ?_; rintro e w2 ⟨rfl, hb2⟩
  go_wp2_with fail
  go_ret
  exact ⟨rfl, hb.trans (hb2.mono hb.size)⟩
theorem xs_pos (n : Nat) : hasB 0 (List.replicate n (120 : UInt8)) = false := by
  unfold hasB
  rw [← Bool.not_eq_true, List.any_eq_true]
  rintro ⟨b, hb, e⟩
  rw [(List.mem_replicate.1 hb).2] at e; exact absurd e (by decide)
theorem pos_all (c : UInt8) (l : List UInt8) (h : hasB c l = false) : pos c l = l.length := by
  rw [hasB_pos] at h
  have h1 := of_decide_eq_false h
  have h2 := pos_le c l
  omega
set_option maxHeartbeats 400000 in
theorem FieldWhole_walk (a0 : Int) (w0 : (Lit.int .i64 a0).wf = true) (w : World) :
    Calls Try.prog 5 #[.int .i64 a0] w fun e w' => e = .returned (.bool true) ∧ Below w.heap.size w w' := by
  go_enter Try.func5, Try.ntmps5
  go_wp2_with fail
  refine (picked_any _ _ _ w0 (by omega)).mono ?_; rintro e w' ⟨rfl, rfl⟩
  obtain ⟨p1, p2⟩ := pick_bd a0 512 (by omega)
  generalize pick a0 512 = y at *
  obtain ⟨n, Hx⟩ : ∃ n : Nat, Hid (1 + y = n) := ⟨(1 + y).toNat, show _ = _ by omega⟩
  have x1 : 1 ≤ n := by have := Hx.out; omega
  have x2 : n ≤ 512 := by have := Hx.out; omega
  go_wp2_with fail
  rw [show 1 + y = (n : Int) from Hx.out]
  clear p1 p2
  refine (Try.strings_Repeat ⟨#[120]⟩ n _ (by omega) (by show 1 * n ≤ _; omega)).mono ?_; rintro e w1 ⟨rfl, hb1⟩
  obtain ⟨s, Hs⟩ := hid_name (⟨(Lib.repeatL (⟨#[120]⟩ : ByteArray).data.toList n).toArray⟩ : ByteArray)
  rw [Hs.out]
  have hl : Hid (s.data.toList = List.replicate n 120) := by
    unfold Hid; rw [← Hs.out]
    have := Lib.repeatL_replicate 120 1 n
    rw [Nat.mul_one] at this; exact this
  have hsz : s.size = n := by
    have : s.data.toList.length = s.size := by simp
    rw [hl.out, List.length_replicate] at this; exact this.symm
  have hs1 : s.size ≤ n := by omega
  have hs2 : n ≤ s.size := by omega
  have hm : s.size ≤ maxLen := by unfold maxLen; omega
  clear hsz
  have e1 : Hid (fldW s.data.toList n true = (s, 0)) := by
    unfold Hid; rw [fldW_ok (by omega) (by rw [hl.out]; simp) (by rw [hl.out]; exact xs_pos n), hl.out]; simp
    apply ByteArray.ext; apply Array.toList_inj.1; rw [hl.out]; simp
  have e2 : Hid (fldW s.data.toList n false = (⟨#[]⟩, 1)) := by
    unfold Hid; exact fldW_size (by omega) (.inr ⟨rfl, by rw [hl.out]; simp⟩)
  have hp : Hid (pos 0 s.data.toList = s.data.toList.length) := by unfold Hid; rw [pos_all]; rw [hl.out]; exact xs_pos n
  have e3 : Hid (fldR s.data.toList true = (s, 0)) := by
    unfold Hid; rw [fldR_ok (by rw [hl.out]; simp; omega) (by simp) (by rw [hp.out, List.drop_length]; rfl), hp.out, List.take_length]
  have e4 : Hid (fldR s.data.toList false = (⟨#[]⟩, 3)) := by
    unfold Hid; exact fldR_form (by rw [hl.out]; simp; omega) (.inl ⟨rfl, hp.out⟩)
  go_wp2_with fail
  refine (fWrite_any _ _ _ _ hm).mono ?_; rintro e w2 ⟨rfl, hb2⟩
  rw [e1.out]
  go_wp2_with fail
  refine (fWrite_any _ _ _ _ hm).mono ?_; rintro e w3 ⟨rfl, hb3⟩
  rw [e2.out]
  go_wp2_with fail
  refine (fRead_any _ _ _ hm).mono ?_; rintro e w4 ⟨rfl, hb4⟩
  rw [e3.out]
  go_wp2_with fail
  refine (fRead_any _ _ _ hm).mono ?_; rintro e w5 ⟨rfl, hb5⟩
  rw [e4.out]
  go_wp2_with fail
  go_ret
  have h2 := hb1.trans (hb2.mono hb1.size)
  have h3 := h2.trans (hb3.mono h2.size)
  have h4 := h3.trans (hb4.mono h3.size)
  exact ⟨rfl, h4.trans (hb5.mono h4.size)⟩
end Go.Proofs.Ytjnpmocfmpemhaa
