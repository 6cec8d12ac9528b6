/- The laws of the comparing of paths. -/
import Derived.Test.YtjnbplilkcbioaaPthA
import Derived.WalkSmall
import Derived.Below
set_option linter.unusedVariables false
namespace Go.Proofs.Ytjnbplilkcbioaa
open Go.RowKit
open Go.OpenShut
theorem drewN_below {B : Nat} {a w : World} (h : Below B a w) (n : Nat) : Below B a (w.drewN n) := ⟨h.os, h.tape, h.output, h.size, h.block⟩
theorem cmp_ab : pcmp (⟨#[97]⟩ : ByteArray).data.toList (⟨#[98]⟩ : ByteArray).data.toList = -1 := by decide
theorem three {x : Int} (h : -1 ≤ x ∧ x ≤ 1) : x = -1 ∨ x = 0 ∨ x = 1 := by omega
set_option maxHeartbeats 400000 in
theorem Orderly_at (a b c : ByteArray) (w : World) (ha : a.size ≤ maxLen) (hb : b.size ≤ maxLen) (hc : c.size ≤ maxLen) (X Y Z V : Int)
    (HX : Hid (pcmp a.data.toList b.data.toList = X)) (HY : Hid (pcmp b.data.toList a.data.toList = Y)) (HZ : Hid (pcmp b.data.toList c.data.toList = Z)) (HV : Hid (pcmp a.data.toList c.data.toList = V))
    (he : (a.toList == b.toList) = (X == 0)) (hX : X = -1 ∧ Y = 1 ∨ X = 0 ∧ Y = 0 ∨ X = 1 ∧ Y = -1) (hZ : 0 < X ∨ 0 < Z ∨ V ≤ 0) :
    Calls Try.prog 4 #[.string a, .string b, .string c] w fun e w' => e = .returned (.bool true) ∧ Below w.heap.size w w' := by
  have hk : ∀ X Y : Int, (X = -1 ∧ Y = 1 ∨ X = 0 ∧ Y = 0 ∨ X = 1 ∧ Y = -1) → (X != -Y) = false := by
    rintro X Y (⟨rfl, rfl⟩ | ⟨rfl, rfl⟩ | ⟨rfl, rfl⟩) <;> rfl
  clear hk
  rcases hX with ⟨rfl, rfl⟩ | ⟨rfl, rfl⟩ | ⟨rfl, rfl⟩
  · rw [show ((-1 : Int) == 0) = false from rfl] at he
    by_cases hz : 0 < Z
    · clear hZ
      go_enter Try.func4, Try.ntmps4
      go_wp2_with fail
      refine (Compare_any _ _ _ ha hb).mono ?_; rintro e w' ⟨rfl, n1, rfl⟩; rw [HX.out]
      go_wp2_with fail
      refine (Compare_any _ _ _ hb ha).mono ?_; rintro e w' ⟨rfl, n2, rfl⟩; rw [HY.out]
      go_wp2_with fail
      refine (Compare_any _ _ _ hb hc).mono ?_; rintro e w' ⟨rfl, n3, rfl⟩; rw [HZ.out]
      go_wp2_with fail
      refine (Compare_any _ _ _ (by decide) (by decide)).mono ?_; rintro e w' ⟨rfl, n4, rfl⟩; rw [cmp_ab]
      go_wp2_with fail
      refine (Compare_any _ _ _ ha ha).mono ?_; rintro e w' ⟨rfl, n5, rfl⟩; rw [pcmp_self]
      go_wp2_with fail
      go_ret
      exact ⟨rfl, drewN_below (Below.refl _ _) _⟩
    · have hv : V ≤ 0 := by omega
      clear hZ
      go_enter Try.func4, Try.ntmps4
      go_wp2_with fail
      refine (Compare_any _ _ _ ha hb).mono ?_; rintro e w' ⟨rfl, n1, rfl⟩; rw [HX.out]
      go_wp2_with fail
      refine (Compare_any _ _ _ hb ha).mono ?_; rintro e w' ⟨rfl, n2, rfl⟩; rw [HY.out]
      go_wp2_with fail
      refine (Compare_any _ _ _ hb hc).mono ?_; rintro e w' ⟨rfl, n3, rfl⟩; rw [HZ.out]
      go_wp2_with fail
      refine (Compare_any _ _ _ (by decide) (by decide)).mono ?_; rintro e w' ⟨rfl, n4, rfl⟩; rw [cmp_ab]
      go_wp2_with fail
      refine (Compare_any _ _ _ ha ha).mono ?_; rintro e w' ⟨rfl, n5, rfl⟩; rw [pcmp_self]
      go_wp2_with fail
      refine (Compare_any _ _ _ ha hc).mono ?_; rintro e w' ⟨rfl, n6, rfl⟩; rw [HV.out]
      go_wp2_with fail
      go_ret
      exact ⟨rfl, drewN_below (Below.refl _ _) _⟩
  · rw [show ((0 : Int) == 0) = true from rfl] at he
    by_cases hz : 0 < Z
    · clear hZ
      go_enter Try.func4, Try.ntmps4
      go_wp2_with fail
      refine (Compare_any _ _ _ ha hb).mono ?_; rintro e w' ⟨rfl, n1, rfl⟩; rw [HX.out]
      go_wp2_with fail
      refine (Compare_any _ _ _ hb ha).mono ?_; rintro e w' ⟨rfl, n2, rfl⟩; rw [HY.out]
      go_wp2_with fail
      refine (Compare_any _ _ _ hb hc).mono ?_; rintro e w' ⟨rfl, n3, rfl⟩; rw [HZ.out]
      go_wp2_with fail
      refine (Compare_any _ _ _ (by decide) (by decide)).mono ?_; rintro e w' ⟨rfl, n4, rfl⟩; rw [cmp_ab]
      go_wp2_with fail
      refine (Compare_any _ _ _ ha ha).mono ?_; rintro e w' ⟨rfl, n5, rfl⟩; rw [pcmp_self]
      go_wp2_with fail
      go_ret
      exact ⟨rfl, drewN_below (Below.refl _ _) _⟩
    · have hv : V ≤ 0 := by omega
      clear hZ
      go_enter Try.func4, Try.ntmps4
      go_wp2_with fail
      refine (Compare_any _ _ _ ha hb).mono ?_; rintro e w' ⟨rfl, n1, rfl⟩; rw [HX.out]
      go_wp2_with fail
      refine (Compare_any _ _ _ hb ha).mono ?_; rintro e w' ⟨rfl, n2, rfl⟩; rw [HY.out]
      go_wp2_with fail
      refine (Compare_any _ _ _ hb hc).mono ?_; rintro e w' ⟨rfl, n3, rfl⟩; rw [HZ.out]
      go_wp2_with fail
      refine (Compare_any _ _ _ (by decide) (by decide)).mono ?_; rintro e w' ⟨rfl, n4, rfl⟩; rw [cmp_ab]
      go_wp2_with fail
      refine (Compare_any _ _ _ ha ha).mono ?_; rintro e w' ⟨rfl, n5, rfl⟩; rw [pcmp_self]
      go_wp2_with fail
      refine (Compare_any _ _ _ ha hc).mono ?_; rintro e w' ⟨rfl, n6, rfl⟩; rw [HV.out]
      go_wp2_with fail
      go_ret
      exact ⟨rfl, drewN_below (Below.refl _ _) _⟩
  · rw [show ((1 : Int) == 0) = false from rfl] at he
    clear hZ
    go_enter Try.func4, Try.ntmps4
    go_wp2_with fail
    refine (Compare_any _ _ _ ha hb).mono ?_; rintro e w' ⟨rfl, n1, rfl⟩; rw [HX.out]
    go_wp2_with fail
    refine (Compare_any _ _ _ hb ha).mono ?_; rintro e w' ⟨rfl, n2, rfl⟩; rw [HY.out]
    go_wp2_with fail
    refine (Compare_any _ _ _ hb hc).mono ?_; rintro e w' ⟨rfl, n3, rfl⟩; rw [HZ.out]
    go_wp2_with fail
    refine (Compare_any _ _ _ (by decide) (by decide)).mono ?_; rintro e w' ⟨rfl, n4, rfl⟩; rw [cmp_ab]
    go_wp2_with fail
    refine (Compare_any _ _ _ ha ha).mono ?_; rintro e w' ⟨rfl, n5, rfl⟩; rw [pcmp_self]
    go_wp2_with fail
    go_ret
    exact ⟨rfl, drewN_below (Below.refl _ _) _⟩
theorem PathOrderly_walk (a0 a1 a2 : ByteArray) (w0 : a0.size ≤ maxLen) (w1 : a1.size ≤ maxLen) (w2 : a2.size ≤ maxLen) (w : World) :
    Calls Try.prog 4 #[.string a0, .string a1, .string a2] w fun e w' => e = .returned (.bool true) ∧ Below w.heap.size w w' := by
  have hn := pcmp_neg a0.data.toList a1.data.toList
  have hb := three (pcmp_bd a0.data.toList a1.data.toList)
  have hz := pcmp_zero a0.data.toList a1.data.toList
  have ht := pcmp_trans a0.data.toList a1.data.toList a2.data.toList
  refine Orderly_at a0 a1 a2 w w0 w1 w2 _ _ _ _ rfl rfl rfl rfl ?_ ?_ ?_
  · rw [str_eqL, Bool.eq_iff_iff, decide_eq_true_eq, beq_iff_eq]; exact hz.symm
  · omega
  · omega
theorem inB_yes {s d t : List UInt8} (h : d ≠ []) (e : s = d ++ 47 :: t) : inB s d = true := by
  rw [inB_ne h, decide_eq_true_eq, e]; exact ⟨t, by simp⟩
theorem inB_no {s d : List UInt8} (h : s.length ≤ d.length) (hd : d = [] → s = []) : inB s d = false := by
  unfold inB
  by_cases h0 : d = []
  · rw [if_pos h0, hd h0]; rfl
  · rw [if_neg h0, decide_eq_false_iff_not]
    intro e
    have := e.length_le
    simp at this; omega
/-- with an empty name of the directory all that is not empty is in it -/
theorem inB_slash {s d t : List UInt8} (e : s = d ++ 47 :: t) : inB s d = true := by
  by_cases h : d = []
  · subst h; subst e; rfl
  · exact inB_yes h e
theorem app_list (a b : ByteArray) : (a ++ b).data.toList = a.data.toList ++ b.data.toList := by simp [ByteArray.data_append]
set_option maxHeartbeats 400000 in
theorem PathInside_walk (a0 a1 a2 : ByteArray) (w0 : a0.size ≤ maxLen) (w1 : a1.size ≤ maxLen) (w2 : a2.size ≤ maxLen) (r0 : a0.size ≤ 140737488351232) (r1 : a1.size ≤ 140737488351232) (r2 : a2.size ≤ 140737488351232) (w : World) :
    Calls Try.prog 5 #[.string a0, .string a1, .string a2] w fun e w' => e = .returned (.bool true) ∧ Below w.heap.size w w' := by
  go_enter Try.func5, Try.ntmps5
  go_wp2_with fail
  refine (In_any _ _ _ (by decide) (by decide)).mono ?_; rintro e w' ⟨rfl, rfl⟩
  rw [show inB (⟨#[97, 47, 98, 47, 99]⟩ : ByteArray).data.toList (⟨#[97]⟩ : ByteArray).data.toList = true by decide]
  go_wp2_with fail
  refine (In_any _ _ _ (by decide) (by decide)).mono ?_; rintro e w' ⟨rfl, rfl⟩
  rw [show inB (⟨#[97, 98]⟩ : ByteArray).data.toList (⟨#[97]⟩ : ByteArray).data.toList = false by decide]
  go_wp2_with fail
  refine (In_any _ _ _ w0 w0).mono ?_; rintro e w' ⟨rfl, rfl⟩
  rw [inB_no (Nat.le_refl _) id]
  go_wp2_with fail
  obtain ⟨s, Hs⟩ := hid_name (a0 ++ ⟨#[47]⟩ ++ a1 ++ ⟨#[47]⟩ ++ a2)
  obtain ⟨t, Ht⟩ := hid_name (a0 ++ ⟨#[47]⟩ ++ a1)
  have hsz : s.size ≤ maxLen := by rw [← Hs.out]; simp only [ByteArray.size_append]; unfold maxLen; show _ + 1 + _ + 1 + _ ≤ _; omega
  have htz : t.size ≤ maxLen := by rw [← Ht.out]; simp only [ByteArray.size_append]; unfold maxLen; show _ + 1 + _ ≤ _; omega
  have f1 : Hid (inB s.data.toList a0.data.toList = true) := inB_slash (t := a1.data.toList ++ 47 :: a2.data.toList) (by rw [← Hs.out]; simp [app_list])
  have f2 : Hid (inB s.data.toList t.data.toList = true) := inB_slash (t := a2.data.toList) (by rw [← Hs.out, ← Ht.out]; simp [app_list])
  have f3 : Hid (inB t.data.toList a0.data.toList = true) := inB_slash (t := a1.data.toList) (by rw [← Ht.out]; simp [app_list])
  have f4 : Hid (inB a0.data.toList s.data.toList = false) := inB_no (by rw [← Hs.out]; simp [app_list]) (fun e => by rw [← Hs.out] at e; simp [app_list] at e)
  rw [Hs.out]
  refine (In_any _ _ _ hsz w0).mono ?_; rintro e w' ⟨rfl, rfl⟩
  rw [f1.out]
  go_wp2_with fail
  rw [Ht.out]
  refine (In_any _ _ _ hsz htz).mono ?_; rintro e w' ⟨rfl, rfl⟩
  rw [f2.out]
  go_wp2_with fail
  rw [Ht.out]
  refine (In_any _ _ _ htz w0).mono ?_; rintro e w' ⟨rfl, rfl⟩
  rw [f3.out]
  go_wp2_with fail
  refine (In_any _ _ _ w0 hsz).mono ?_; rintro e w' ⟨rfl, rfl⟩
  rw [f4.out]
  go_wp2_with fail
  go_ret
  exact ⟨rfl, Below.refl _ _⟩
end Go.Proofs.Ytjnbplilkcbioaa
