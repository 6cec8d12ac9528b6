/- Package record: the check, the text of a record; the reference's. -/
import Derived.Test.YtilofjaigpngoaaDoorRecM
import Derived.Test.YtilofjaigpngoaaDoorBlk
import Derived.Test.YtilofjaigpngoaaDoorAny
import Derived.Test.YtilofjaigpngoaaDoorFldB
import Derived.Test.YtilofjaigpngoaaDoorFldD
import Derived.Test.YtilofjaigpngoaaDoorStpC
import Derived.Deep.DeepCutAuto
set_option linter.unusedVariables false
set_option maxRecDepth 100000
namespace Go.Proofs.YtilofjaigpngoaaDoor
open Go.RowKit
open Go.OpenShut
theorem ascii_two : asciiL (⟨#[61, 10]⟩ : ByteArray).data.toList := by
  intro j b hb
  match j, hb with
  | 0, hb => cases hb; decide
  | 1, hb => cases hb; decide
  | j + 2, hb => simp at hb
theorem str_none {k : ByteArray} (h : k.size = 0) : k = ⟨#[]⟩ := by
  apply ByteArray.ext; apply Array.toList_inj.1
  have := size_list k
  rw [h] at this
  exact List.eq_nil_of_length_eq_zero this
theorem str_some {k : ByteArray} (h : k.size ≠ 0) : k.toList.isEmpty = false := by
  rw [Lib.toList_data]
  cases e : k.data.toList with
  | nil => have := size_list k; rw [e] at this; exact absurd this.symm h
  | cons _ _ => rfl
/-- a record's value -/
def recV (k v : ByteArray) : Value := .agg #[.string k, .string v]
theorem keyAny (k : ByteArray) (w : World) (hk : k.size ≤ 60) : Calls Tryd.prog 34 #[.string k, .string ⟨#[61, 10]⟩] w fun e w' => e = .returned (.bool (hasB 61 k.data.toList || hasB 10 k.data.toList)) ∧ Below w.heap.size w w' := by
  have h := ContainsAny_any k ⟨#[61, 10]⟩ w (by decide) (by decide) (by omega) ascii_two
  rw [show (⟨#[61, 10]⟩ : ByteArray).data.toList = [61, 10] from rfl, indexAny_two] at h
  exact h
set_option maxHeartbeats 1000000 in
theorem rCheck_any (k v : ByteArray) (w : World) (hk : k.size ≤ maxLen) (hv : v.size ≤ maxLen) :
    Calls Tryd.prog 21 #[recV k v] w fun e w' => e = .returned (.int .i64 (chkR k.data.toList v.data.toList)) ∧ Below w.heap.size w w' := by
  unfold maxLen at hk hv
  unfold recV
  by_cases h0 : k.size = 0
  · obtain rfl := str_none h0
    have HX := Lib.hid (show (1 : Int) = chkR (⟨#[]⟩ : ByteArray).data.toList v.data.toList from (chkR_size (.inl rfl)).symm)
    clear h0
    rw [← HX.out]
    go_enter Tryd.func21, Tryd.ntmps21
    go_wp2_with fail
    go_ret
    exact ⟨rfl, (Below.refl _ _).alloc (Nat.le_refl _) _⟩
  · have hemp := str_some h0
    by_cases h1 : 60 < k.size
    · have HX := Lib.hid (show (1 : Int) = chkR k.data.toList v.data.toList from (chkR_size (.inr (.inl (by rw [size_list]; exact h1)))).symm)
      clear h0
      rw [← HX.out]
      go_enter Tryd.func21, Tryd.ntmps21
      go_wp2_with fail
      go_ret
      exact ⟨rfl, (Below.refl _ _).alloc (Nat.le_refl _) _⟩
    · by_cases h2 : 500 < v.size
      · have HX := Lib.hid (show (1 : Int) = chkR k.data.toList v.data.toList from (chkR_size (.inr (.inr (by rw [size_list]; exact h2)))).symm)
        clear h0
        rw [← HX.out]
        go_enter Tryd.func21, Tryd.ntmps21
        go_wp2_with fail
        go_ret
        exact ⟨rfl, (Below.refl _ _).alloc (Nat.le_refl _) _⟩
      · have hn : ¬ (k.data.toList.length = 0 ∨ 60 < k.data.toList.length ∨ 500 < v.data.toList.length) := by rw [size_list, size_list]; omega
        have HI := Lib.hid fun W => keyAny k W (by omega)
        have HZ := Lib.hid fun W => IndexByte_any v 0 W
        have hk60 : k.size ≤ 60 := by omega
        have hv500 : v.size ≤ 500 := by omega
        clear h0
        cases hc : (hasB 61 k.data.toList || hasB 10 k.data.toList)
        · rw [hc] at HI
          rw [Bool.or_eq_false_iff] at hc
          cases hz : hasB 0 v.data.toList
          · have HX := Lib.hid (show (0 : Int) = chkR k.data.toList v.data.toList from (chkR_ok hn (by rw [hc.1, hc.2, hz]; simp)).symm)
            have HN := Lib.hid fun W => IndexByte_no v W hz
            rw [← HX.out]
            clear hc hz hn
            go_enter Tryd.func21, Tryd.ntmps21
            go_wp2_with fail
            refine (HI.out _).mono ?_; rintro e w1 ⟨rfl, hb1⟩
            obtain ⟨⟨c0, c1⟩, -⟩ := blk2 (Blk.below (Blk.new w 35 #[.string k, .string v]) hb1 (by simp))
            have HB := Lib.hid (((Below.refl w.heap.size w).alloc (Nat.le_refl _) _).trans (hb1.mono (by simp)))
            clear hb1
            go_wp2_with fail
            refine (HN.out _).mono ?_; rintro e w2 ⟨rfl, rfl⟩
            go_wp2_with fail
            go_ret
            exact ⟨rfl, HB.out⟩
          · have HX := Lib.hid (show (3 : Int) = chkR k.data.toList v.data.toList from (chkR_form hn (.inr (.inr hz))).symm)
            have HN := Lib.hid fun W => IndexByte_yes v W hz
            rw [← HX.out]
            clear hc hz hn
            go_enter Tryd.func21, Tryd.ntmps21
            go_wp2_with fail
            refine (HI.out _).mono ?_; rintro e w1 ⟨rfl, hb1⟩
            obtain ⟨⟨c0, c1⟩, -⟩ := blk2 (Blk.below (Blk.new w 35 #[.string k, .string v]) hb1 (by simp))
            have HB := Lib.hid (((Below.refl w.heap.size w).alloc (Nat.le_refl _) _).trans (hb1.mono (by simp)))
            clear hb1
            go_wp2_with fail
            refine (HN.out _).mono ?_; rintro e w2 ⟨rfl, rfl⟩
            go_wp2_with fail
            go_ret
            exact ⟨rfl, HB.out⟩
        · rw [hc] at HI
          have HX := Lib.hid (show (3 : Int) = chkR k.data.toList v.data.toList from (chkR_form hn (by rw [Bool.or_eq_true] at hc; rcases hc with h | h; exact .inl h; exact .inr (.inl h))).symm)
          rw [← HX.out]
          clear hc hn
          go_enter Tryd.func21, Tryd.ntmps21
          go_wp2_with fail
          refine (HI.out _).mono ?_; rintro e w1 ⟨rfl, hb1⟩
          have HB := Lib.hid (((Below.refl w.heap.size w).alloc (Nat.le_refl _) _).trans (hb1.mono (by simp)))
          clear hb1
          go_wp2_with fail
          go_ret
          exact ⟨rfl, HB.out⟩
set_option maxHeartbeats 1000000 in
theorem rRecFault_any (k v : ByteArray) (w : World) (hk : k.size ≤ maxLen) (hv : v.size ≤ maxLen) :
    Calls Tryd.prog 24 #[recV k v] w fun e w' => e = .returned (.int .i64 (chkR k.data.toList v.data.toList)) ∧ Below w.heap.size w w' := by
  have H61 := Lib.hid fun W => has_any k 61 61 W hk rfl
  have H10 := Lib.hid fun W => has_any k 10 10 W hk rfl
  have H0 := Lib.hid fun W => has_any v 0 0 W hv rfl
  unfold maxLen at hk hv
  unfold recV
  by_cases h0 : k.size = 0
  · obtain rfl := str_none h0
    have HX := Lib.hid (show (1 : Int) = chkR (⟨#[]⟩ : ByteArray).data.toList v.data.toList from (chkR_size (.inl rfl)).symm)
    clear h0
    rw [← HX.out]
    go_enter Tryd.func24, Tryd.ntmps24
    go_wp2_with fail
    go_ret
    exact ⟨rfl, (Below.refl _ _).alloc (Nat.le_refl _) _⟩
  · have hemp := str_some h0
    by_cases h1 : 60 < k.size
    · have HX := Lib.hid (show (1 : Int) = chkR k.data.toList v.data.toList from (chkR_size (.inr (.inl (by rw [size_list]; exact h1)))).symm)
      clear h0
      rw [← HX.out]
      go_enter Tryd.func24, Tryd.ntmps24
      go_wp2_with fail
      go_ret
      exact ⟨rfl, (Below.refl _ _).alloc (Nat.le_refl _) _⟩
    · by_cases h2 : 500 < v.size
      · have HX := Lib.hid (show (1 : Int) = chkR k.data.toList v.data.toList from (chkR_size (.inr (.inr (by rw [size_list]; exact h2)))).symm)
        clear h0
        rw [← HX.out]
        go_enter Tryd.func24, Tryd.ntmps24
        go_wp2_with fail
        go_ret
        exact ⟨rfl, (Below.refl _ _).alloc (Nat.le_refl _) _⟩
      · have hn : ¬ (k.data.toList.length = 0 ∨ 60 < k.data.toList.length ∨ 500 < v.data.toList.length) := by rw [size_list, size_list]; omega
        clear h0
        cases hc : hasB 61 k.data.toList
        · rw [hc] at H61
          cases hd : hasB 10 k.data.toList
          · rw [hd] at H10
            cases hz : hasB 0 v.data.toList
            · rw [hz] at H0
              have HX := Lib.hid (show (0 : Int) = chkR k.data.toList v.data.toList from (chkR_ok hn (by rw [hc, hd, hz]; simp)).symm)
              rw [← HX.out]
              clear hc hz hd hn
              go_enter Tryd.func24, Tryd.ntmps24
              go_wp2_with fail
              refine (H61.out _).mono ?_; rintro e w1 ⟨rfl, rfl⟩
              go_wp2_with fail
              refine (H10.out _).mono ?_; rintro e w1 ⟨rfl, rfl⟩
              go_wp2_with fail
              refine (H0.out _).mono ?_; rintro e w1 ⟨rfl, rfl⟩
              go_wp2_with fail
              go_ret
              exact ⟨rfl, (Below.refl _ _).alloc (Nat.le_refl _) _⟩
            · rw [hz] at H0
              have HX := Lib.hid (show (3 : Int) = chkR k.data.toList v.data.toList from (chkR_form hn (.inr (.inr hz))).symm)
              rw [← HX.out]
              clear hc hz hd hn
              go_enter Tryd.func24, Tryd.ntmps24
              go_wp2_with fail
              refine (H61.out _).mono ?_; rintro e w1 ⟨rfl, rfl⟩
              go_wp2_with fail
              refine (H10.out _).mono ?_; rintro e w1 ⟨rfl, rfl⟩
              go_wp2_with fail
              refine (H0.out _).mono ?_; rintro e w1 ⟨rfl, rfl⟩
              go_wp2_with fail
              go_ret
              exact ⟨rfl, (Below.refl _ _).alloc (Nat.le_refl _) _⟩
          · rw [hd] at H10
            have HX := Lib.hid (show (3 : Int) = chkR k.data.toList v.data.toList from (chkR_form hn (.inr (.inl hd))).symm)
            rw [← HX.out]
            clear hc hd hn
            go_enter Tryd.func24, Tryd.ntmps24
            go_wp2_with fail
            refine (H61.out _).mono ?_; rintro e w1 ⟨rfl, rfl⟩
            go_wp2_with fail
            refine (H10.out _).mono ?_; rintro e w1 ⟨rfl, rfl⟩
            go_wp2_with fail
            go_ret
            exact ⟨rfl, (Below.refl _ _).alloc (Nat.le_refl _) _⟩
        · rw [hc] at H61
          have HX := Lib.hid (show (3 : Int) = chkR k.data.toList v.data.toList from (chkR_form hn (.inl hc)).symm)
          rw [← HX.out]
          clear hc hn
          go_enter Tryd.func24, Tryd.ntmps24
          go_wp2_with fail
          refine (H61.out _).mono ?_; rintro e w1 ⟨rfl, rfl⟩
          go_wp2_with fail
          go_ret
          exact ⟨rfl, (Below.refl _ _).alloc (Nat.le_refl _) _⟩
end Go.Proofs.YtilofjaigpngoaaDoor
