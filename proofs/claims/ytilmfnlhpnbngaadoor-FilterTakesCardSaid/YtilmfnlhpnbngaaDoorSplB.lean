/- Contracts of the reference's faults and splitting of paths. -/
import Derived.Test.YtilmfnlhpnbngaaDoorSplA
set_option linter.unusedVariables false
set_option maxRecDepth 100000
namespace Go.Proofs.YtilmfnlhpnbngaaDoor
open Go.RowKit
open Go.OpenShut
theorem nil_of_size {s : ByteArray} (h : s.size < 1) : s.data.toList = [] := by
  have h4 : s.data.toList.length = s.size := by simp
  exact List.eq_nil_of_length_eq_zero (by omega)
theorem ne_of_size {s : ByteArray} (h : 1 ≤ s.size) : s.data.toList ≠ [] := fun e => by
  have h4 : s.data.toList.length = s.size := by simp
  rw [e] at h4; simp at h4; omega
theorem ret_2str {a b a' b' : ByteArray} (h : a = a') (h' : b = b') : Ending.returned (.tuple #[.string a, .string b]) = .returned (.tuple #[.string a', .string b']) := by rw [h, h']
theorem rFault_size (s : ByteArray) (w : World) (hs : s.size ≤ maxLen) (h : s.size < 1 ∨ 400 < s.size) : Calls Tryd.prog 12 #[.string s] w fun e w' => e = .returned (.int .i64 1) ∧ w = w' := by
  unfold maxLen at hs
  rcases h with h | h
  · have e0 : s.toList = [] := toList_nil (nil_of_size h)
    go_enter Tryd.func12, Tryd.ntmps12
    go_wp2_with fail
    go_ret
    exact ⟨rfl, rfl⟩
  · have e0 : s.toList.isEmpty = false := toList_ne (ne_of_size (by omega))
    go_enter Tryd.func12, Tryd.ntmps12
    go_wp2_with fail
    go_ret
    exact ⟨rfl, rfl⟩
theorem rFault_form (s : ByteArray) (w : World) (h1 : 1 ≤ s.size) (h2 : s.size ≤ 400) (h : hasB 0 s.data.toList = true) : Calls Tryd.prog 12 #[.string s] w fun e w' => e = .returned (.int .i64 3) ∧ w = w' := by
  have HB := Lib.hid h
  have e0 : s.toList.isEmpty = false := toList_ne (ne_of_size h1)
  clear h
  go_enter Tryd.func12, Tryd.ntmps12
  go_wp2_with fail
  refine (has_any s 0 0 _ (by unfold maxLen; omega) rfl).mono ?_; rintro e w' ⟨rfl, rfl⟩
  rw [HB.out]
  go_wp2_with fail
  go_ret
  exact ⟨rfl, rfl⟩
theorem nameB_cases (l : List UInt8) : (nameB l = true ∧ l ≠ [] ∧ ¬ l = [46] ∧ ¬ l = [46, 46]) ∨ (nameB l = false ∧ (l = [] ∨ l = [46] ∨ l = [46, 46])) := by
  by_cases h : l = [] ∨ l = [46] ∨ l = [46, 46]
  · exact .inr ⟨nameB_false l h, h⟩
  · have h0 : l ≠ [] := fun e => h (.inl e)
    have h1 : l ≠ [46] := fun e => h (.inr (.inl e))
    have h2 : l ≠ [46, 46] := fun e => h (.inr (.inr e))
    exact .inl ⟨nameB_true l h0 h1 h2, h0, h1, h2⟩
set_option maxHeartbeats 2000000 in
theorem rFault_parts (s : ByteArray) (w : World) (h1 : 1 ≤ s.size) (h2 : s.size ≤ 400) (h : hasB 0 s.data.toList = false) :
    Calls Tryd.prog 12 #[.string s] w fun e w' => e = .returned (.int .i64 (allE (partsL 47 s.data.toList))) ∧ Below w.heap.size w w' := by
  have HB := Lib.hid h
  have e0 : s.toList.isEmpty = false := toList_ne (ne_of_size h1)
  obtain ⟨ls, Hls⟩ := hid_name (partsL 47 s.data.toList)
  have hll : ls.length ≤ 401 := by
    have h3 := partsL_le 47 s.data.toList
    have h4 : s.data.toList.length = s.size := by simp
    rw [Hls.out] at h3; omega
  obtain ⟨n, Hn⟩ := hid_name ls.length
  rw [Hn.out] at hll
  rw [Hls.out]
  clear h
  go_enter Tryd.func12, Tryd.ntmps12
  go_wp2_with fail
  refine (has_any s 0 0 _ (by unfold maxLen; omega) rfl).mono ?_; rintro e w' ⟨rfl, rfl⟩
  rw [HB.out]
  go_wp2_with fail
  refine (parts_any s 47 47 _ (by omega) rfl).mono ?_; rintro e w1 ⟨v, rfl, hT, hB⟩
  rw [Hls.out] at hT
  obtain ⟨A, ca, rfl, hA⟩ := hT.any
  have HA := Lib.hid hA
  have HB1 := Lib.hid hB
  clear hA hT hB e0
  rw [Hn.out]
  go_wp2_with fail
  go_loopw [17] (fun i wr => ∃ k m : Nat, i = .int .i64 k ∧ k ≤ n ∧ Hid ((ls.take k).all nameB = true) ∧ Hid (wr = w1.drewN m)) (fun i _ => n - (intOf i).toNat)
  case atStart => exact ⟨0, 0, rfl, Nat.zero_le _, rfl, rfl⟩
  case round =>
    obtain ⟨k, m, rfl, hk, HE, HW⟩ := hrel
    by_cases hlt : k < n
    · obtain ⟨g, rfl, _, _, hc⟩ := HA.out k (by rw [Hn.out]; exact hlt)
      have hc' : wr.cell? ⟨g, k, none⟩ = some (strV (ls.getD k [])) := by rw [HW.out]; exact hc
      clear hc
      unfold strV at hc'
      obtain ⟨sx, Hsx⟩ := hid_name (⟨(ls.getD k []).toArray⟩ : ByteArray)
      rw [Hsx.out] at hc'
      have Hx : Hid (sx.data.toList = ls.getD k []) := by unfold Hid; rw [← Hsx.out]
      rcases nameB_cases sx.data.toList with ⟨hn, f0, f1, f2⟩ | ⟨hn, hf⟩
      · have HR := Lib.hid (all_take_snoc ls nameB k (by rw [Hn.out]; exact hlt) HE.out (by rw [← Hx.out]; exact hn))
        have g0 := toList_ne f0
        rw [← eq_const] at f1 f2
        have d1 : (sx.toList == [46]) = false := by simpa using f1
        have d2 : (sx.toList == [46, 46]) = false := by simpa using f2
        clear hn f0
        go_wp2_with fail
        go_roundw
        case rel => exact ⟨k + 1, m, by go_num, by omega, HR, HW⟩
        case measure => simp [intOf]; omega
      · have HR := Lib.hid (allE_no (all_take_no ls nameB k (by rw [Hn.out]; exact hlt) (by rw [← Hx.out]; exact hn)))
        clear hn
        rcases hf with hf | hf | hf
        · have g0 := toList_nil hf
          clear hf
          go_wp2_with fail
          go_ret
          exact ⟨ret_int HR.out.symm, by rw [HW.out]; exact drewN_below HB1.out _⟩
        · rw [← eq_const] at hf
          go_wp2_with fail
          go_ret
          exact ⟨ret_int HR.out.symm, by rw [HW.out]; exact drewN_below HB1.out _⟩
        · rw [← eq_const] at hf
          go_wp2_with fail
          go_ret
          exact ⟨ret_int HR.out.symm, by rw [HW.out]; exact drewN_below HB1.out _⟩
    · obtain rfl : k = n := by omega
      have HR : Hid (allE ls = 0) := by have := HE.out; rw [← Hn.out, List.take_length] at this; exact allE_yes this
      go_wp2_with fail
      go_ret
      exact ⟨ret_int HR.out.symm, by rw [HW.out]; exact drewN_below HB1.out _⟩
theorem rFault_any (s : ByteArray) (w : World) (hs : s.size ≤ maxLen) : Calls Tryd.prog 12 #[.string s] w fun e w' => e = .returned (.int .i64 (pathE s.data.toList)) ∧ Below w.heap.size w w' := by
  have hl : s.data.toList.length = s.size := by simp
  by_cases h : s.data.toList.length < 1 ∨ 400 < s.data.toList.length
  · rw [pathE_size h]; rw [hl] at h
    exact (rFault_size s w hs h).mono fun e w' ⟨a, b⟩ => ⟨a, b ▸ Below.refl _ _⟩
  · cases h2 : hasB 0 s.data.toList
    · have hc := rFault_parts s w (by omega) (by omega) h2
      cases h3 : (partsL 47 s.data.toList).all nameB
      · rw [pathE_no h h2 h3]; rw [allE_no h3] at hc; exact hc
      · rw [pathE_ok h h2 h3]; rw [allE_yes h3] at hc; exact hc
    · rw [pathE_form h h2]
      exact (rFault_form s w (by omega) (by omega) h2).mono fun e w' ⟨a, b⟩ => ⟨a, b ▸ Below.refl _ _⟩
end Go.Proofs.YtilmfnlhpnbngaaDoor
