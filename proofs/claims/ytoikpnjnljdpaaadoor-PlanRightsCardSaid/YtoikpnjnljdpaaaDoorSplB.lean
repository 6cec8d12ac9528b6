/- Contracts of the reference's faults and splitting of paths. -/
import Derived.Test.YtoikpnjnljdpaaaDoorSplA
set_option linter.unusedVariables false
set_option maxRecDepth 100000
namespace Go.Proofs.YtoikpnjnljdpaaaDoor
open Go.RowKit
open Go.OpenShut
theorem nil_of_size {s : ByteArray} (h : s.size < 1) : s.data.toList = [] := by
  have h4 : s.data.toList.length = s.size := by simp
  exact List.eq_nil_of_length_eq_zero (by omega)
theorem ne_of_size {s : ByteArray} (h : 1 ≤ s.size) : s.data.toList ≠ [] := fun e => by
  have h4 : s.data.toList.length = s.size := by simp
  rw [e] at h4; simp at h4; omega
theorem ret_2str {a b a' b' : ByteArray} (h : a = a') (h' : b = b') : Ending.returned (.tuple #[.string a, .string b]) = .returned (.tuple #[.string a', .string b']) := by rw [h, h']
theorem rFault_size (s : ByteArray) (w : World) (hs : s.size ≤ maxLen) (h : s.size < 1 ∨ 400 < s.size) : Calls Tryd.prog 16 #[.string s] w fun e w' => e = .returned (.int .i64 1) ∧ w = w' := by
  unfold maxLen at hs
  rcases h with h | h
  · have e0 : s.toList = [] := toList_nil (nil_of_size h)
    go_enter Tryd.func16, Tryd.ntmps16
    go_wp2_with fail
    go_ret
    exact ⟨rfl, rfl⟩
  · have e0 : s.toList.isEmpty = false := toList_ne (ne_of_size (by omega))
    go_enter Tryd.func16, Tryd.ntmps16
    go_wp2_with fail
    go_ret
    exact ⟨rfl, rfl⟩
theorem rFault_form (s : ByteArray) (w : World) (h1 : 1 ≤ s.size) (h2 : s.size ≤ 400) (h : hasB 0 s.data.toList = true) : Calls Tryd.prog 16 #[.string s] w fun e w' => e = .returned (.int .i64 3) ∧ w = w' := by
  have HB := Lib.hid h
  have e0 : s.toList.isEmpty = false := toList_ne (ne_of_size h1)
  clear h
  go_enter Tryd.func16, Tryd.ntmps16
  go_wp2_with fail
  refine (has_any s 0 0 _ (by unfold maxLen; omega) rfl).mono ?_; rintro e w' ⟨rfl, rfl⟩
  rw [HB.out]
  go_wp2_with fail
  go_ret
  exact ⟨rfl, rfl⟩
theorem nameB_cases (l : List UInt8) : (nameB l = true ∧ l ≠ [] ∧ ¬ l = [46] ∧ ¬ l = [46, 46]) ∨ (nameB l = false ∧ (l = [] ∨ l = [46] ∨ l = [46, 46])) := by
  by_cases h : l = [] ∨ l = [46] ∨ l = [46, 46]
  · exact .inr ⟨nameB_false l h, h⟩
  · have h0 : l ≠ [] := fun e => h (.inl e)
    have h1 : l ≠ [46] := fun e => h (.inr (.inl e))
    have h2 : l ≠ [46, 46] := fun e => h (.inr (.inr e))
    exact .inl ⟨nameB_true l h0 h1 h2, h0, h1, h2⟩
set_option maxHeartbeats 2000000 in
theorem rFault_parts (s : ByteArray) (w : World) (h1 : 1 ≤ s.size) (h2 : s.size ≤ 400) (h : hasB 0 s.data.toList = false) :
    Calls Tryd.prog 16 #[.string s] w fun e w' => e = .returned (.int .i64 (allE (partsL 47 s.data.toList))) ∧ Below w.heap.size w w' := by
  have HB := Lib.hid h
  have e0 : s.toList.isEmpty = false := toList_ne (ne_of_size h1)
  obtain ⟨ls, Hls⟩ := hid_name (partsL 47 s.data.toList)
  have hll : ls.length ≤ 401 := by
    have h3 := partsL_le 47 s.data.toList
    have h4 : s.data.toList.length = s.size := by simp
    rw [Hls.out] at h3; omega
  obtain ⟨n, Hn⟩ := hid_name ls.length
  rw [Hn.out] at hll
  rw [Hls.out]
  clear h
  go_enter Tryd.func16, Tryd.ntmps16
  go_wp2_with fail
  refine (has_any s 0 0 _ (by unfold maxLen; omega) rfl).mono ?_; rintro e w' ⟨rfl, rfl⟩
  rw [HB.out]
  go_wp2_with fail
  refine (parts_any s 47 47 _ (by omega) rfl).mono ?_; rintro e w1 ⟨v, rfl, hT, hB⟩
  rw [Hls.out] at hT
  obtain ⟨A, ca, rfl, hA⟩ := hT.any
  have HA := Lib.hid hA
  have HB1 := Lib.hid hB
  clear hA hT hB e0
  rw [Hn.out]
  go_wp2_with fail
  go_loopw [17] (fun i wr => ∃ k m : Nat, i = .int .i64 k ∧ k ≤ n ∧ Hid ((ls.take k).all nameB = true) ∧ Hid (wr = w1.drewN m)) (fun i _ => n - (intOf i).toNat)
  case atStart => exact ⟨0, 0, rfl, Nat.zero_le _, rfl, rfl⟩
  case round =>
    obtain ⟨k, m, rfl, hk, HE, HW⟩ := hrel
    by_cases hlt : k < n
    · obtain ⟨g, rfl, _, _, hc⟩ := HA.out k (by rw [Hn.out]; exact hlt)
      have hc' : wr.cell? ⟨g, k, none⟩ = some (strV (ls.getD k [])) := by rw [HW.out]; exact hc
      clear hc
      unfold strV at hc'
      obtain ⟨sx, Hsx⟩ := hid_name (⟨(ls.getD k []).toArray⟩ : ByteArray)
      rw [Hsx.out] at hc'
      have Hx : Hid (sx.data.toList = ls.getD k []) := by unfold Hid; rw [← Hsx.out]
      rcases nameB_cases sx.data.toList with ⟨hn, f0, f1, f2⟩ | ⟨hn, hf⟩
      · have HR := Lib.hid (all_take_snoc ls nameB k (by rw [Hn.out]; exact hlt) HE.out (by rw [← Hx.out]; exact hn))
        have g0 := toList_ne f0
        rw [← eq_const] at f1 f2
        have d1 : (sx.toList == [46]) = false := by simpa using f1
        have d2 : (sx.toList == [46, 46]) = false := by simpa using f2
        clear hn f0
        go_wp2_with fail
        go_roundw
        case rel => exact ⟨k + 1, m, by go_num, by omega, HR, HW⟩
        case measure => simp [intOf]; omega
      · have HR := Lib.hid (allE_no (all_take_no ls nameB k (by rw [Hn.out]; exact hlt) (by rw [← Hx.out]; exact hn)))
        clear hn
        rcases hf with hf | hf | hf
        · have g0 := toList_nil hf
          clear hf
          go_wp2_with fail
          go_ret
          exact ⟨ret_int HR.out.symm, by rw [HW.out]; exact drewN_below HB1.out _⟩
        · rw [← eq_const] at hf
          go_wp2_with fail
          go_ret
          exact ⟨ret_int HR.out.symm, by rw [HW.out]; exact drewN_below HB1.out _⟩
        · rw [← eq_const] at hf
          go_wp2_with fail
          go_ret
          exact ⟨ret_int HR.out.symm, by rw [HW.out]; exact drewN_below HB1.out _⟩
    · obtain rfl : k = n := by omega
      have HR : Hid (allE ls = 0) := by have := HE.out; rw [← Hn.out, List.take_length] at this; exact allE_yes this
      go_wp2_with fail
      go_ret
      exact ⟨ret_int HR.out.symm, by rw [HW.out]; exact drewN_below HB1.out _⟩
theorem rFault_any (s : ByteArray) (w : World) (hs : s.size ≤ maxLen) : Calls Tryd.prog 16 #[.string s] w fun e w' => e = .returned (.int .i64 (pathE s.data.toList)) ∧ Below w.heap.size w w' := by
  have hl : s.data.toList.length = s.size := by simp
  by_cases h : s.data.toList.length < 1 ∨ 400 < s.data.toList.length
  · rw [pathE_size h]; rw [hl] at h
    exact (rFault_size s w hs h).mono fun e w' ⟨a, b⟩ => ⟨a, b ▸ Below.refl _ _⟩
  · cases h2 : hasB 0 s.data.toList
    · have hc := rFault_parts s w (by omega) (by omega) h2
      cases h3 : (partsL 47 s.data.toList).all nameB
      · rw [pathE_no h h2 h3]; rw [allE_no h3] at hc; exact hc
      · rw [pathE_ok h h2 h3]; rw [allE_yes h3] at hc; exact hc
    · rw [pathE_form h h2]
      exact (rFault_form s w (by omega) (by omega) h2).mono fun e w' ⟨a, b⟩ => ⟨a, b ▸ Below.refl _ _⟩
theorem str_add2 (a b : List UInt8) : (⟨a.toArray⟩ : ByteArray) ++ ⟨#[47]⟩ ++ ⟨b.toArray⟩ = ⟨(a ++ 47 :: b).toArray⟩ := by
  rw [show (⟨#[47]⟩ : ByteArray) = ⟨[47].toArray⟩ from rfl, str_app, str_app]; simp
set_option maxHeartbeats 2000000 in
theorem rSplit_any (s : ByteArray) (w : World) (hs : s.size ≤ 8000000000000) :
    Calls Tryd.prog 22 #[.string s] w fun e w' => e = .returned (.tuple #[.string ⟨(upL s.data.toList).toArray⟩, .string ⟨(baseL s.data.toList).toArray⟩]) ∧ Below w.heap.size w w' := by
  have hsl : s.data.toList.length = s.size := by simp
  have hjl := joinL_parts s.data.toList
  have hp1 := partsL_pos 47 s.data.toList
  have hp2 := partsL_le 47 s.data.toList
  have hup : upL s.data.toList = joinL ((partsL 47 s.data.toList).take ((partsL 47 s.data.toList).length - 1)) := by unfold upL; rw [List.dropLast_eq_take]
  have hba : baseL s.data.toList = (partsL 47 s.data.toList).getD ((partsL 47 s.data.toList).length - 1) [] := by
    unfold baseL
    rw [List.getLast_eq_getElem, List.getD_eq_getElem?_getD, List.getElem?_eq_getElem (by omega)]; rfl
  rw [hup, hba]
  obtain ⟨ls, Hls⟩ := hid_name (partsL 47 s.data.toList)
  have HJ : Hid ((joinL ls).length = s.size) := by unfold Hid; rw [← Hls.out, hjl, hsl]
  have HM : Hid (∀ j, (ls.getD j []).length ≤ s.size) := fun j => by rw [← Hls.out, ← hsl]; exact partsL_getD 47 _ j
  obtain ⟨n, Hn⟩ := hid_name ls.length
  rw [Hls.out, Hn.out] at hp1 hp2 ⊢
  rw [hsl] at hp2
  clear hsl hjl hup hba
  go_enter Tryd.func22, Tryd.ntmps22
  go_wp2_with fail
  refine (parts_any s 47 47 _ hs rfl).mono ?_; rintro e w1 ⟨v, rfl, hT, hB⟩
  rw [Hls.out] at hT
  obtain ⟨A, ca, rfl, hA⟩ := hT.any
  have HA := Lib.hid hA
  have HB1 := Lib.hid hB
  clear hA hT hB
  rw [Hn.out]
  go_wp2_with fail
  go_loopw [5, 6] (fun u i wr => ∃ (k m : Nat) (t : ByteArray), i = .int .i64 k ∧ u = .string t ∧ k ≤ n - 1 ∧ t.size ≤ s.size ∧ Hid (t = ⟨(joinL (ls.take k)).toArray⟩) ∧ Hid (wr = w1.drewN m)) (fun _ i _ => n - 1 - (intOf i).toNat)
  case atStart => exact ⟨0, 0, ⟨#[]⟩, rfl, rfl, Nat.zero_le _, Nat.zero_le _, rfl, rfl⟩
  case round =>
    obtain ⟨k, m, t, rfl, rfl, hk, hts, HE, HW⟩ := hrel
    by_cases hlt : k < n - 1
    · have hltz : (k : Int) < (n : Int) - 1 := by omega
      obtain ⟨g, rfl, _, _, hc⟩ := HA.out k (by rw [Hn.out]; omega)
      have hc' : wr.cell? ⟨g, k, none⟩ = some (strV (ls.getD k [])) := by rw [HW.out]; exact hc
      clear hc
      unfold strV at hc'
      obtain ⟨sx, Hsx⟩ := hid_name (⟨(ls.getD k []).toArray⟩ : ByteArray)
      have hxs : sx.size ≤ s.size := by rw [← Hsx.out, size_mk]; exact HM.out k
      rw [Hsx.out] at hc'
      have HT := Lib.hid (getD_take_snoc ls k (by rw [Hn.out]; omega))
      have HL := Lib.hid (joinL_take_le ls (k + 1))
      by_cases h0 : k = 0
      · have HE1 : Hid (t ++ sx = ⟨(joinL (ls.take (k + 1))).toArray⟩) := by
          unfold Hid; rw [HE.out, HT.out, h0, ← Hsx.out, h0, str_app]; rfl
        have hs1 : (t ++ sx).size ≤ s.size := by rw [HE1.out, size_mk]; have := HL.out; rw [HJ.out] at this; exact this
        have h0' : (k : Int) ≤ 0 := by omega
        clear h0
        go_wp2_with fail
        go_roundw
        case rel => exact ⟨k + 1, m, _, by go_num, rfl, by omega, hs1, HE1, HW⟩
        case measure => simp [intOf]; omega
      · have HE1 : Hid (t ++ ⟨#[47]⟩ ++ sx = ⟨(joinL (ls.take (k + 1))).toArray⟩) := by
          unfold Hid; rw [HE.out, HT.out, ← Hsx.out, str_add2, joinL_snoc]
          intro e
          have := congrArg List.length e
          rw [List.length_take, Hn.out] at this; simp at this; omega
        have hs1 : (t ++ ⟨#[47]⟩ ++ sx).size ≤ s.size := by rw [HE1.out, size_mk]; have := HL.out; rw [HJ.out] at this; exact this
        have h0' : 0 < (k : Int) := by omega
        have hs2 : (t ++ ⟨#[47]⟩).size ≤ s.size + 1 := by rw [ByteArray.size_append]; show t.size + 1 ≤ _; omega
        clear h0
        go_wp2_with fail
        go_roundw
        case rel => exact ⟨k + 1, m, _, by go_num, rfl, by omega, hs1, HE1, HW⟩
        case measure => simp [intOf]; omega
    · obtain rfl : k = n - 1 := by omega
      obtain ⟨g, rfl, _, _, hc⟩ := HA.out (n - 1) (by rw [Hn.out]; omega)
      have hc' : wr.cell? ⟨g, n - 1, none⟩ = some (strV (ls.getD (n - 1) [])) := by rw [HW.out]; exact hc
      clear hc
      unfold strV at hc'
      have b0 : (0 : Int) ≤ (n : Int) - 1 := by omega
      have b0' : (1 : Int) ≤ (n : Int) := by omega
      have b1 : (n : Int) - 1 < (n : Int) := by omega
      have b2 : IntKind.i64.wrap ((n : Int) - 1) = (n : Int) - 1 := IntWalk.i64_in _ (by omega)
      have b7 : ((n : Int) - 1).toNat = n - 1 := by omega
      have b8 : ((n - 1 : Nat) : Int) = (n : Int) - 1 := by omega
      clear hlt
      go_wp2_with fail
      go_quiet (fail)
      go_wp2_with fail
      go_ret2
      exact ⟨ret_2str HE.out rfl, by rw [HW.out]; exact drewN_below (drewN_below HB1.out _) _⟩
end Go.Proofs.YtoikpnjnljdpaaaDoor
