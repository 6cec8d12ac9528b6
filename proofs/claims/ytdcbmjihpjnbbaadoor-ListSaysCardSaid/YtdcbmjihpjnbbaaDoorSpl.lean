/- Texts of one kind, in one file: SplA, SplB. -/
import Derived.Test.YtdcbmjihpjnbbaaDoorMth
import Derived.Test.YtdcbmjihpjnbbaaDoorPth
import Derived.Test.YtdcbmjihpjnbbaaDoorFld
import Derived.Test.YtdcbmjihpjnbbaaDoorShelf
import Derived.Shelf.Strings.SplitCore
/- Contracts of package path's parts. -/
set_option linter.unusedVariables false
set_option maxRecDepth 100000
namespace Go.Proofs.YtdcbmjihpjnbbaaDoor
open Go.RowKit
open Go.OpenShut
theorem Texts.mono {w : World} {B B' : Nat} {v : Value} {ls : List (List UInt8)} (h : Texts w B v ls) (hB : B' ≤ B) : Texts w B' v ls := by
  unfold Texts World.ownsRow at *
  refine ⟨h.1, ?_⟩
  rcases h.2 with h | ⟨g, cap, cur, e1, e2, h⟩
  · exact .inl h
  · exact .inr ⟨g, cap, cur, e1, by omega, h⟩
theorem Texts.lit {w : World} (ls : List (List UInt8)) (hm : ls.length ≤ maxLen) : Texts (w.alloc (.cells (strC ls).toArray 9)) w.heap.size (.slice (some ⟨w.heap.size, 0, none⟩) ls.length ls.length) ls := by
  have := World.ownsRow_lit (base := w.heap.size) (e := 9) (size := 1) w (strC ls).toArray ls.length (Nat.le_refl _) hm (by simp)
  unfold Texts
  simpa using this
theorem genSplit_slash (s : ByteArray) (w : World) (hs : s.size < 4294967281) :
    Calls Tryd.prog 102 #[.string s, .string ⟨#[47]⟩, .int .i64 0, .int .i64 (-1)] w fun e w' =>
      e = .returned (.slice (some ⟨w.heap.size, 0, none⟩) (partsL 47 s.data.toList).length (partsL 47 s.data.toList).length) ∧ w' = w.alloc (.cells (strC (partsL 47 s.data.toList)).toArray 9) := by
  have hc := countB_slash s
  have hl := partsL_length 47 s.data.toList
  have hle := List.count_le_length (l := s.data.toList) (a := 47)
  have hsz : s.data.toList.length = s.size := by simp
  have h := Any.strings_genSplit_core Tryd.lays221 (by kernel_rfl) s ⟨#[47]⟩ 0 (-1) (Lib.countB s ⟨#[47]⟩ + 1) w hs (by decide) (Nat.zero_le _)
    (fun x c _ => (Tryd.strings_Index_one x 47 _).mono fun e w' ⟨a, b⟩ => ⟨by rw [a]; exact congrArg (fun z => Ending.returned (.int .i64 z)) (Lib.index_one x.data.toList 47).symm, b⟩)
    ((Tryd.strings_Count_one s 47 w).mono fun e w' ⟨a, b⟩ => ⟨by rw [a, hc]; rfl, b⟩) (by decide) (by decide) (by rw [if_pos (by decide), hc]; omega)
  have hb := splitB_parts s _ rfl
  have hlen : (Lib.splitB ⟨#[47]⟩ 0 (s.data.toList.count 47) s).length = (partsL 47 s.data.toList).length := by
    have := congrArg List.length hb; simpa using this
  rw [Nat.add_sub_cancel, hc, hlen, ← hl] at h
  have hcell : Lib.cellsOf (Lib.splitB ⟨#[47]⟩ 0 (s.data.toList.count 47) s) (partsL 47 s.data.toList).length = (strC (partsL 47 s.data.toList)).toArray := by
    rw [← hlen, Lib.cellsOf_full, hb]
  rw [hcell] at h
  exact h
theorem Split_slash (s : ByteArray) (w : World) (hs : s.size < 4294967281) :
    Calls Tryd.prog 88 #[.string s, .string ⟨#[47]⟩] w fun e w' =>
      e = .returned (.slice (some ⟨w.heap.size, 0, none⟩) (partsL 47 s.data.toList).length (partsL 47 s.data.toList).length) ∧ w' = w.alloc (.cells (strC (partsL 47 s.data.toList)).toArray 9) := by
  go_enter Tryd.func88, Tryd.ntmps88
  go_wp2_with fail
  refine (genSplit_slash s _ hs).mono ?_; rintro e w' ⟨rfl, rfl⟩
  go_wp2_with fail
  go_ret
  exact ⟨rfl, rfl⟩
theorem Parts_any (s : ByteArray) (w : World) (hs : s.size < 4294967281) :
    Calls Tryd.prog 69 #[.string s] w fun e w' => ∃ v, e = .returned v ∧ Texts w' w.heap.size v (pp s.data.toList) ∧ Below w.heap.size w w' := by
  by_cases h0 : s.data.toList = []
  · have e0 := toList_nil h0
    rw [h0, pp_nil]
    clear h0
    go_enter Tryd.func69, Tryd.ntmps69
    go_wp2_with fail
    go_ret
    exact ⟨_, rfl, Texts.nil _ _, Below.refl _ _⟩
  · have e0 := toList_ne h0
    rw [pp_ne h0]
    clear h0
    have hm : (partsL 47 s.data.toList).length ≤ maxLen := by
      have h1 := partsL_le 47 s.data.toList
      have h2 : s.data.toList.length = s.size := by simp
      unfold maxLen; omega
    go_enter Tryd.func69, Tryd.ntmps69
    go_wp2_with fail
    refine (Clone_any s _ (by omega)).mono ?_; rintro e w1 ⟨rfl, hB1⟩
    go_wp2_with fail
    refine (Split_slash s _ hs).mono ?_; rintro e w2 ⟨rfl, rfl⟩
    have HB := Lib.hid (hB1.alloc hB1.size (.cells (strC (partsL 47 s.data.toList)).toArray 9))
    have HT := Lib.hid ((Texts.lit (w := w1) _ hm).mono hB1.size)
    clear hB1 hm
    go_wp2_with fail
    go_ret
    exact ⟨_, rfl, HT.out, HB.out⟩
theorem LastIndexByte_any (s : ByteArray) (w : World) (hs : s.size ≤ 281474976710656) : Calls Tryd.prog 97 #[.string s, .int .u8 47] w fun e w' => e = .returned (.int .i64 (Lib.lastIndexByte s 47)) ∧ w = w' :=
  (Tryd.strings_LastIndexByte s 47 (by omega) w).mono fun e w' ⟨a, b⟩ => ⟨a, b.symm⟩
theorem ext_listT (s : ByteArray) (k : Nat) : s.extract 0 k = ⟨(s.data.toList.take k).toArray⟩ := by
  apply ByteArray.ext; apply Array.toList_inj.1
  rw [ByteArray.data_extract, Array.toList_extract]; simp [List.extract]
theorem ext_size_le (s : ByteArray) (a b : Nat) : (s.extract a b).size ≤ s.size := by rw [ByteArray.size_extract]; omega
theorem Up_any (s : ByteArray) (w : World) (hs : s.size ≤ 281474976710656) : Calls Tryd.prog 79 #[.string s] w fun e w' => e = .returned (.string ⟨(upL s.data.toList).toArray⟩) ∧ Below w.heap.size w w' := by
  rcases last_cases s with ⟨h1, h2, -, -⟩ | ⟨i, hi, h1, h2, -, -⟩
  · have H1 := Lib.hid h1
    rw [h2]
    clear h1 h2
    go_enter Tryd.func79, Tryd.ntmps79
    go_wp2_with fail
    refine (LastIndexByte_any s _ hs).mono ?_; rintro e w' ⟨rfl, rfl⟩
    rw [H1.out]
    go_wp2_with fail
    rw [show (max (-1 : Int) 0).toNat = 0 from rfl]
    have hx := ext_size_le s 0 0
    refine (Clone_any _ _ (by omega)).mono ?_; rintro e w1 ⟨rfl, hB1⟩
    have HB := Lib.hid hB1
    clear hB1 hx
    go_wp2_with fail
    go_ret
    exact ⟨ret_str rfl, HB.out⟩
  · have H1 := Lib.hid h1
    rw [h2, ← ext_listT]
    have hx := ext_size_le s 0 i
    clear h1 h2
    go_enter Tryd.func79, Tryd.ntmps79
    go_wp2_with fail
    refine (LastIndexByte_any s _ hs).mono ?_; rintro e w' ⟨rfl, rfl⟩
    rw [H1.out]
    go_wp2_with fail
    refine (Clone_any _ _ (by omega)).mono ?_; rintro e w1 ⟨rfl, hB1⟩
    go_wp2_with fail
    go_ret
    exact ⟨rfl, hB1⟩
theorem isName_any (s : ByteArray) (w : World) : Calls Tryd.prog 70 #[.string s] w fun e w' => e = .returned (.bool (nameB s.data.toList)) ∧ w = w' := by
  by_cases h0 : s.data.toList = []
  · have e0 := toList_nil h0
    rw [nameB_false _ (.inl h0)]
    clear h0
    go_enter Tryd.func70, Tryd.ntmps70
    go_wp2_with fail
    go_ret
    exact ⟨rfl, rfl⟩
  · have e0 := toList_ne h0
    have e0' : (!s.toList.isEmpty) = true := by rw [e0]; rfl
    by_cases h1 : s.data.toList = [46]
    · rw [nameB_false _ (.inr (.inl h1))]
      rw [← eq_const] at h1
      clear h0 e0 e0'
      go_enter Tryd.func70, Tryd.ntmps70
      go_wp2_with fail
      go_ret
      exact ⟨rfl, rfl⟩
    · by_cases h2 : s.data.toList = [46, 46]
      · rw [nameB_false _ (.inr (.inr h2))]
        rw [← eq_const] at h2
        clear h0 h1 e0 e0'
        go_enter Tryd.func70, Tryd.ntmps70
        go_wp2_with fail
        go_ret
        exact ⟨rfl, rfl⟩
      · rw [nameB_true _ h0 h1 h2]
        rw [← eq_const] at h1 h2
        have d1 : (s.toList == [46]) = false := by simpa using h1
        have d2 : (s.toList == [46, 46]) = false := by simpa using h2
        clear h0
        go_enter Tryd.func70, Tryd.ntmps70
        go_wp2_with fail
        go_ret
        exact ⟨rfl, rfl⟩
theorem Check_size (s : ByteArray) (w : World) (hs : s.size ≤ maxLen) (h : s.size < 1 ∨ 400 < s.size) : Calls Tryd.prog 45 #[.string s] w fun e w' => e = .returned (.int .i64 1) ∧ w = w' := by
  unfold maxLen at hs
  rcases h with h | h
  all_goals
    go_enter Tryd.func45, Tryd.ntmps45
    go_wp2_with fail
    go_ret
    exact ⟨rfl, rfl⟩
theorem Check_form (s : ByteArray) (w : World) (h1 : 1 ≤ s.size) (h2 : s.size ≤ 400) (h : hasB 0 s.data.toList = true) : Calls Tryd.prog 45 #[.string s] w fun e w' => e = .returned (.int .i64 3) ∧ w = w' := by
  have HB := Lib.hid h
  clear h
  go_enter Tryd.func45, Tryd.ntmps45
  go_wp2_with fail
  refine (IndexByte_yes _ _ HB.out).mono ?_; rintro e w' ⟨rfl, rfl⟩
  go_wp2_with fail
  go_ret
  exact ⟨rfl, rfl⟩
set_option maxHeartbeats 1000000 in
theorem Check_parts (s : ByteArray) (w : World) (h1 : 1 ≤ s.size) (h2 : s.size ≤ 400) (h : hasB 0 s.data.toList = false) :
    Calls Tryd.prog 45 #[.string s] w fun e w' => e = .returned (.int .i64 (allE (partsL 47 s.data.toList))) ∧ Below w.heap.size w w' := by
  have hne : s.data.toList ≠ [] := fun e => by
    have h3 : s.data.toList.length = s.size := by simp
    rw [e] at h3; simp at h3; omega
  have hpp := Lib.hid (pp_ne hne)
  have HB := Lib.hid h
  obtain ⟨ls, Hls⟩ := hid_name (partsL 47 s.data.toList)
  have hll : ls.length ≤ 401 := by
    have h3 := partsL_le 47 s.data.toList
    have h4 : s.data.toList.length = s.size := by simp
    rw [Hls.out] at h3; omega
  obtain ⟨n, Hn⟩ := hid_name ls.length
  rw [Hn.out] at hll
  rw [Hls.out]
  clear h hne
  go_enter Tryd.func45, Tryd.ntmps45
  go_wp2_with fail
  refine (IndexByte_no _ _ HB.out).mono ?_; rintro e w' ⟨rfl, rfl⟩
  go_wp2_with fail
  refine (Parts_any _ _ (by omega)).mono ?_; rintro e w1 ⟨v, rfl, hT, hB⟩
  rw [hpp.out, Hls.out] at hT
  obtain ⟨A, ca, rfl, hA⟩ := hT.any
  have HA := Lib.hid hA
  have HB1 := Lib.hid hB
  clear hA hT hB
  rw [Hn.out]
  go_wp2_with fail
  go_loopw [19] (fun i wr => ∃ k m : Nat, i = .int .i64 k ∧ k ≤ n ∧ Hid ((ls.take k).all nameB = true) ∧ Hid (wr = w1.drewN m)) (fun i _ => n - (intOf i).toNat)
  case atStart => exact ⟨0, 0, rfl, Nat.zero_le _, rfl, rfl⟩
  case round =>
    obtain ⟨k, m, rfl, hk, HE, HW⟩ := hrel
    by_cases hlt : k < n
    · obtain ⟨g, rfl, _, _, hc⟩ := HA.out k (by rw [Hn.out]; exact hlt)
      have hc' : wr.cell? ⟨g, k, none⟩ = some (strV (ls.getD k [])) := by rw [HW.out]; exact hc
      clear hc
      unfold strV at hc'
      obtain ⟨sx, Hsx⟩ := hid_name (⟨(ls.getD k []).toArray⟩ : ByteArray)
      rw [Hsx.out] at hc'
      have Hx : Hid (sx.data.toList = ls.getD k []) := by unfold Hid; rw [← Hsx.out]
      cases hn : nameB sx.data.toList
      · have HR := Lib.hid (allE_no (all_take_no ls nameB k (by rw [Hn.out]; exact hlt) (by rw [← Hx.out]; exact hn)))
        have HN := Lib.hid hn
        clear hn
        go_wp2_with fail
        refine (isName_any _ _).mono ?_; rintro e w' ⟨rfl, rfl⟩
        rw [HN.out]
        go_wp2_with fail
        go_ret
        exact ⟨ret_int HR.out.symm, by rw [HW.out]; exact drewN_below HB1.out _⟩
      · have HR := Lib.hid (all_take_snoc ls nameB k (by rw [Hn.out]; exact hlt) HE.out (by rw [← Hx.out]; exact hn))
        have HN := Lib.hid hn
        clear hn
        go_wp2_with fail
        refine (isName_any _ _).mono ?_; rintro e w' ⟨rfl, rfl⟩
        rw [HN.out]
        go_wp2_with fail
        go_roundw
        case rel => exact ⟨k + 1, m, by go_num, by omega, HR, HW⟩
        case measure => simp [intOf]; omega
    · obtain rfl : k = n := by omega
      have HR : Hid (allE ls = 0) := by have := HE.out; rw [← Hn.out, List.take_length] at this; exact allE_yes this
      go_wp2_with fail
      go_ret
      exact ⟨ret_int HR.out.symm, by rw [HW.out]; exact drewN_below HB1.out _⟩
theorem Check_any (s : ByteArray) (w : World) (hs : s.size ≤ maxLen) : Calls Tryd.prog 45 #[.string s] w fun e w' => e = .returned (.int .i64 (pathE s.data.toList)) ∧ Below w.heap.size w w' := by
  have hl : s.data.toList.length = s.size := by simp
  by_cases h : s.data.toList.length < 1 ∨ 400 < s.data.toList.length
  · rw [pathE_size h]; rw [hl] at h
    exact (Check_size s w hs h).mono fun e w' ⟨a, b⟩ => ⟨a, b ▸ Below.refl _ _⟩
  · cases h2 : hasB 0 s.data.toList
    · have hc := Check_parts s w (by omega) (by omega) h2
      cases h3 : (partsL 47 s.data.toList).all nameB
      · rw [pathE_no h h2 h3]; rw [allE_no h3] at hc; exact hc
      · rw [pathE_ok h h2 h3]; rw [allE_yes h3] at hc; exact hc
    · rw [pathE_form h h2]
      exact (Check_form s w (by omega) (by omega) h2).mono fun e w' ⟨a, b⟩ => ⟨a, b ▸ Below.refl _ _⟩
end Go.Proofs.YtdcbmjihpjnbbaaDoor
/- Contracts of the reference's faults and splitting of paths. -/
set_option linter.unusedVariables false
set_option maxRecDepth 100000
namespace Go.Proofs.YtdcbmjihpjnbbaaDoor
open Go.RowKit
open Go.OpenShut
theorem nil_of_size {s : ByteArray} (h : s.size < 1) : s.data.toList = [] := by
  have h4 : s.data.toList.length = s.size := by simp
  exact List.eq_nil_of_length_eq_zero (by omega)
theorem ne_of_size {s : ByteArray} (h : 1 ≤ s.size) : s.data.toList ≠ [] := fun e => by
  have h4 : s.data.toList.length = s.size := by simp
  rw [e] at h4; simp at h4; omega
theorem ret_2str {a b a' b' : ByteArray} (h : a = a') (h' : b = b') : Ending.returned (.tuple #[.string a, .string b]) = .returned (.tuple #[.string a', .string b']) := by rw [h, h']
theorem rFault_size (s : ByteArray) (w : World) (hs : s.size ≤ maxLen) (h : s.size < 1 ∨ 400 < s.size) : Calls Tryd.prog 56 #[.string s] w fun e w' => e = .returned (.int .i64 1) ∧ w = w' := by
  unfold maxLen at hs
  rcases h with h | h
  · have e0 : s.toList = [] := toList_nil (nil_of_size h)
    go_enter Tryd.func56, Tryd.ntmps56
    go_wp2_with fail
    go_ret
    exact ⟨rfl, rfl⟩
  · have e0 : s.toList.isEmpty = false := toList_ne (ne_of_size (by omega))
    go_enter Tryd.func56, Tryd.ntmps56
    go_wp2_with fail
    go_ret
    exact ⟨rfl, rfl⟩
theorem rFault_form (s : ByteArray) (w : World) (h1 : 1 ≤ s.size) (h2 : s.size ≤ 400) (h : hasB 0 s.data.toList = true) : Calls Tryd.prog 56 #[.string s] w fun e w' => e = .returned (.int .i64 3) ∧ w = w' := by
  have HB := Lib.hid h
  have e0 : s.toList.isEmpty = false := toList_ne (ne_of_size h1)
  clear h
  go_enter Tryd.func56, Tryd.ntmps56
  go_wp2_with fail
  refine (has_any s 0 0 _ (by unfold maxLen; omega) rfl).mono ?_; rintro e w' ⟨rfl, rfl⟩
  rw [HB.out]
  go_wp2_with fail
  go_ret
  exact ⟨rfl, rfl⟩
theorem nameB_cases (l : List UInt8) : (nameB l = true ∧ l ≠ [] ∧ ¬ l = [46] ∧ ¬ l = [46, 46]) ∨ (nameB l = false ∧ (l = [] ∨ l = [46] ∨ l = [46, 46])) := by
  by_cases h : l = [] ∨ l = [46] ∨ l = [46, 46]
  · exact .inr ⟨nameB_false l h, h⟩
  · have h0 : l ≠ [] := fun e => h (.inl e)
    have h1 : l ≠ [46] := fun e => h (.inr (.inl e))
    have h2 : l ≠ [46, 46] := fun e => h (.inr (.inr e))
    exact .inl ⟨nameB_true l h0 h1 h2, h0, h1, h2⟩
set_option maxHeartbeats 2000000 in
theorem rFault_parts (s : ByteArray) (w : World) (h1 : 1 ≤ s.size) (h2 : s.size ≤ 400) (h : hasB 0 s.data.toList = false) :
    Calls Tryd.prog 56 #[.string s] w fun e w' => e = .returned (.int .i64 (allE (partsL 47 s.data.toList))) ∧ Below w.heap.size w w' := by
  have HB := Lib.hid h
  have e0 : s.toList.isEmpty = false := toList_ne (ne_of_size h1)
  obtain ⟨ls, Hls⟩ := hid_name (partsL 47 s.data.toList)
  have hll : ls.length ≤ 401 := by
    have h3 := partsL_le 47 s.data.toList
    have h4 : s.data.toList.length = s.size := by simp
    rw [Hls.out] at h3; omega
  obtain ⟨n, Hn⟩ := hid_name ls.length
  rw [Hn.out] at hll
  rw [Hls.out]
  clear h
  go_enter Tryd.func56, Tryd.ntmps56
  go_wp2_with fail
  refine (has_any s 0 0 _ (by unfold maxLen; omega) rfl).mono ?_; rintro e w' ⟨rfl, rfl⟩
  rw [HB.out]
  go_wp2_with fail
  refine (parts_any s 47 47 _ (by omega) rfl).mono ?_; rintro e w1 ⟨v, rfl, hT, hB⟩
  rw [Hls.out] at hT
  obtain ⟨A, ca, rfl, hA⟩ := hT.any
  have HA := Lib.hid hA
  have HB1 := Lib.hid hB
  clear hA hT hB e0
  rw [Hn.out]
  go_wp2_with fail
  go_loopw [17] (fun i wr => ∃ k m : Nat, i = .int .i64 k ∧ k ≤ n ∧ Hid ((ls.take k).all nameB = true) ∧ Hid (wr = w1.drewN m)) (fun i _ => n - (intOf i).toNat)
  case atStart => exact ⟨0, 0, rfl, Nat.zero_le _, rfl, rfl⟩
  case round =>
    obtain ⟨k, m, rfl, hk, HE, HW⟩ := hrel
    by_cases hlt : k < n
    · obtain ⟨g, rfl, _, _, hc⟩ := HA.out k (by rw [Hn.out]; exact hlt)
      have hc' : wr.cell? ⟨g, k, none⟩ = some (strV (ls.getD k [])) := by rw [HW.out]; exact hc
      clear hc
      unfold strV at hc'
      obtain ⟨sx, Hsx⟩ := hid_name (⟨(ls.getD k []).toArray⟩ : ByteArray)
      rw [Hsx.out] at hc'
      have Hx : Hid (sx.data.toList = ls.getD k []) := by unfold Hid; rw [← Hsx.out]
      rcases nameB_cases sx.data.toList with ⟨hn, f0, f1, f2⟩ | ⟨hn, hf⟩
      · have HR := Lib.hid (all_take_snoc ls nameB k (by rw [Hn.out]; exact hlt) HE.out (by rw [← Hx.out]; exact hn))
        have g0 := toList_ne f0
        rw [← eq_const] at f1 f2
        have d1 : (sx.toList == [46]) = false := by simpa using f1
        have d2 : (sx.toList == [46, 46]) = false := by simpa using f2
        clear hn f0
        go_wp2_with fail
        go_roundw
        case rel => exact ⟨k + 1, m, by go_num, by omega, HR, HW⟩
        case measure => simp [intOf]; omega
      · have HR := Lib.hid (allE_no (all_take_no ls nameB k (by rw [Hn.out]; exact hlt) (by rw [← Hx.out]; exact hn)))
        clear hn
        rcases hf with hf | hf | hf
        · have g0 := toList_nil hf
          clear hf
          go_wp2_with fail
          go_ret
          exact ⟨ret_int HR.out.symm, by rw [HW.out]; exact drewN_below HB1.out _⟩
        · rw [← eq_const] at hf
          go_wp2_with fail
          go_ret
          exact ⟨ret_int HR.out.symm, by rw [HW.out]; exact drewN_below HB1.out _⟩
        · rw [← eq_const] at hf
          go_wp2_with fail
          go_ret
          exact ⟨ret_int HR.out.symm, by rw [HW.out]; exact drewN_below HB1.out _⟩
    · obtain rfl : k = n := by omega
      have HR : Hid (allE ls = 0) := by have := HE.out; rw [← Hn.out, List.take_length] at this; exact allE_yes this
      go_wp2_with fail
      go_ret
      exact ⟨ret_int HR.out.symm, by rw [HW.out]; exact drewN_below HB1.out _⟩
theorem rFault_any (s : ByteArray) (w : World) (hs : s.size ≤ maxLen) : Calls Tryd.prog 56 #[.string s] w fun e w' => e = .returned (.int .i64 (pathE s.data.toList)) ∧ Below w.heap.size w w' := by
  have hl : s.data.toList.length = s.size := by simp
  by_cases h : s.data.toList.length < 1 ∨ 400 < s.data.toList.length
  · rw [pathE_size h]; rw [hl] at h
    exact (rFault_size s w hs h).mono fun e w' ⟨a, b⟩ => ⟨a, b ▸ Below.refl _ _⟩
  · cases h2 : hasB 0 s.data.toList
    · have hc := rFault_parts s w (by omega) (by omega) h2
      cases h3 : (partsL 47 s.data.toList).all nameB
      · rw [pathE_no h h2 h3]; rw [allE_no h3] at hc; exact hc
      · rw [pathE_ok h h2 h3]; rw [allE_yes h3] at hc; exact hc
    · rw [pathE_form h h2]
      exact (rFault_form s w (by omega) (by omega) h2).mono fun e w' ⟨a, b⟩ => ⟨a, b ▸ Below.refl _ _⟩
theorem str_add2 (a b : List UInt8) : (⟨a.toArray⟩ : ByteArray) ++ ⟨#[47]⟩ ++ ⟨b.toArray⟩ = ⟨(a ++ 47 :: b).toArray⟩ := by
  rw [show (⟨#[47]⟩ : ByteArray) = ⟨[47].toArray⟩ from rfl, str_app, str_app]; simp
set_option maxHeartbeats 2000000 in
theorem rSplit_any (s : ByteArray) (w : World) (hs : s.size ≤ 8000000000000) :
    Calls Tryd.prog 61 #[.string s] w fun e w' => e = .returned (.tuple #[.string ⟨(upL s.data.toList).toArray⟩, .string ⟨(baseL s.data.toList).toArray⟩]) ∧ Below w.heap.size w w' := by
  have hsl : s.data.toList.length = s.size := by simp
  have hjl := joinL_parts s.data.toList
  have hp1 := partsL_pos 47 s.data.toList
  have hp2 := partsL_le 47 s.data.toList
  have hup : upL s.data.toList = joinL ((partsL 47 s.data.toList).take ((partsL 47 s.data.toList).length - 1)) := by unfold upL; rw [List.dropLast_eq_take]
  have hba : baseL s.data.toList = (partsL 47 s.data.toList).getD ((partsL 47 s.data.toList).length - 1) [] := by
    unfold baseL
    rw [List.getLast_eq_getElem, List.getD_eq_getElem?_getD, List.getElem?_eq_getElem (by omega)]; rfl
  rw [hup, hba]
  obtain ⟨ls, Hls⟩ := hid_name (partsL 47 s.data.toList)
  have HJ : Hid ((joinL ls).length = s.size) := by unfold Hid; rw [← Hls.out, hjl, hsl]
  have HM : Hid (∀ j, (ls.getD j []).length ≤ s.size) := fun j => by rw [← Hls.out, ← hsl]; exact partsL_getD 47 _ j
  obtain ⟨n, Hn⟩ := hid_name ls.length
  rw [Hls.out, Hn.out] at hp1 hp2 ⊢
  rw [hsl] at hp2
  clear hsl hjl hup hba
  go_enter Tryd.func61, Tryd.ntmps61
  go_wp2_with fail
  refine (parts_any s 47 47 _ hs rfl).mono ?_; rintro e w1 ⟨v, rfl, hT, hB⟩
  rw [Hls.out] at hT
  obtain ⟨A, ca, rfl, hA⟩ := hT.any
  have HA := Lib.hid hA
  have HB1 := Lib.hid hB
  clear hA hT hB
  rw [Hn.out]
  go_wp2_with fail
  go_loopw [5, 6] (fun u i wr => ∃ (k m : Nat) (t : ByteArray), i = .int .i64 k ∧ u = .string t ∧ k ≤ n - 1 ∧ t.size ≤ s.size ∧ Hid (t = ⟨(joinL (ls.take k)).toArray⟩) ∧ Hid (wr = w1.drewN m)) (fun _ i _ => n - 1 - (intOf i).toNat)
  case atStart => exact ⟨0, 0, ⟨#[]⟩, rfl, rfl, Nat.zero_le _, Nat.zero_le _, rfl, rfl⟩
  case round =>
    obtain ⟨k, m, t, rfl, rfl, hk, hts, HE, HW⟩ := hrel
    by_cases hlt : k < n - 1
    · have hltz : (k : Int) < (n : Int) - 1 := by omega
      obtain ⟨g, rfl, _, _, hc⟩ := HA.out k (by rw [Hn.out]; omega)
      have hc' : wr.cell? ⟨g, k, none⟩ = some (strV (ls.getD k [])) := by rw [HW.out]; exact hc
      clear hc
      unfold strV at hc'
      obtain ⟨sx, Hsx⟩ := hid_name (⟨(ls.getD k []).toArray⟩ : ByteArray)
      have hxs : sx.size ≤ s.size := by rw [← Hsx.out, size_mk]; exact HM.out k
      rw [Hsx.out] at hc'
      have HT := Lib.hid (getD_take_snoc ls k (by rw [Hn.out]; omega))
      have HL := Lib.hid (joinL_take_le ls (k + 1))
      by_cases h0 : k = 0
      · have HE1 : Hid (t ++ sx = ⟨(joinL (ls.take (k + 1))).toArray⟩) := by
          unfold Hid; rw [HE.out, HT.out, h0, ← Hsx.out, h0, str_app]; rfl
        have hs1 : (t ++ sx).size ≤ s.size := by rw [HE1.out, size_mk]; have := HL.out; rw [HJ.out] at this; exact this
        have h0' : (k : Int) ≤ 0 := by omega
        clear h0
        go_wp2_with fail
        go_roundw
        case rel => exact ⟨k + 1, m, _, by go_num, rfl, by omega, hs1, HE1, HW⟩
        case measure => simp [intOf]; omega
      · have HE1 : Hid (t ++ ⟨#[47]⟩ ++ sx = ⟨(joinL (ls.take (k + 1))).toArray⟩) := by
          unfold Hid; rw [HE.out, HT.out, ← Hsx.out, str_add2, joinL_snoc]
          intro e
          have := congrArg List.length e
          rw [List.length_take, Hn.out] at this; simp at this; omega
        have hs1 : (t ++ ⟨#[47]⟩ ++ sx).size ≤ s.size := by rw [HE1.out, size_mk]; have := HL.out; rw [HJ.out] at this; exact this
        have h0' : 0 < (k : Int) := by omega
        have hs2 : (t ++ ⟨#[47]⟩).size ≤ s.size + 1 := by rw [ByteArray.size_append]; show t.size + 1 ≤ _; omega
        clear h0
        go_wp2_with fail
        go_roundw
        case rel => exact ⟨k + 1, m, _, by go_num, rfl, by omega, hs1, HE1, HW⟩
        case measure => simp [intOf]; omega
    · obtain rfl : k = n - 1 := by omega
      obtain ⟨g, rfl, _, _, hc⟩ := HA.out (n - 1) (by rw [Hn.out]; omega)
      have hc' : wr.cell? ⟨g, n - 1, none⟩ = some (strV (ls.getD (n - 1) [])) := by rw [HW.out]; exact hc
      clear hc
      unfold strV at hc'
      have b0 : (0 : Int) ≤ (n : Int) - 1 := by omega
      have b0' : (1 : Int) ≤ (n : Int) := by omega
      have b1 : (n : Int) - 1 < (n : Int) := by omega
      have b2 : IntKind.i64.wrap ((n : Int) - 1) = (n : Int) - 1 := IntWalk.i64_in _ (by omega)
      have b7 : ((n : Int) - 1).toNat = n - 1 := by omega
      have b8 : ((n - 1 : Nat) : Int) = (n : Int) - 1 := by omega
      clear hlt
      go_wp2_with fail
      go_quiet (fail)
      go_wp2_with fail
      go_ret2
      exact ⟨ret_2str HE.out rfl, by rw [HW.out]; exact drewN_below (drewN_below HB1.out _) _⟩
theorem strs_get (ls : List (List UInt8)) (j : Nat) (h : j < ls.length) : (ls.map fun l => (⟨l.toArray⟩ : ByteArray)).getD j ByteArray.empty = ⟨(ls.getD j []).toArray⟩ := by
  simp [List.getD_eq_getElem?_getD, h]
theorem strs_inj (xs ys : List (List UInt8)) : (xs.map fun l => (⟨l.toArray⟩ : ByteArray)) = (ys.map fun l => (⟨l.toArray⟩ : ByteArray)) ↔ xs = ys := by
  constructor
  · intro h
    have := congrArg (List.map fun b : ByteArray => b.data.toList) h
    rw [List.map_map, List.map_map] at this
    simpa [Function.comp_def] using this
  · intro h; rw [h]
theorem Equal_any (A B : Option Addr) (ca cb : Nat) (xs ys : List (List UInt8)) (w : World) (hx : xs.length ≤ 9223372036854775807) (hy : ys.length ≤ 9223372036854775807)
    (hA : ∀ j, j < xs.length → ∃ g, A = some ⟨g, 0, none⟩ ∧ w.cell? ⟨g, j, none⟩ = some (strV (xs.getD j []))) (hB : ∀ j, j < ys.length → ∃ g, B = some ⟨g, 0, none⟩ ∧ w.cell? ⟨g, j, none⟩ = some (strV (ys.getD j []))) :
    Calls Tryd.prog 36 #[.slice A xs.length ca, .slice B ys.length cb] w fun e w' => e = .returned (.bool (decide (xs = ys))) ∧ ∃ q, w' = w.drewN q := by
  by_cases hl : xs.length = ys.length
  · by_cases h0 : xs.length = 0
    · have hx0 : xs = [] := List.eq_nil_of_length_eq_zero h0
      have hy0 : ys = [] := List.eq_nil_of_length_eq_zero (by omega)
      subst hx0; subst hy0
      exact (Tryd.slices_Equal_string_empty A B ca 0 cb w (by decide)).mono fun e w' ⟨a, b⟩ => ⟨by rw [a]; rfl, 0, by rw [b]; rfl⟩
    · obtain ⟨g1, rfl, _⟩ := hA 0 (by omega)
      obtain ⟨g2, rfl, _⟩ := hB 0 (by omega)
      have h := Tryd.slices_Equal_string g1 0 xs.length ca g2 0 ys.length cb (xs.map fun l => (⟨l.toArray⟩ : ByteArray)) (ys.map fun l => (⟨l.toArray⟩ : ByteArray)) w (by simp) (by simp) hx hy
        (fun j hj => by
          rw [List.length_map] at hj
          obtain ⟨g, e, hc⟩ := hA j hj
          obtain rfl : g1 = g := by injection e with e; injection e
          rw [strs_get _ _ hj, Nat.zero_add]; exact hc)
        (fun j hj => by
          rw [List.length_map] at hj
          obtain ⟨g, e, hc⟩ := hB j hj
          obtain rfl : g2 = g := by injection e with e; injection e
          rw [strs_get _ _ hj, Nat.zero_add]; exact hc)
      refine h.mono fun e w' ⟨a, q, b⟩ => ⟨?_, q, b⟩
      rw [a, List.take_of_length_le (by simp), List.take_of_length_le (by simp)]
      congr 2
      rw [decide_eq_decide]; exact strs_inj xs ys
  · exact (Tryd.slices_Equal_string_lens A B xs.length ca ys.length cb w hl).mono fun e w' ⟨a, b⟩ => ⟨by rw [a, decide_eq_false (fun e => hl (by rw [e]))], 0, by rw [b]; rfl⟩
theorem sameTexts_any (A B : Option Addr) (ca cb : Nat) (xs ys : List (List UInt8)) (w : World) (hx : xs.length ≤ 9223372036854775807) (hy : ys.length ≤ 9223372036854775807)
    (hA : ∀ j, j < xs.length → ∃ g, A = some ⟨g, 0, none⟩ ∧ w.cell? ⟨g, j, none⟩ = some (strV (xs.getD j []))) (hB : ∀ j, j < ys.length → ∃ g, B = some ⟨g, 0, none⟩ ∧ w.cell? ⟨g, j, none⟩ = some (strV (ys.getD j []))) :
    Calls Tryd.prog 14 #[.slice A xs.length ca, .slice B ys.length cb] w fun e w' => e = .returned (.bool (decide (xs = ys))) ∧ ∃ q, w' = w.drewN q := by
  have hc := Lib.hid (Equal_any A B ca cb xs ys w hx hy hA hB)
  obtain ⟨n, hn⟩ : ∃ n, Hid (xs.length = n) := ⟨_, rfl⟩
  obtain ⟨m, hm⟩ : ∃ m, Hid (ys.length = m) := ⟨_, rfl⟩
  clear hA hB hx hy
  go_enter Tryd.func14, Tryd.ntmps14
  go_wp2_with fail
  refine (hc.out).mono ?_; rintro e w' ⟨rfl, q, rfl⟩
  go_wp2_with fail
  go_ret
  exact ⟨rfl, q, rfl⟩
end Go.Proofs.YtdcbmjihpjnbbaaDoor
