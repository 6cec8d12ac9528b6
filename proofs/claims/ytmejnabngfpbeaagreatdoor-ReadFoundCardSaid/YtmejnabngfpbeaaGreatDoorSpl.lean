/- Texts of one kind, in one file: SplA, SplB. -/
import Derived.Test.YtmejnabngfpbeaaGreatDoorMth
import Derived.Test.YtmejnabngfpbeaaGreatDoorPth
import Derived.Test.YtmejnabngfpbeaaGreatDoorFld
import Derived.Test.YtmejnabngfpbeaaGreatDoorShelf
import Derived.Shelf.Strings.SplitCore
set_option linter.unusedVariables false
set_option maxRecDepth 100000
namespace Go.Proofs.YtmejnabngfpbeaaGreatDoor
open Go.RowKit
open Go.OpenShut
theorem Texts.mono {w : World} {B B' : Nat} {v : Value} {ls : List (List UInt8)} (h : Texts w B v ls) (hB : B' ≤ B) : Texts w B' v ls := by
 unfold Texts World.ownsRow at *
 refine ⟨h.1, ?_⟩
 rcases h.2 with h | ⟨g, cap, cur, e1, e2, h⟩
 ·exact .inl h
 ·exact .inr ⟨g, cap, cur, e1, by omega, h⟩
theorem Texts.lit {w : World} (ls : List (List UInt8)) (hm : ls.length ≤ maxLen) : Texts (w.alloc (.cells (strC ls).toArray 9)) w.heap.size (.slice (some ⟨w.heap.size, 0, none⟩) ls.length ls.length) ls := by
 have := World.ownsRow_lit (base := w.heap.size) (e := 9) (size := 1) w (strC ls).toArray ls.length (Nat.le_refl _) hm (by simp)
 unfold Texts
 simpa using this
theorem genSplit_slash (s : ByteArray) (w : World) (hs : s.size < 4294967281) :
  Calls Tryz.prog 200 #[.string s, .string ⟨#[47]⟩, .int .i64 0, .int .i64 (-1)] w fun e w' =>
   e = .returned (.slice (some ⟨w.heap.size, 0, none⟩) (partsL 47 s.data.toList).length (partsL 47 s.data.toList).length) ∧ w' = w.alloc (.cells (strC (partsL 47 s.data.toList)).toArray 9) := by
 have hc := countB_slash s
 have hl := partsL_length 47 s.data.toList
 have hle := List.count_le_length (l := s.data.toList) (a := 47)
 have hsz : s.data.toList.length = s.size := by simp
 have h := Any.strings_genSplit_core Tryz.lays221 (by kernel_rfl) s ⟨#[47]⟩ 0 (-1) (Lib.countB s ⟨#[47]⟩ + 1) w hs (by decide) (Nat.zero_le _)
  (fun x c _ => (Tryz.strings_Index_one x 47 _).mono fun e w' ⟨a, b⟩ => ⟨by rw [a]; exact congrArg (fun z => Ending.returned (.int .i64 z)) (Lib.index_one x.data.toList 47).symm, b⟩)
  ((Tryz.strings_Count_one s 47 w).mono fun e w' ⟨a, b⟩ => ⟨by rw [a, hc]; rfl, b⟩) (by decide) (by decide) (by rw [if_pos (by decide), hc]; omega)
 have hb := splitB_parts s _ rfl
 have hlen : (Lib.splitB ⟨#[47]⟩ 0 (s.data.toList.count 47) s).length = (partsL 47 s.data.toList).length := by
  have := congrArg List.length hb; simpa using this
 rw [Nat.add_sub_cancel, hc, hlen, ← hl] at h
 have hcell : Lib.cellsOf (Lib.splitB ⟨#[47]⟩ 0 (s.data.toList.count 47) s) (partsL 47 s.data.toList).length = (strC (partsL 47 s.data.toList)).toArray := by
  rw [← hlen, Lib.cellsOf_full, hb]
 rw [hcell] at h
 exact h
theorem Split_slash (s : ByteArray) (w : World) (hs : s.size < 4294967281) :
  Calls Tryz.prog 123 #[.string s, .string ⟨#[47]⟩] w fun e w' =>
   e = .returned (.slice (some ⟨w.heap.size, 0, none⟩) (partsL 47 s.data.toList).length (partsL 47 s.data.toList).length) ∧ w' = w.alloc (.cells (strC (partsL 47 s.data.toList)).toArray 9) := by
 go_enter Tryz.func123, Tryz.ntmps123
 go_wp2_with fail
 refine (genSplit_slash s _ hs).mono ?_; rintro e w' ⟨rfl, rfl⟩
 go_wp2_with fail
 go_ret
 exact ⟨rfl, rfl⟩
theorem Parts_any (s : ByteArray) (w : World) (hs : s.size < 4294967281) :
  Calls Tryz.prog 124 #[.string s] w fun e w' => ∃ v, e = .returned v ∧ Texts w' w.heap.size v (pp s.data.toList) ∧ Below w.heap.size w w' := by
 by_cases h0 : s.data.toList = []
 ·have e0 := toList_nil h0
  rw [h0, pp_nil]
  clear h0
  go_enter Tryz.func124, Tryz.ntmps124
  go_wp2_with fail
  go_ret
  exact ⟨_, rfl, Texts.nil _ _, Below.refl _ _⟩
 ·have e0 := toList_ne h0
  rw [pp_ne h0]
  clear h0
  have hm : (partsL 47 s.data.toList).length ≤ maxLen := by
   have h1 := partsL_le 47 s.data.toList
   have h2 : s.data.toList.length = s.size := by simp
   unfold maxLen; omega
  go_enter Tryz.func124, Tryz.ntmps124
  go_wp2_with fail
  refine (Clone_any s _ (by omega)).mono ?_; rintro e w1 ⟨rfl, hB1⟩
  go_wp2_with fail
  refine (Split_slash s _ hs).mono ?_; rintro e w2 ⟨rfl, rfl⟩
  have HB := Lib.hid (hB1.alloc hB1.size (.cells (strC (partsL 47 s.data.toList)).toArray 9))
  have HT := Lib.hid ((Texts.lit (w := w1) _ hm).mono hB1.size)
  clear hB1 hm
  go_wp2_with fail
  go_ret
  exact ⟨_, rfl, HT.out, HB.out⟩
theorem LastIndexByte_any (s : ByteArray) (w : World) (hs : s.size ≤ 281474976710656) : Calls Tryz.prog 132 #[.string s, .int .u8 47] w fun e w' => e = .returned (.int .i64 (Lib.lastIndexByte s 47)) ∧ w = w' :=
 (Tryz.strings_LastIndexByte s 47 (by omega) w).mono fun e w' ⟨a, b⟩ => ⟨a, b.symm⟩
theorem ext_listT (s : ByteArray) (k : Nat) : s.extract 0 k = ⟨(s.data.toList.take k).toArray⟩ := by
 apply ByteArray.ext; apply Array.toList_inj.1
 rw [ByteArray.data_extract, Array.toList_extract]; simp [List.extract]
theorem ext_size_le (s : ByteArray) (a b : Nat) : (s.extract a b).size ≤ s.size := by rw [ByteArray.size_extract]; omega
theorem Up_any (s : ByteArray) (w : World) (hs : s.size ≤ 281474976710656) : Calls Tryz.prog 77 #[.string s] w fun e w' => e = .returned (.string ⟨(upL s.data.toList).toArray⟩) ∧ Below w.heap.size w w' := by
 rcases last_cases s with ⟨h1, h2, -, -⟩ | ⟨i, hi, h1, h2, -, -⟩
 ·have H1 := Lib.hid h1
  rw [h2]
  clear h1 h2
  go_enter Tryz.func77, Tryz.ntmps77
  go_wp2_with fail
  refine (LastIndexByte_any s _ hs).mono ?_; rintro e w' ⟨rfl, rfl⟩
  rw [H1.out]
  go_wp2_with fail
  rw [show (max (-1 : Int) 0).toNat = 0 from rfl]
  have hx := ext_size_le s 0 0
  refine (Clone_any _ _ (by omega)).mono ?_; rintro e w1 ⟨rfl, hB1⟩
  have HB := Lib.hid hB1
  clear hB1 hx
  go_wp2_with fail
  go_ret
  exact ⟨ret_str rfl, HB.out⟩
 ·have H1 := Lib.hid h1
  rw [h2, ← ext_listT]
  have hx := ext_size_le s 0 i
  clear h1 h2
  go_enter Tryz.func77, Tryz.ntmps77
  go_wp2_with fail
  refine (LastIndexByte_any s _ hs).mono ?_; rintro e w' ⟨rfl, rfl⟩
  rw [H1.out]
  go_wp2_with fail
  refine (Clone_any _ _ (by omega)).mono ?_; rintro e w1 ⟨rfl, hB1⟩
  go_wp2_with fail
  go_ret
  exact ⟨rfl, hB1⟩
theorem isName_any (s : ByteArray) (w : World) : Calls Tryz.prog 125 #[.string s] w fun e w' => e = .returned (.bool (nameB s.data.toList)) ∧ w = w' := by
 by_cases h0 : s.data.toList = []
 ·have e0 := toList_nil h0
  rw [nameB_false _ (.inl h0)]
  clear h0
  go_enter Tryz.func125, Tryz.ntmps125
  go_wp2_with fail
  go_ret
  exact ⟨rfl, rfl⟩
 ·have e0 := toList_ne h0
  have e0' : (!s.toList.isEmpty) = true := by rw [e0]; rfl
  by_cases h1 : s.data.toList = [46]
  ·rw [nameB_false _ (.inr (.inl h1))]
   rw [← eq_const] at h1
   clear h0 e0 e0'
   go_enter Tryz.func125, Tryz.ntmps125
   go_wp2_with fail
   go_ret
   exact ⟨rfl, rfl⟩
  ·by_cases h2 : s.data.toList = [46, 46]
   ·rw [nameB_false _ (.inr (.inr h2))]
    rw [← eq_const] at h2
    clear h0 h1 e0 e0'
    go_enter Tryz.func125, Tryz.ntmps125
    go_wp2_with fail
    go_ret
    exact ⟨rfl, rfl⟩
   ·rw [nameB_true _ h0 h1 h2]
    rw [← eq_const] at h1 h2
    have d1 : (s.toList == [46]) = false := by simpa using h1
    have d2 : (s.toList == [46, 46]) = false := by simpa using h2
    clear h0
    go_enter Tryz.func125, Tryz.ntmps125
    go_wp2_with fail
    go_ret
    exact ⟨rfl, rfl⟩
theorem Check_size (s : ByteArray) (w : World) (hs : s.size ≤ maxLen) (h : s.size < 1 ∨ 400 < s.size) : Calls Tryz.prog 72 #[.string s] w fun e w' => e = .returned (.int .i64 1) ∧ w = w' := by
 unfold maxLen at hs
 rcases h with h | h
 all_goals
  go_enter Tryz.func72, Tryz.ntmps72
  go_wp2_with fail
  go_ret
  exact ⟨rfl, rfl⟩
theorem Check_form (s : ByteArray) (w : World) (h1 : 1 ≤ s.size) (h2 : s.size ≤ 400) (h : hasB 0 s.data.toList = true) : Calls Tryz.prog 72 #[.string s] w fun e w' => e = .returned (.int .i64 3) ∧ w = w' := by
 have HB := Lib.hid h
 clear h
 go_enter Tryz.func72, Tryz.ntmps72
 go_wp2_with fail
 refine (IndexByte_yes _ _ HB.out).mono ?_; rintro e w' ⟨rfl, rfl⟩
 go_wp2_with fail
 go_ret
 exact ⟨rfl, rfl⟩
set_option maxHeartbeats 1000000 in
theorem Check_parts (s : ByteArray) (w : World) (h1 : 1 ≤ s.size) (h2 : s.size ≤ 400) (h : hasB 0 s.data.toList = false) :
  Calls Tryz.prog 72 #[.string s] w fun e w' => e = .returned (.int .i64 (allE (partsL 47 s.data.toList))) ∧ Below w.heap.size w w' := by
 have hne : s.data.toList ≠ [] := fun e => by
  have h3 : s.data.toList.length = s.size := by simp
  rw [e] at h3; simp at h3; omega
 have hpp := Lib.hid (pp_ne hne)
 have HB := Lib.hid h
 obtain ⟨ls, Hls⟩ := hid_name (partsL 47 s.data.toList)
 have hll : ls.length ≤ 401 := by
  have h3 := partsL_le 47 s.data.toList
  have h4 : s.data.toList.length = s.size := by simp
  rw [Hls.out] at h3; omega
 obtain ⟨n, Hn⟩ := hid_name ls.length
 rw [Hn.out] at hll
 rw [Hls.out]
 clear h hne
 go_enter Tryz.func72, Tryz.ntmps72
 go_wp2_with fail
 refine (IndexByte_no _ _ HB.out).mono ?_; rintro e w' ⟨rfl, rfl⟩
 go_wp2_with fail
 refine (Parts_any _ _ (by omega)).mono ?_; rintro e w1 ⟨v, rfl, hT, hB⟩
 rw [hpp.out, Hls.out] at hT
 obtain ⟨A, ca, rfl, hA⟩ := hT.any
 have HA := Lib.hid hA
 have HB1 := Lib.hid hB
 clear hA hT hB
 rw [Hn.out]
 go_wp2_with fail
 go_loopw [19] (fun i wr => ∃ k m : Nat, i = .int .i64 k ∧ k ≤ n ∧ Hid ((ls.take k).all nameB = true) ∧ Hid (wr = w1.drewN m)) (fun i _ => n - (intOf i).toNat)
 case atStart => exact ⟨0, 0, rfl, Nat.zero_le _, rfl, rfl⟩
 case round =>
  obtain ⟨k, m, rfl, hk, HE, HW⟩ := hrel
  by_cases hlt : k < n
  ·obtain ⟨g, rfl, _, _, hc⟩ := HA.out k (by rw [Hn.out]; exact hlt)
   have hc' : wr.cell? ⟨g, k, none⟩ = some (strV (ls.getD k [])) := by rw [HW.out]; exact hc
   clear hc
   unfold strV at hc'
   obtain ⟨sx, Hsx⟩ := hid_name (⟨(ls.getD k []).toArray⟩ : ByteArray)
   rw [Hsx.out] at hc'
   have Hx : Hid (sx.data.toList = ls.getD k []) := by unfold Hid; rw [← Hsx.out]
   cases hn : nameB sx.data.toList
   ·have HR := Lib.hid (allE_no (all_take_no ls nameB k (by rw [Hn.out]; exact hlt) (by rw [← Hx.out]; exact hn)))
    have HN := Lib.hid hn
    clear hn
    go_wp2_with fail
    refine (isName_any _ _).mono ?_; rintro e w' ⟨rfl, rfl⟩
    rw [HN.out]
    go_wp2_with fail
    go_ret
    exact ⟨ret_int HR.out.symm, by rw [HW.out]; exact drewN_below HB1.out _⟩
   ·have HR := Lib.hid (all_take_snoc ls nameB k (by rw [Hn.out]; exact hlt) HE.out (by rw [← Hx.out]; exact hn))
    have HN := Lib.hid hn
    clear hn
    go_wp2_with fail
    refine (isName_any _ _).mono ?_; rintro e w' ⟨rfl, rfl⟩
    rw [HN.out]
    go_wp2_with fail
    go_roundw
    case rel => exact ⟨k + 1, m, by go_num, by omega, HR, HW⟩
    case measure => simp [intOf]; omega
  ·obtain rfl : k = n := by omega
   have HR : Hid (allE ls = 0) := by have := HE.out; rw [← Hn.out, List.take_length] at this; exact allE_yes this
   go_wp2_with fail
   go_ret
   exact ⟨ret_int HR.out.symm, by rw [HW.out]; exact drewN_below HB1.out _⟩
theorem Check_any (s : ByteArray) (w : World) (hs : s.size ≤ maxLen) : Calls Tryz.prog 72 #[.string s] w fun e w' => e = .returned (.int .i64 (pathE s.data.toList)) ∧ Below w.heap.size w w' := by
 have hl : s.data.toList.length = s.size := by simp
 by_cases h : s.data.toList.length < 1 ∨ 400 < s.data.toList.length
 ·rw [pathE_size h]; rw [hl] at h
  exact (Check_size s w hs h).mono fun e w' ⟨a, b⟩ => ⟨a, b ▸ Below.refl _ _⟩
 ·cases h2 : hasB 0 s.data.toList
  ·have hc := Check_parts s w (by omega) (by omega) h2
   cases h3 : (partsL 47 s.data.toList).all nameB
   ·rw [pathE_no h h2 h3]; rw [allE_no h3] at hc; exact hc
   ·rw [pathE_ok h h2 h3]; rw [allE_yes h3] at hc; exact hc
  ·rw [pathE_form h h2]
   exact (Check_form s w (by omega) (by omega) h2).mono fun e w' ⟨a, b⟩ => ⟨a, b ▸ Below.refl _ _⟩
end Go.Proofs.YtmejnabngfpbeaaGreatDoor
