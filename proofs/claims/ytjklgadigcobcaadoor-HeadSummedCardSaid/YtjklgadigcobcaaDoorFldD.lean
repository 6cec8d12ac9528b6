/- Package field's reading. -/
import Derived.Test.YtjklgadigcobcaaDoorFldA
import Derived.Test.YtjklgadigcobcaaDoorShelf
set_option linter.unusedVariables false
set_option maxRecDepth 100000
namespace Go.Proofs.YtjklgadigcobcaaDoor
open Go.RowKit
open Go.OpenShut
theorem Clone_any (s : ByteArray) (w : World) (hs : s.size ≤ 281474976710656) : Calls Tryd.prog 52 #[.string s] w fun e w' => e = .returned (.string s) ∧ Below w.heap.size w w' := by
  go_enter Tryd.func52, Tryd.ntmps52
  go_wp2_with fail
  refine (Tryd.stringslite_Clone s _ hs).mono ?_; rintro e w1 ⟨rfl, hb⟩
  go_wp2_with fail
  go_ret
  exact ⟨rfl, hb⟩
theorem drop_extract (s : ByteArray) (k : Nat) : (s.extract k s.size).data.toList = s.data.toList.drop k := by
  rw [ByteArray.data_extract, Array.toList_extract]; simp [List.extract]
  rw [List.take_of_length_le (by simp)]
theorem take_extract' (s : ByteArray) (k : Nat) : s.extract 0 k = ⟨(s.data.toList.take k).toArray⟩ := by
  apply ByteArray.ext; apply Array.toList_inj.1
  rw [ByteArray.data_extract, Array.toList_extract]; simp [List.extract]
theorem extract_size_le (s : ByteArray) (a b : Nat) : (s.extract a b).size ≤ s.size := by
  rw [ByteArray.size_extract]; omega
theorem extract_full (s : ByteArray) : s.extract 0 s.size = s := by
  apply ByteArray.ext; apply Array.toList_inj.1
  rw [drop_extract]; rfl
theorem fRead_range (s : ByteArray) (wh : Bool) (w : World) (hs : s.size ≤ maxLen) (h : s.size < 1 ∨ 512 < s.size) : Calls Tryd.prog 39 #[.string s, .bool wh] w fun e w' => e = .returned (.tuple #[.string ⟨#[]⟩, .int .i64 4]) ∧ Below w.heap.size w w' := by
  have hw : wdB (s.size : Int) = false := wdB_no (by omega)
  unfold maxLen at hs
  clear h
  go_enter Tryd.func39, Tryd.ntmps39
  go_wp2_with fail
  refine (fisWidth_any _ _).mono ?_; rintro e w' ⟨rfl, rfl⟩
  go_wp2_with fail
  go_ret2
  exact ⟨rfl, Below.refl _ _⟩
set_option maxHeartbeats 800000 in
theorem fRead_in (s : ByteArray) (wh : Bool) (w : World) (h1 : 1 ≤ s.size) (h2 : s.size ≤ 512) : Calls Tryd.prog 39 #[.string s, .bool wh] w fun e w' => e = .returned (.tuple #[.string (fldR s.data.toList wh).1, .int .i64 (fldR s.data.toList wh).2]) ∧ Below w.heap.size w w' := by
  have hw : wdB (s.size : Int) = true := wdB_yes (by omega)
  have HL := Lib.hid (show s.data.toList.length = s.size by simp)
  obtain ⟨p, Hp⟩ := hid_name (pos 0 s.data.toList)
  have hp : p ≤ s.size := by rw [← Hp.out, ← HL.out]; exact pos_le _ _
  have hE := Lib.hid (drop_extract s p)
  have hes := extract_size_le s p s.size
  have hes2 := extract_size_le s 0 p
  have hm : (s.extract p s.size).size ≤ maxLen := by unfold maxLen; omega
  have hlong : Hid (roomV s.size wh < p → (fldR s.data.toList wh) = (⟨#[]⟩, 3)) := fun h => by
    refine fldR_form (by rw [HL.out]; omega) (.inl ?_)
    rw [Hp.out, HL.out]
    cases wh
    · simp only [roomV, Bool.false_eq_true, if_false] at h; exact ⟨rfl, by omega⟩
    · simp only [roomV, if_true] at h; omega
  have hbad : Hid (allZ (s.data.toList.drop p) = false → (fldR s.data.toList wh) = (⟨#[]⟩, 3)) := fun h => by
    exact fldR_form (by rw [HL.out]; omega) (.inr (by rw [Hp.out]; exact h))
  have hgood : Hid ((p : Int) ≤ roomV s.size wh → allZ (s.data.toList.drop p) = true → (fldR s.data.toList wh) = (s.extract 0 p, 0)) := fun h h' => by
    rw [fldR_ok (by rw [HL.out]; omega) ?_ (by rw [Hp.out]; exact h'), Hp.out, take_extract']
    rintro ⟨rfl, e⟩
    rw [Hp.out, HL.out] at e
    simp only [roomV, Bool.false_eq_true, if_false] at h; omega
  have hP := hasB_pos 0 s.data.toList
  rw [Hp.out, HL.out] at hP
  have HP := Lib.hid hP
  clear hP
  by_cases hlt : p < s.size
  · by_cases hr : roomV (s.size : Int) wh < (p : Int)
    · skip
      go_enter Tryd.func39, Tryd.ntmps39
      go_wp2_with fail
      refine (fisWidth_any _ _).mono ?_; rintro e w' ⟨rfl, rfl⟩
      go_wp2_with fail
      refine (IndexByte_yes _ _ (by rw [HP.out]; exact decide_eq_true hlt)).mono ?_; rintro e w' ⟨rfl, rfl⟩; rw [Hp.out]
      go_wp2_with fail
      refine (room_any _ _ _ (by omega) (by omega)).mono ?_; rintro e w' ⟨rfl, rfl⟩
      go_wp2_with fail
      go_ret2
      have hf := hlong.out hr
      exact ⟨ret_strint2 (by rw [hf]) (by rw [hf]), Below.refl _ _⟩
    · skip
      go_enter Tryd.func39, Tryd.ntmps39
      go_wp2_with fail
      refine (fisWidth_any _ _).mono ?_; rintro e w' ⟨rfl, rfl⟩
      go_wp2_with fail
      refine (IndexByte_yes _ _ (by rw [HP.out]; exact decide_eq_true hlt)).mono ?_; rintro e w' ⟨rfl, rfl⟩; rw [Hp.out]
      go_wp2_with fail
      refine (room_any _ _ _ (by omega) (by omega)).mono ?_; rintro e w' ⟨rfl, rfl⟩
      go_wp2_with fail
      refine (isZero_any _ _ hm).mono ?_; rintro e w' ⟨rfl, rfl⟩
      rw [hE.out]
      cases hA : allZ (s.data.toList.drop p)
      · have hf := hbad.out hA
        clear hA
        go_wp2_with fail
        go_ret2
        exact ⟨ret_strint2 (by rw [hf]) (by rw [hf]), Below.refl _ _⟩
      · have hf := Lib.hid (hgood.out (by omega) hA)
        clear hA
        go_wp2_with fail
        refine (Clone_any _ _ (by omega)).mono ?_; rintro e w1 ⟨rfl, hb⟩
        go_wp2_with fail
        go_ret2
        exact ⟨ret_strint2 (by rw [hf.out]) (by rw [hf.out]), hb⟩
  · obtain rfl : p = s.size := by omega
    have hee : s.extract s.size s.size = ByteArray.empty := by apply ByteArray.ext; apply Array.toList_inj.1; rw [drop_extract, List.drop_of_length_le (by simp)]; rfl
    have hA : allZ (s.data.toList.drop s.size) = true := by rw [List.drop_of_length_le (by simp)]; rfl
    have hf := Lib.hid fun h => hgood.out h hA
    clear hA hee
    by_cases hr : roomV (s.size : Int) wh < (s.size : Int)
    · skip
      go_enter Tryd.func39, Tryd.ntmps39
      go_wp2_with fail
      refine (fisWidth_any _ _).mono ?_; rintro e w' ⟨rfl, rfl⟩
      go_wp2_with fail
      refine (IndexByte_no _ _ (by rw [HP.out]; exact decide_eq_false hlt)).mono ?_; rintro e w' ⟨rfl, rfl⟩
      go_wp2_with fail
      refine (room_any _ _ _ (by omega) (by omega)).mono ?_; rintro e w' ⟨rfl, rfl⟩
      go_wp2_with fail
      go_ret2
      have hf := hlong.out hr
      exact ⟨ret_strint2 (by rw [hf]) (by rw [hf]), Below.refl _ _⟩
    · skip
      go_enter Tryd.func39, Tryd.ntmps39
      go_wp2_with fail
      refine (fisWidth_any _ _).mono ?_; rintro e w' ⟨rfl, rfl⟩
      go_wp2_with fail
      refine (IndexByte_no _ _ (by rw [HP.out]; exact decide_eq_false hlt)).mono ?_; rintro e w' ⟨rfl, rfl⟩
      go_wp2_with fail
      refine (room_any _ _ _ (by omega) (by omega)).mono ?_; rintro e w' ⟨rfl, rfl⟩
      go_wp2_with fail
      have hf' := Lib.hid ((hf.out hr).trans (show (s.extract 0 s.size, (0 : Int)) = (s, 0) by rw [extract_full]))
      refine (isZero_any _ _ (by first | exact hm | decide)).mono ?_; rintro e w' ⟨rfl, rfl⟩
      rw [show allZ (ByteArray.empty).data.toList = true from rfl]
      go_wp2_with fail
      refine (Clone_any _ _ (by omega)).mono ?_; rintro e w1 ⟨rfl, hb⟩
      go_wp2_with fail
      go_ret2
      exact ⟨ret_strint2 (by rw [hf'.out]) (by rw [hf'.out]), hb⟩
theorem fRead_any (s : ByteArray) (wh : Bool) (w : World) (hs : s.size ≤ maxLen) : Calls Tryd.prog 39 #[.string s, .bool wh] w fun e w' => e = .returned (.tuple #[.string (fldR s.data.toList wh).1, .int .i64 (fldR s.data.toList wh).2]) ∧ Below w.heap.size w w' := by
  have hl : s.data.toList.length = s.size := by simp
  by_cases h : s.size < 1 ∨ 512 < s.size
  · rw [fldR_range (by rw [hl]; exact h)]; exact fRead_range s wh w hs h
  · exact fRead_in s wh w (by omega) (by omega)
end Go.Proofs.YtjklgadigcobcaaDoor
