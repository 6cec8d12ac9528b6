/- The laws of paths' parts. -/
import Derived.Test.YtjnbplilkcbioaaDoorSplB
set_option linter.unusedVariables false
set_option maxRecDepth 100000
namespace Go.Proofs.YtjnbplilkcbioaaDoor
open Go.RowKit
open Go.OpenShut
set_option maxHeartbeats 800000 in
theorem PathChecks_walk (a0 : ByteArray) (w0 : a0.size ≤ maxLen) (hb : a0.data.toList.length + 1 + 0 ≤ 1048576) (w : World) :
    Calls Tryd.prog 3 #[.string a0] w fun e w' => e = .returned (.bool true) ∧ Below w.heap.size w w' := by
  have hl : a0.data.toList.length = a0.size := by simp
  have hs : a0.size ≤ 1048576 := by omega
  have hpl : (pp a0.data.toList).length ≤ 1048577 := by
    unfold pp; split
    · simp
    · have := partsL_le 47 a0.data.toList; omega
  clear hb hl
  go_enter Tryd.func3, Tryd.ntmps3
  go_wp2_with fail
  refine (Check_any _ _ w0).mono ?_; rintro e w1 ⟨rfl, hB1⟩
  go_wp2_with fail
  refine (Parts_any _ _ (by omega)).mono ?_; rintro e w2 ⟨v, rfl, hT2, hB2⟩
  have hB12 := hB1.trans (hB2.mono hB1.size)
  obtain ⟨A, ca, rfl, -⟩ := hT2.any
  have HT2 := Lib.hid hT2
  have HB := Lib.hid hB12
  clear hB1 hB2 hB12 hT2
  go_wp2_with fail
  refine (Up_any _ _ (by omega)).mono ?_; rintro e w3 ⟨rfl, hB3⟩
  have HT3 := Lib.hid (HT2.out.below hB3)
  have HB3 := Lib.hid (HB.out.trans (hB3.mono HB.out.size))
  clear hB3 HT2 HB
  go_wp2_with fail
  refine (Base_any _ _ (by omega)).mono ?_; rintro e w4 ⟨rfl, hB4⟩
  have HT4 := Lib.hid (HT3.out.below hB4)
  have HB4 := Lib.hid (HB3.out.trans (hB4.mono HB3.out.size))
  clear hB4 HT3 HB3
  go_wp2_with fail
  refine (rFault_any _ _ w0).mono ?_; rintro e w5 ⟨rfl, hB5⟩
  have HT5 := Lib.hid (HT4.out.below hB5)
  have HB5 := Lib.hid (HB4.out.trans (hB5.mono HB4.out.size))
  clear hB5 HT4 HB4
  go_wp2_with fail
  refine (rParts_any _ _ (by omega)).mono ?_; rintro e w6 ⟨v, rfl, hT6, hB6⟩
  have HT6 := Lib.hid (HT5.out.below hB6)
  have HB6 := Lib.hid (HB5.out.trans (hB6.mono HB5.out.size))
  obtain ⟨B, cb, rfl, -⟩ := hT6.any
  have HU6 := Lib.hid hT6
  clear hB6 HT5 HB5 hT6
  go_wp2_with fail
  refine (rSplit_any _ _ (by omega)).mono ?_; rintro e w7 ⟨rfl, hB7⟩
  have HT7 := Lib.hid (HT6.out.below hB7)
  have HU7 := Lib.hid (HU6.out.below hB7)
  have HB7 := Lib.hid (HB6.out.trans (hB7.mono HB6.out.size))
  clear hB7 HT6 HU6 HB6
  go_wp2_with fail
  obtain ⟨A', ca', eA, hA⟩ := HT7.out.any
  obtain ⟨B', cb', eB, hB⟩ := HU7.out.any
  obtain ⟨rfl, rfl⟩ : A = A' ∧ ca = ca' := by simpa using eA
  obtain ⟨rfl, rfl⟩ : B = B' ∧ cb = cb' := by simpa using eB
  refine (sameTexts_any A B ca cb _ _ _ (by omega) (by omega) (fun j hj => ?_) (fun j hj => ?_)).mono ?_
  · obtain ⟨g, e, _, _, hc⟩ := hA j hj; exact ⟨g, e, hc⟩
  · obtain ⟨g, e, _, _, hc⟩ := hB j hj; exact ⟨g, e, hc⟩
  clear hA hB eA eB
  rintro e w' ⟨rfl, q, rfl⟩
  rw [decide_eq_true rfl]
  go_wp2_with fail
  go_ret
  exact ⟨rfl, drewN_below HB7.out _⟩
theorem Join_texts {w : World} {B : Nat} {v : Value} {ls : List (List UInt8)} (h : Texts w B v ls) (hn : ls.length ≤ 140737488355328) (hl : (joinL ls).length ≤ 140737488355328) :
    Calls Tryd.prog 15 #[v, .string ⟨#[47]⟩] w fun e w' => e = .returned (.string ⟨(joinL ls).toArray⟩) ∧ Below w.heap.size w w' := by
  have h' := h
  unfold Texts World.ownsRow at h'
  rcases h'.2 with ⟨rfl, h0⟩ | ⟨g, cap, cur, rfl, hB, hg, hcap, _⟩
  · have : ls = [] := List.eq_nil_of_length_eq_zero h0
    subst this
    exact (Tryd.strings_Join_none none 0 ⟨#[47]⟩ w).mono fun e w' ⟨a, b⟩ => ⟨a, b ▸ Below.refl _ _⟩
  · have hm : (ls.map fun l => (⟨l.toArray⟩ : ByteArray)).map (·.data.toList) = ls := by
      rw [List.map_map]; simp [Function.comp_def]
    have hj := join_joinL ls
    have hJ := Tryd.strings_Join g 0 cap (ls.map fun l => (⟨l.toArray⟩ : ByteArray)) ⟨#[47]⟩ w (fun j x hx => by
        obtain ⟨hj, e⟩ := List.getElem?_eq_some_iff.1 hx
        rw [List.length_map] at hj
        have := h.cell rfl j hj
        rw [Nat.zero_add, this, ← e]
        simp [strV, List.getD_eq_getElem?_getD, hj])
      (by
        rcases Nat.lt_or_ge g w.heap.size with h3 | h3
        · exact h3
        · rw [Array.getElem?_eq_none h3] at hg; cases hg)
      (by simpa using hn) (by simpa using hcap) (by rw [hm]; show (Lib.join ls [47]).length ≤ _; rw [hj]; exact hl)
    rw [hm, show (⟨#[47]⟩ : ByteArray).data.toList = [47] from rfl, hj] at hJ
    simpa using hJ
theorem Contains_slash (s : ByteArray) (w : World) : Calls Tryd.prog 14 #[.string s, .string ⟨#[47]⟩] w fun e w' => e = .returned (.bool (hasB 47 s.data.toList)) ∧ w = w' :=
  (Tryd.strings_Contains_one s 47 w).mono fun e w' ⟨a, b⟩ => ⟨by
    rw [a]; congr 2
    rw [indexByte_pos]
    cases hasB 47 s.data.toList
    · rfl
    · simp, b.symm⟩
set_option maxHeartbeats 1600000 in
theorem PathJoin_walk (a0 : ByteArray) (w0 : a0.size ≤ maxLen) (hb : a0.data.toList.length + 1 + 0 ≤ 1048576) (w : World) :
    Calls Tryd.prog 4 #[.string a0] w fun e w' => e = .returned (.bool true) ∧ Below w.heap.size w w' := by
  have hl : a0.data.toList.length = a0.size := by simp
  have hs : a0.size ≤ 1048576 := by omega
  have hjl := joinL_parts a0.data.toList
  have hpp : joinL (pp a0.data.toList) = a0.data.toList := by
    unfold pp; split
    · rename_i h; rw [h]; rfl
    · exact hjl
  have hpl : (pp a0.data.toList).length ≤ 1048577 := by
    unfold pp; split
    · simp
    · have := partsL_le 47 a0.data.toList; omega
  have hcase : (hasB 47 a0.data.toList = false ∧ baseL a0.data.toList = a0.data.toList) ∨ (hasB 47 a0.data.toList = true ∧ upL a0.data.toList ++ 47 :: baseL a0.data.toList = a0.data.toList) := by
    rcases last_cases a0 with ⟨_, _, h, h'⟩ | ⟨i, hi, h1, h2, h3, h4⟩
    · exact .inl ⟨h', h⟩
    · have hu : upL a0.data.toList = joinL ((partsL 47 a0.data.toList).dropLast) := rfl
      have hd : (partsL 47 a0.data.toList) = (partsL 47 a0.data.toList).dropLast ++ [baseL a0.data.toList] := (List.dropLast_concat_getLast (partsL_ne _ _)).symm
      have hne : (partsL 47 a0.data.toList).dropLast ≠ [] := fun e => by
        have hc : (partsL 47 a0.data.toList).length = 1 := by rw [hd, e]; rfl
        rw [partsL_length] at hc
        have h5 := count_cut 47 _ h4
        omega
      refine .inr ⟨h4, ?_⟩
      rw [hu, ← joinL_snoc _ _ hne, ← hd, hjl]
  have hup : (upL a0.data.toList).length ≤ a0.size := by
    unfold upL; rw [List.dropLast_eq_take]
    have := joinL_take_le (partsL 47 a0.data.toList) ((partsL 47 a0.data.toList).length - 1)
    rw [hjl, hl] at this; exact this
  have hlast : a0.data.toList ≠ [] → (pp a0.data.toList).getD ((pp a0.data.toList).length - 1) [] = baseL a0.data.toList := fun h => by
    have := partsL_pos 47 a0.data.toList
    rw [pp_ne h]
    unfold baseL
    rw [List.getLast_eq_getElem, List.getD_eq_getElem?_getD, List.getElem?_eq_getElem (by omega)]; rfl
  obtain ⟨u, Hu⟩ := hid_name (⟨(upL a0.data.toList).toArray⟩ : ByteArray)
  obtain ⟨b, Hb⟩ := hid_name (⟨(baseL a0.data.toList).toArray⟩ : ByteArray)
  have hus : u.size ≤ 1048576 := by rw [← Hu.out, size_mk]; omega
  have HP := Lib.hid hpp
  have HL := Lib.hid hlast
  obtain ⟨ls, Hls⟩ := hid_name (pp a0.data.toList)
  obtain ⟨n, Hn⟩ := hid_name ls.length
  rw [Hls.out, Hn.out] at hpl
  have hcs : (hasB 47 a0.data.toList = false ∧ b = a0) ∨ (hasB 47 a0.data.toList = true ∧ u ++ ⟨#[47]⟩ ++ b = a0) := by
    rcases hcase with ⟨h, e⟩ | ⟨h, e⟩
    · exact .inl ⟨h, by rw [← Hb.out, e, ba_self]⟩
    · exact .inr ⟨h, by rw [← Hu.out, ← Hb.out, str_add2, e, ba_self]⟩
  have hbs : b.size ≤ 1048576 := by
    rcases hcs with ⟨_, e⟩ | ⟨_, e⟩
    · rw [e]; exact hs
    · have := congrArg ByteArray.size e
      simp only [ByteArray.size_append] at this
      omega
  have hu1 : (u ++ ⟨#[47]⟩).size ≤ 1048577 := by rw [ByteArray.size_append]; show u.size + 1 ≤ _; omega
  have HC := Lib.hid hcs
  have HS := Lib.hid hl
  clear hl hb hjl hpp hcase hlast hcs hup
  go_enter Tryd.func4, Tryd.ntmps4
  go_wp2_with fail
  refine (Parts_any _ _ (by omega)).mono ?_; rintro e w2 ⟨v, rfl, hT2, hB2⟩
  rw [Hls.out] at hT2
  have HT2 := Lib.hid hT2
  have HB := Lib.hid hB2
  clear hT2 hB2
  go_wp2_with fail
  refine (Up_any _ _ (by omega)).mono ?_; rintro e w3 ⟨rfl, hB3⟩
  have HT3 := Lib.hid (HT2.out.below hB3)
  have HB3 := Lib.hid (HB.out.trans (hB3.mono HB.out.size))
  clear hB3 HT2 HB
  rw [Hu.out]
  go_wp2_with fail
  refine (Base_any _ _ (by omega)).mono ?_; rintro e w4 ⟨rfl, hB4⟩
  have HT4 := Lib.hid (HT3.out.below hB4)
  have HB4 := Lib.hid (HB3.out.trans (hB4.mono HB3.out.size))
  clear hB4 HT3 HB3
  rw [Hb.out]
  go_wp2_with fail
  refine (Check_any _ _ (by decide)).mono ?_; rintro e w5 ⟨rfl, hB5⟩
  have HT5 := Lib.hid (HT4.out.below hB5)
  have HB5 := Lib.hid (HB4.out.trans (hB5.mono HB4.out.size))
  clear hB5 HT4 HB4
  rw [show pathE (⟨#[97, 47, 98]⟩ : ByteArray).data.toList = 0 by decide]
  go_wp2_with fail
  refine (Up_any _ _ (by decide)).mono ?_; rintro e w6 ⟨rfl, hB6⟩
  have HT6 := Lib.hid (HT5.out.below hB6)
  have HB6 := Lib.hid (HB5.out.trans (hB6.mono HB5.out.size))
  clear hB6 HT5 HB5
  rw [show upL (⟨#[97, 47, 98]⟩ : ByteArray).data.toList = [97] by decide]
  go_wp2_with fail
  refine (Contains_slash _ _).mono ?_; rintro e w' ⟨rfl, rfl⟩
  have HJ : Hid ((⟨(joinL ls).toArray⟩ : ByteArray) = a0) := by unfold Hid; rw [← Hls.out, HP.out, ba_self]
  have hjs : (joinL ls).length ≤ 140737488355328 := by rw [← Hls.out, HP.out, HS.out]; omega
  have hls : ls.length ≤ 140737488355328 := by rw [Hn.out]; omega
  by_cases hz : a0.data.toList = []
  · have hh : hasB 47 a0.data.toList = false := by rw [hz]; rfl
    have hba : b = a0 := by
      rcases HC.out with ⟨_, e⟩ | ⟨h, _⟩
      · exact e
      · rw [hh] at h; cases h
    subst hba
    have e0 := toList_nil hz
    have HH := Lib.hid hh
    clear hz hh
    rw [HH.out]
    go_wp2_with fail
    refine (Join_texts HT6.out hls hjs).mono ?_; rintro e w7 ⟨rfl, hB7⟩
    have HB7 := Lib.hid (HB6.out.trans (hB7.mono HB6.out.size))
    clear hB7
    rw [HJ.out]
    go_wp2_with fail
    go_ret
    exact ⟨rfl, HB7.out⟩
  · have e0 := toList_ne hz
    have hn1 : 1 ≤ n := by rw [← Hn.out, ← Hls.out, pp_ne hz]; exact partsL_pos _ _
    have hlst : ls.getD (n - 1) [] = baseL a0.data.toList := by rw [← Hn.out, ← Hls.out]; exact HL.out hz
    have Hlb : Hid (strV (ls.getD (n - 1) []) = .string b) := by unfold Hid; rw [hlst, ← Hb.out]; rfl
    clear hz hlst
    have b0 : (0 : Int) ≤ (n : Int) - 1 := by omega
    have b0' : (1 : Int) ≤ (n : Int) := by omega
    have b1 : (n : Int) - 1 < (n : Int) := by omega
    have b7 : ((n : Int) - 1).toNat = n - 1 := by omega
    rcases HC.out with ⟨hh, hba⟩ | ⟨hh, hba⟩
    · have ec : (b.toList == a0.toList) = true := by rw [hba]; simp
      have HH := Lib.hid hh
      clear hba hh
      rw [HH.out]
      go_wp2_with fail
      refine (Join_texts HT6.out hls hjs).mono ?_; rintro e w7 ⟨rfl, hB7⟩
      have HT7 := Lib.hid (HT6.out.below hB7)
      have HB7 := Lib.hid (HB6.out.trans (hB7.mono HB6.out.size))
      clear hB7
      rw [HJ.out]
      obtain ⟨A, ca, rfl, hA⟩ := HT7.out.any
      obtain ⟨g, rfl, _, _, hc⟩ := hA (n - 1) (by rw [Hn.out]; omega)
      rw [Hlb.out] at hc
      clear hA
      rw [Hn.out]
      go_wp2_with fail
      go_ret
      exact ⟨rfl, HB7.out⟩
    · have HU : Hid (u ++ ⟨#[47]⟩ ++ b = a0) := hba
      have HH := Lib.hid hh
      clear hba hh
      rw [HH.out]
      have ec : ((u ++ ⟨#[47]⟩ ++ b).toList == a0.toList) = true := by rw [HU.out]; simp
      go_wp2_with fail
      refine (Join_texts HT6.out hls hjs).mono ?_; rintro e w7 ⟨rfl, hB7⟩
      have HT7 := Lib.hid (HT6.out.below hB7)
      have HB7 := Lib.hid (HB6.out.trans (hB7.mono HB6.out.size))
      clear hB7
      rw [HJ.out]
      obtain ⟨A, ca, rfl, hA⟩ := HT7.out.any
      obtain ⟨g, rfl, _, _, hc⟩ := hA (n - 1) (by rw [Hn.out]; omega)
      rw [Hlb.out] at hc
      clear hA
      rw [Hn.out]
      go_wp2_with fail
      go_ret
      exact ⟨rfl, HB7.out⟩
end Go.Proofs.YtjnbplilkcbioaaDoor
