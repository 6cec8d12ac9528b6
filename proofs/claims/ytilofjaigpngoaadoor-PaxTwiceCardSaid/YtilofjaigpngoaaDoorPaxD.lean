/- Package pax: the record that a text begins with. -/
import Derived.Test.YtilofjaigpngoaaDoorPaxC
import Derived.Test.YtilofjaigpngoaaDoorRecG
import Derived.Lib.MinMax
set_option linter.unusedVariables false
set_option maxRecDepth 100000
namespace Go.Proofs.YtilofjaigpngoaaDoor
open Go.RowKit
open Go.OpenShut
/-- what 'first' gives: the record, the size of its encoding, the error -/
def frV (l : List UInt8) : Value := .tuple #[.agg #[.string (bs (recR l).1), .string (bs (recR l).2.1)], .int .i64 (szR l : Nat), .int .i64 (recR l).2.2.2]
theorem frV_no {l : List UInt8} (h : (recR l).2.2.2 ≠ 0) : frV l = .tuple #[.agg #[.string ⟨#[]⟩, .string ⟨#[]⟩], .int .i64 0, .int .i64 (recR l).2.2.2] := by
  have e := recR_no h
  unfold frV
  rw [szR_no h]
  generalize (recR l).2.2.2 = c at *
  rw [e]; rfl
theorem start_of (s : ByteArray) : ∃ m : Nat, min (s.size : Int) 566 = m ∧ (m : Int) ≤ s.size ∧ Hid (s.extract 0 m = bs (s.data.toList.take 566)) := by
  by_cases h : s.size ≤ 566
  · refine ⟨s.size, by omega, by omega, ?_⟩
    refine bs_ext ?_
    rw [ext0_list, ← sz_list, List.take_length, List.take_of_length_le (by rw [sz_list]; exact h)]
  · refine ⟨566, by omega, by omega, ?_⟩
    exact bs_ext (ext0_list s 566)
set_option maxHeartbeats 2000000 in
theorem first_any (s : ByteArray) (w : World) (T : Tab w) (hs : s.size ≤ 281474976710656) :
    Calls Tryd.prog 26 #[.string s] w fun e w' => e = .returned (frV s.data.toList) ∧ Below w.heap.size w w' := by
  have HR2 := Lib.hid fun W T => Read_any s W T hs
  have HR1 := Lib.hid fun W T => Read_any (bs (s.data.toList.take 566)) W T (by rw [bs_size, List.length_take]; omega)
  rw [bs_list] at HR1
  obtain ⟨m, hmin, hms, HE⟩ := start_of s
  have hb0 := Blk.new w 35 #[.string ⟨#[]⟩, .string ⟨#[]⟩]
  have hw0 : Below w.heap.size w (w.alloc (.cells #[.string ⟨#[]⟩, .string ⟨#[]⟩] 35)) := (Below.refl _ _).alloc (Nat.le_refl _) _
  have hPs : (bs (s.data.toList.take 566)).size = (s.data.toList.take 566).length := rfl
  by_cases h1 : (recR (s.data.toList.take 566)).2.2.2 = 0
  · obtain ⟨e1, e2, e3, e4⟩ := recR_front_of h1
    have hle := (szR_ok h1).2.1
    obtain ⟨K, HK⟩ := hid_name (bs (recR (s.data.toList.take 566)).1)
    obtain ⟨V, HV⟩ := hid_name (bs (recR (s.data.toList.take 566)).2.1)
    obtain ⟨R, HR⟩ := hid_name (bs (recR (s.data.toList.take 566)).2.2.1)
    have hRs : R.size = (recR (s.data.toList.take 566)).2.2.1.length := by rw [← HR.out]; rfl
    have HF : Hid (frV s.data.toList = .tuple #[.agg #[.string K, .string V], .int .i64 (((bs (s.data.toList.take 566)).size : Int) - (R.size : Int)), .int .i64 0]) := by
      unfold Hid frV
      rw [e1, e2, e3, HK.out, HV.out, e4, hPs, hRs, Int.ofNat_sub (by omega)]
    rw [HF.out]
    unfold rdV recV at HR1
    rw [HK.out, HV.out, HR.out, h1] at HR1
    have hR : R.size ≤ (bs (s.data.toList.take 566)).size := by rw [hPs, hRs]; omega
    have hP566 : (bs (s.data.toList.take 566)).size ≤ 566 := by rw [hPs, List.length_take]; omega
    clear e1 e2 e3 e4 hle h1 hPs hRs
    obtain ⟨P, HP⟩ := hid_name (bs (s.data.toList.take 566))
    rw [HP.out] at HR1 HE hR hP566 ⊢
    go_enter Tryd.func26, Tryd.ntmps26
    go_wp2_with fail
    rw [HE.out]
    refine (HR1.out _ (T.below hw0)).mono ?_; rintro e w1 ⟨rfl, hb⟩
    have hb1 := (hb0.below hb hb0.lt).alloc (.cells #[.string K, .string V] 35)
    have hn1 := Blk.new w1 35 #[.string K, .string V]
    have hw1 := hw0.trans (hb.mono hw0.size)
    have HW1 := Lib.hid (hw1.alloc hw1.size (.cells #[.string K, .string V] 35))
    obtain ⟨⟨c0, c1⟩, f0, f1⟩ := blk2 hb1
    obtain ⟨⟨d0, d1⟩, -⟩ := blk2 hn1
    have HPz := Lib.hid (Blk.put2 hb1 (.string K) (.string V))
    clear hb0 hw0 hb hb1 hn1 hw1
    go_wp2_with fail
    obtain ⟨⟨x0, x1⟩, -⟩ := blk2 HPz.out
    exact bodyPost_ret (v := .tuple #[.agg #[.string K, .string V], .int .i64 ((P.size : Int) - (R.size : Int)), .int .i64 0]) (by simp [results, Tryd.results26, go_sem, *]) rfl ⟨rfl, Below.set2 HW1.out (Nat.le_refl _) _ _⟩
  · obtain ⟨K0, HK0⟩ := hid_name (bs (recR (s.data.toList.take 566)).1)
    obtain ⟨V0, HV0⟩ := hid_name (bs (recR (s.data.toList.take 566)).2.1)
    obtain ⟨R0, HR0⟩ := hid_name (bs (recR (s.data.toList.take 566)).2.2.1)
    obtain ⟨c0, HC0⟩ := hid_name (recR (s.data.toList.take 566)).2.2.2
    unfold rdV recV at HR1
    rw [HK0.out, HV0.out, HR0.out, HC0.out] at HR1
    rw [HC0.out] at h1
    have tc0 : (c0 != 0) = true := by simpa using h1
    obtain ⟨P, HP⟩ := hid_name (bs (s.data.toList.take 566))
    rw [HP.out] at HR1 HE
    clear h1 hPs
    by_cases h2 : (recR s.data.toList).2.2.2 = 0
    · have hle := (szR_ok h2).2.1
      obtain ⟨K, HK⟩ := hid_name (bs (recR s.data.toList).1)
      obtain ⟨V, HV⟩ := hid_name (bs (recR s.data.toList).2.1)
      obtain ⟨R, HR⟩ := hid_name (bs (recR s.data.toList).2.2.1)
      have hRs : R.size = (recR s.data.toList).2.2.1.length := by rw [← HR.out]; rfl
      have hss : s.data.toList.length = s.size := sz_list s
      have HF : Hid (frV s.data.toList = .tuple #[.agg #[.string K, .string V], .int .i64 ((s.size : Int) - (R.size : Int)), .int .i64 0]) := by
        unfold Hid frV
        rw [h2, HK.out, HV.out, hRs, show ((szR s.data.toList : Nat) : Int) = (s.size : Int) - ((recR s.data.toList).2.2.1.length : Int) by omega]
      rw [HF.out]
      unfold rdV recV at HR2
      rw [HK.out, HV.out, HR.out, h2] at HR2
      have hR : R.size ≤ s.size := by rw [hRs]; omega
      clear hle h2 hRs hss
      go_enter Tryd.func26, Tryd.ntmps26
      go_wp2_with fail
      rw [HE.out]
      refine (HR1.out _ (T.below hw0)).mono ?_; rintro e w1 ⟨rfl, hb⟩
      have hb1 := (hb0.below hb hb0.lt).alloc (.cells #[.string K0, .string V0] 35)
      have hn1 := Blk.new w1 35 #[.string K0, .string V0]
      have hw1 := hw0.trans (hb.mono hw0.size)
      have hw1' := hw1.alloc hw1.size (.cells #[.string K0, .string V0] 35)
      have hle1 : w.heap.size ≤ w1.heap.size := hw1.size
      have hne : w.heap.size ≠ w1.heap.size := by have := hb.size; simp at this; omega
      clear hb0 hw0 hb hw1
      go_wp2_with fail
      refine (HR2.out _ (T.below hw1')).mono ?_; rintro e w2 ⟨rfl, hb⟩
      have hb2 := hb1.below hb hb1.lt
      have hn2 := hn1.below hb hn1.lt
      have HW2 := Lib.hid (hw1'.trans (hb.mono hw1'.size))
      obtain ⟨⟨c0, c1⟩, f0, f1⟩ := blk2 hb2
      obtain ⟨⟨d0, d1⟩, g0, g1⟩ := blk2 hn2
      have hn3 := Blk.put2 hn2 (.string K) (.string V)
      have hb3 := Blk.far2 hb2 hne (.string K) (.string V)
      obtain ⟨⟨c2, c3⟩, f2, f3⟩ := blk2 hb3
      obtain ⟨⟨d2, d3⟩, -⟩ := blk2 hn3
      have HPz := Lib.hid (Blk.put2 hb3 (.string K) (.string V))
      clear hb1 hn1 hw1' hb hb2 hn2 hn3 hb3
      go_wp2_with fail
      obtain ⟨⟨x0, x1⟩, -⟩ := blk2 HPz.out
      exact bodyPost_ret (v := .tuple #[.agg #[.string K, .string V], .int .i64 ((s.size : Int) - (R.size : Int)), .int .i64 0]) (by simp [results, Tryd.results26, go_sem, *]) rfl ⟨rfl, Below.set2 (Below.set2 HW2.out hle1 _ _) (Nat.le_refl _) _ _⟩
    · rw [frV_no h2]
      have HRN := Lib.hid (recR_no h2)
      obtain ⟨c, hc⟩ := hid_name (recR s.data.toList).2.2.2
      have hr2 := HRN.out
      rw [hc.out] at hr2 h2 ⊢
      unfold rdV recV at HR2
      rw [hr2] at HR2
      have HR3 : Hid (∀ W, Tab W → Calls Tryd.prog 38 #[.string s] W fun e w' => e = .returned (.tuple #[.agg #[.string ⟨#[]⟩, .string ⟨#[]⟩], .string ⟨#[]⟩, .int .i64 c]) ∧ Below W.heap.size W w') := HR2.out
      have tc : (c != 0) = true := by simpa using h2
      clear hr2 HR2 h2
      go_enter Tryd.func26, Tryd.ntmps26
      go_wp2_with fail
      rw [HE.out]
      refine (HR1.out _ (T.below hw0)).mono ?_; rintro e w1 ⟨rfl, hb⟩
      have hb1 := (hb0.below hb hb0.lt).alloc (.cells #[.string K0, .string V0] 35)
      have hn1 := Blk.new w1 35 #[.string K0, .string V0]
      have hw1 := hw0.trans (hb.mono hw0.size)
      have hw1' := hw1.alloc hw1.size (.cells #[.string K0, .string V0] 35)
      have hle1 : w.heap.size ≤ w1.heap.size := hw1.size
      have hne : w.heap.size ≠ w1.heap.size := by have := hb.size; simp at this; omega
      clear hb0 hw0 hb hw1
      go_wp2_with fail
      refine (HR3.out _ (T.below hw1')).mono ?_; rintro e w2 ⟨rfl, hb⟩
      have hb2 := hb1.below hb hb1.lt
      have hn2 := hn1.below hb hn1.lt
      have HW2 := Lib.hid (hw1'.trans (hb.mono hw1'.size))
      obtain ⟨⟨c0, c1⟩, f0, f1⟩ := blk2 hb2
      obtain ⟨⟨d0, d1⟩, g0, g1⟩ := blk2 hn2
      have hb3 := Blk.far2 hb2 hne (.string ⟨#[]⟩) (.string ⟨#[]⟩)
      obtain ⟨⟨c2, c3⟩, f2, f3⟩ := blk2 hb3
      have HPz := Lib.hid (Blk.put2 hb3 (.string ⟨#[]⟩) (.string ⟨#[]⟩))
      clear hb1 hn1 hw1' hb hb2 hn2 hb3
      go_wp2_with fail
      obtain ⟨⟨x0, x1⟩, -⟩ := blk2 HPz.out
      exact bodyPost_ret (v := .tuple #[.agg #[.string ⟨#[]⟩, .string ⟨#[]⟩], .int .i64 0, .int .i64 c]) (by simp [results, Tryd.results26, go_sem, *]) rfl ⟨rfl, Below.set2 (Below.set2 HW2.out hle1 _ _) (Nat.le_refl _) _ _⟩
end Go.Proofs.YtilofjaigpngoaaDoor
