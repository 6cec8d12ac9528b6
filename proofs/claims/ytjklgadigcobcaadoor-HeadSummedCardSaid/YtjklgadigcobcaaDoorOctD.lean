import Derived.Test.YtjklgadigcobcaaDoorOctA
set_option linter.unusedVariables false
namespace Go.Proofs.YtjklgadigcobcaaDoor
open Go.RowKit
open Go.OpenShut
theorem Read_width (s : ByteArray) (w : World) (hs : s.size ≤ maxLen) (h : ¬ (2 ≤ s.size ∧ s.size ≤ 12)) : Calls Tryd.prog 41 #[.string s] w fun e w' => e = .returned (.tuple #[.int .i64 0, .int .i64 4]) ∧ w = w' := by
  have hw : wOk s.size = false := wOk_no (by omega)
  unfold maxLen at hs
  go_enter Tryd.func41, Tryd.ntmps41
  go_wp2_with (go_at_call 50; refine (isWidth_any _ _).mono ?_; rintro e w' ⟨rfl, rfl⟩)
  go_ret2
  exact ⟨rfl, rfl⟩
set_option maxHeartbeats 400000 in
theorem Read_in (s : ByteArray) (w : World) (h1 : 2 ≤ s.size) (h2 : s.size ≤ 12) : Calls Tryd.prog 41 #[.string s] w fun e w' => e = .returned (.tuple #[.int .i64 (octR s.data.toList).1, .int .i64 (octR s.data.toList).2]) ∧ w = w' := by
  have hw : wOk s.size = true := wOk_mk (by omega)
  go_enter Tryd.func41, Tryd.ntmps41
  go_wp2_with (go_at_call 50; refine (isWidth_any _ _).mono ?_; rintro e w' ⟨rfl, rfl⟩)
  go_loop [5, 15] (fun n i => ∃ k : Nat, k + 1 ≤ s.size ∧ i = .int .i64 k ∧ n = .int .i64 (octVal (s.data.toList.take k)) ∧ Hid (digL (s.data.toList.take k) = true)) (fun _ i => s.size - (intOf i).toNat)
  case atStart => exact ⟨0, by omega, rfl, rfl, rfl⟩
  case round =>
    obtain ⟨k, hk, rfl, rfl, hd⟩ := hrel
    have hb := octVal_lt _ hd.out
    rw [List.length_take_of_le (by simpa using (by omega : k ≤ s.size))] at hb
    by_cases hlt : k + 1 < s.size
    · have hp : (8 : Nat) ^ k ≤ 8 ^ 10 := Nat.pow_le_pow_right (by omega) (by omega)
      have hb2 : octVal (s.data.toList.take k) ≤ 1073741824 := by omega
      clear hb hp
      have Hs := Lib.hid (take_snoc s k (by omega))
      by_cases hc : 48 ≤ s[k].toNat ∧ s[k].toNat ≤ 55
      · have hdig : digB s[k].toNat = true := by simp [digB]; omega
        obtain ⟨c1, c2⟩ := hc
        go_wp2_with (go_at_call 53; refine (isDigit_any _ _).mono ?_; rintro e w' ⟨rfl, rfl⟩)
        go_round
        case rel => exact ⟨k + 1, by omega, by go_num, by rw [Hs.out, octVal_snoc]; go_num, by unfold Hid; rw [Hs.out, digL_snoc, hd.out]; simp [c1, c2]⟩
        case measure => simp [intOf]; omega
      · have hdig : digB s[k].toNat = false := by simp [digB]; omega
        go_wp2_with (go_at_call 53; refine (isDigit_any _ _).mono ?_; rintro e w' ⟨rfl, rfl⟩)
        go_ret2
        have hf : octR s.data.toList = (0, 3) := octR_no ⟨h1, h2⟩ (fun h => by
          have : digL (s.data.toList.take (k + 1)) = false := by rw [Hs.out, digL_snoc]; simp [hc]
          have := digL_take_false _ _ (s.size - 1) (by omega) this
          exact absurd (this.symm.trans h.1) (by simp))
        exact ⟨ret_2int (by rw [hf]) (by rw [hf]), rfl⟩
    · obtain rfl : k = s.size - 1 := by omega
      have hg := getD_byte s (s.size - 1) (by omega) 1
      by_cases hz : s[s.size - 1] = 0
      · have hz' : ((s[s.size - 1].toNat : Int) != 0) = false := by simp [hz]
        have hf := Lib.hid (octR_yes ⟨h1, h2⟩ hd.out (hg.trans hz))
        clear hg hz hb
        go_wp2
        go_ret2
        exact ⟨ret_2int (by rw [hf.out]; rfl) (by rw [hf.out]), rfl⟩
      · have hz' : ((s[s.size - 1].toNat : Int) != 0) = true := by
          simp only [bne_iff_ne, ne_eq]
          intro h; apply hz; apply UInt8.toNat_inj.1; simpa using h
        have hf := Lib.hid (octR_no (l := s.data.toList) ⟨h1, h2⟩ (fun h => hz (hg.symm.trans h.2)))
        clear hg hz hb
        go_wp2
        go_ret2
        exact ⟨ret_2int (by rw [hf.out]) (by rw [hf.out]), rfl⟩
theorem Read_any (s : ByteArray) (w : World) (hs : s.size ≤ maxLen) : Calls Tryd.prog 41 #[.string s] w fun e w' => e = .returned (.tuple #[.int .i64 (octR s.data.toList).1, .int .i64 (octR s.data.toList).2]) ∧ w = w' := by
  by_cases h : 2 ≤ s.size ∧ s.size ≤ 12
  · exact Read_in s w h.1 h.2
  · rw [octR_out (l := s.data.toList) h]; exact Read_width s w hs h
end Go.Proofs.YtjklgadigcobcaaDoor
