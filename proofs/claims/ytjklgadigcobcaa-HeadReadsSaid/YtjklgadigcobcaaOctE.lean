import Derived.Test.YtjklgadigcobcaaOctA
import Derived.Deep.QuietTactic
import Derived.BigQuiet
import Derived.WalkSmall
set_option linter.unusedVariables false
namespace Go.Proofs.Ytjklgadigcobcaa
open Go.RowKit
open Go.OpenShut
theorem rOf_width (s : ByteArray) (w : World) (hs : s.size ≤ maxLen) (h : ¬ (2 ≤ s.size ∧ s.size ≤ 12)) : Calls Try.prog 29 #[.string s] w fun e w' => e = .returned (.tuple #[.int .i64 0, .int .i64 4]) ∧ w = w' := by
  unfold maxLen at hs
  by_cases h2 : s.size < 2
  · go_enter Try.func29, Try.ntmps29
    go_wp2
    go_ret2
    exact ⟨rfl, rfl⟩
  · have h3 : 12 < s.size := by omega
    go_enter Try.func29, Try.ntmps29
    go_wp2
    go_ret2
    exact ⟨rfl, rfl⟩
set_option maxHeartbeats 400000 in
theorem rOf_in (s : ByteArray) (w : World) (h1 : 2 ≤ s.size) (h2 : s.size ≤ 12) : Calls Try.prog 29 #[.string s] w fun e w' => e = .returned (.tuple #[.int .i64 (octR s.data.toList).1, .int .i64 (octR s.data.toList).2]) ∧ Below w.heap.size w w' := by
  go_enter Try.func29, Try.ntmps29
  go_wp2
  go_loopw [4, 5] (fun n i wr => ∃ k : Nat, k + 1 ≤ s.size ∧ i = .int .i64 k ∧ n = .int .i64 ↑(octVal (s.data.toList.take k) * 8 ^ (s.size - 1 - k)) ∧ Hid (digL (s.data.toList.take k) = true) ∧ Below w.heap.size w wr) (fun _ i _ => s.size - (intOf i).toNat)
  case atStart => exact ⟨0, by omega, rfl, by simp [octVal], rfl, Below.refl _ _⟩
  case round =>
    obtain ⟨k, hk, rfl, rfl, hd, hbel⟩ := hrel
    have hb := octVal_lt _ hd.out
    rw [List.length_take_of_le (by simpa using (by omega : k ≤ s.size))] at hb
    by_cases hlt : k + 1 < s.size
    · have hp : (8 : Nat) ^ k ≤ 8 ^ 10 := Nat.pow_le_pow_right (by omega) (by omega)
      have hb2 : octVal (s.data.toList.take k) * 8 ^ (s.size - 1 - k) ≤ 8589934592 := by
        have a := Nat.mul_le_mul_right (8 ^ (s.size - 1 - k)) (Nat.le_of_lt hb)
        rw [← Nat.pow_add] at a
        have b : (8 : Nat) ^ (k + (s.size - 1 - k)) ≤ 8 ^ 11 := Nat.pow_le_pow_right (by omega) (by omega)
        omega
      clear hb hp
      have Hs := Lib.hid (take_snoc s k (by omega))
      by_cases hc : 48 ≤ s[k].toNat ∧ s[k].toNat ≤ 55
      · obtain ⟨c1, c2⟩ := hc
        have Hst := Lib.hid (ref_step (s.data.toList.take k) s[k] s.size k (by omega) c1)
        have hpk := pow8_le (s.size - 2 - k) (by omega)
        have hpk1 := pow8_pos (s.size - 2 - k)
        generalize octVal (s.data.toList.take k) * 8 ^ (s.size - 1 - k) = q at *
        go_wp2
        have s1 : IntKind.i64.wrap ((s.size : Int) - 2) = (s.size : Int) - 2 := IntWalk.i64_in _ (by omega)
        have p1 : 0 ≤ ((s[k].toNat : Int) - 48) * 8 ^ (s.size - 2 - k) := Int.mul_nonneg (by omega) (by omega)
        have p2 : ((s[k].toNat : Int) - 48) * 8 ^ (s.size - 2 - k) ≤ 7 * 8589934592 := Int.mul_le_mul (by omega) hpk (by omega) (by omega)
        have e1 : ((s.size : Int) - 2 - k).toNat = s.size - 2 - k := by omega
        have s3 : IntKind.i64.wrap (((s[k].toNat : Int) - 48) * 8 ^ (s.size - 2 - k)) = ((s[k].toNat : Int) - 48) * 8 ^ (s.size - 2 - k) := IntWalk.i64_in _ (by omega)
        have s4 : IntKind.i64.wrap ((q : Int) + ((s[k].toNat : Int) - 48) * 8 ^ (s.size - 2 - k)) = (q : Int) + ((s[k].toNat : Int) - 48) * 8 ^ (s.size - 2 - k) := IntWalk.i64_in _ (by omega)
        have s5 : IntKind.i64.wrap ((s[k].toNat : Int) - 48) = (s[k].toNat : Int) - 48 := IntWalk.i64_in _ (by omega)
        have s2 : IntKind.i64.wrap ((s.size : Int) - 2 - k) = (s.size : Int) - 2 - k := IntWalk.i64_in _ (by omega)
        go_quiet ((go_at_call 43; exact Calls.quiet_of_same (flip_same (power_any _ _ (by omega) (by omega)))))
        go_wp2
        go_roundw
        case rel => exact ⟨k + 1, by omega, by go_num, by rw [Hs.out, ← Hst.out], by unfold Hid; rw [Hs.out, digL_snoc, hd.out]; simp [c1, c2], below_drewN hbel _⟩
        case measure => simp [intOf]; omega
      · by_cases h8 : s[k].toNat < 48
        · go_wp2
          go_ret2
          have hf : octR s.data.toList = (0, 3) := octR_no ⟨h1, h2⟩ (fun h => by
            have : digL (s.data.toList.take (k + 1)) = false := by rw [Hs.out, digL_snoc]; simp; omega
            have := digL_take_false _ _ (s.size - 1) (by omega) this
            exact absurd (this.symm.trans h.1) (by simp))
          exact ⟨ret_2int (by rw [hf]) (by rw [hf]), hbel⟩
        · have h9 : 55 < s[k].toNat := by omega
          go_wp2
          go_ret2
          have hf : octR s.data.toList = (0, 3) := octR_no ⟨h1, h2⟩ (fun h => by
            have : digL (s.data.toList.take (k + 1)) = false := by rw [Hs.out, digL_snoc]; simp; omega
            have := digL_take_false _ _ (s.size - 1) (by omega) this
            exact absurd (this.symm.trans h.1) (by simp))
          exact ⟨ret_2int (by rw [hf]) (by rw [hf]), hbel⟩
    · obtain rfl : k = s.size - 1 := by omega
      have hg := getD_byte s (s.size - 1) (by omega) 1
      by_cases hz : s[s.size - 1] = 0
      · have hz' : ((s[s.size - 1].toNat : Int) != 0) = false := by simp [hz]
        have hf := Lib.hid (octR_yes ⟨h1, h2⟩ hd.out (hg.trans hz))
        clear hg hz hb
        go_wp2
        go_ret2
        exact ⟨ret_2int (by rw [hf.out]; simp) (by rw [hf.out]), hbel⟩
      · have hz' : ((s[s.size - 1].toNat : Int) != 0) = true := by
          simp only [bne_iff_ne, ne_eq]
          intro h; apply hz; apply UInt8.toNat_inj.1; simpa using h
        have hf := Lib.hid (octR_no (l := s.data.toList) ⟨h1, h2⟩ (fun h => hz (hg.symm.trans h.2)))
        clear hg hz hb
        go_wp2
        go_ret2
        exact ⟨ret_2int (by rw [hf.out]) (by rw [hf.out]), hbel⟩
theorem rOf_any (s : ByteArray) (w : World) (hs : s.size ≤ maxLen) : Calls Try.prog 29 #[.string s] w fun e w' => e = .returned (.tuple #[.int .i64 (octR s.data.toList).1, .int .i64 (octR s.data.toList).2]) ∧ Below w.heap.size w w' := by
  by_cases h : 2 ≤ s.size ∧ s.size ≤ 12
  · exact rOf_in s w h.1 h.2
  · rw [octR_out (l := s.data.toList) h]; exact (rOf_width s w hs h).mono fun e w' ⟨a, b⟩ => ⟨a, b ▸ Below.refl _ _⟩
end Go.Proofs.Ytjklgadigcobcaa
