/- Contracts of the reference's string fields. -/
import Derived.Test.YtjklgadigcobcaaFldM
import Derived.BigQuiet
import Derived.Deep.QuietTactic
import Derived.WalkSmall
import Derived.WalkLawsBesides
set_option linter.unusedVariables false
set_option maxRecDepth 100000
namespace Go.Proofs.Ytjklgadigcobcaa
open Go.RowKit
open Go.OpenShut
set_option maxHeartbeats 400000 in
theorem has_any (s : ByteArray) (c : Int) (b : UInt8) (w : World) (hs : s.size ≤ maxLen) (hc : (b.toNat : Int) = c) : Calls Try.prog 18 #[.string s, .int .u8 c] w fun e w' => e = .returned (.bool (hasB b s.data.toList)) ∧ w = w' := by
  subst hc
  have hb := u8_lt b
  unfold maxLen at hs
  go_enter Try.func18, Try.ntmps18
  go_wp2
  go_loop [5] (fun i => ∃ k : Nat, k ≤ s.size ∧ i = .int .i64 k ∧ k ≤ pos b s.data.toList) (fun i => s.size - (intOf i).toNat)
  case atStart => exact ⟨0, Nat.zero_le _, rfl, Nat.zero_le _⟩
  case round =>
    obtain ⟨k, hk, rfl, hz⟩ := hrel
    by_cases hlt : k < s.size
    · by_cases hc : s[k] = b
      · have hc' : ((s[k].toNat : Int) == (b.toNat : Int)) = true := by simp [hc]
        have hf := Lib.hid (show hasB b s.data.toList = true by rw [hasB_pos, pos_stop b _ k hz (by simpa using hlt) hc]; exact decide_eq_true (by simpa using hlt))
        clear hc
        go_wp2
        go_ret
        exact ⟨ret_bool hf.out.symm, rfl⟩
      · have hc' : ((s[k].toNat : Int) == (b.toNat : Int)) = false := by
          rw [beq_eq_false_iff_ne]
          intro h; exact hc (UInt8.toNat_inj.1 (by omega))
        have hf := pos_step b _ k hz (by simpa using hlt) hc
        clear hc
        go_wp2
        go_round
        case rel => exact ⟨k + 1, by omega, by go_num, hf⟩
        case measure => simp [intOf]; omega
    · obtain rfl : k = s.size := by omega
      have hf := Lib.hid (show hasB b s.data.toList = false by rw [hasB_pos]; exact decide_eq_false (by simp; omega))
      go_wp2
      go_ret
      exact ⟨ret_bool hf.out.symm, rfl⟩
set_option maxHeartbeats 400000 in
theorem zeros_any (x : Int) (n : Nat) (w : World) (hx : x = n) (hn : n ≤ 1000000) : Calls Try.prog 23 #[.int .i64 x] w fun e w' => e = .returned (.string (zer n)) ∧ w = w' := by
  subst hx
  go_enter Try.func23, Try.ntmps23
  go_wp2
  go_loop [3, 4] (fun s i => ∃ k : Nat, k ≤ n ∧ i = .int .i64 k ∧ s = .string (zer k)) (fun _ i => n - (intOf i).toNat)
  case atStart => exact ⟨0, Nat.zero_le _, rfl, rfl⟩
  case round =>
    obtain ⟨k, hk, rfl, rfl⟩ := hrel
    have hzs : (zer k).size ≤ 1000000 := by rw [zer_size]; omega
    by_cases hlt : k < n
    · go_wp2
      go_round
      case rel => exact ⟨k + 1, by omega, by go_num, by rw [zer_succ]⟩
      case measure => simp [intOf]; omega
    · obtain rfl : k = n := by omega
      go_wp2
      go_ret
      exact ⟨rfl, rfl⟩
theorem frText_range (s : ByteArray) (x : Int) (wh : Bool) (w : World) (hs : s.size ≤ maxLen) (h : x < 1 ∨ 512 < x) : Calls Try.prog 20 #[.string s, .int .i64 x, .bool wh] w fun e w' => e = .returned (.tuple #[.string ⟨#[]⟩, .int .i64 4]) ∧ w = w' := by
  unfold maxLen at hs
  by_cases h2 : x < 1
  · clear h
    go_enter Try.func20, Try.ntmps20
    go_wp2_with fail
    go_ret2
    exact ⟨rfl, rfl⟩
  · have h3 : 512 < x := by omega
    clear h
    go_enter Try.func20, Try.ntmps20
    go_wp2_with fail
    go_ret2
    exact ⟨rfl, rfl⟩
theorem frText_size (s : ByteArray) (x : Int) (wh : Bool) (w : World) (hs : s.size ≤ maxLen) (h1 : 1 ≤ x) (h2 : x ≤ 512) (h : x < s.size ∨ (wh = false ∧ x = s.size)) : Calls Try.prog 20 #[.string s, .int .i64 x, .bool wh] w fun e w' => e = .returned (.tuple #[.string ⟨#[]⟩, .int .i64 1]) ∧ w = w' := by
  unfold maxLen at hs
  rcases h with h | ⟨rfl, h⟩
  · go_enter Try.func20, Try.ntmps20
    go_wp2_with fail
    go_ret2
    exact ⟨rfl, rfl⟩
  · have h3 : (s.size : Int) ≤ x := by omega
    have h4 : ((s.size : Int) == x) = true := by rw [beq_iff_eq]; omega
    clear h
    go_enter Try.func20, Try.ntmps20
    go_wp2_with fail
    go_ret2
    exact ⟨rfl, rfl⟩
theorem frText_in (s : ByteArray) (x : Int) (wh : Bool) (w : World) (hs : s.size ≤ maxLen) (h1 : 1 ≤ x) (h2 : x ≤ 512) (h : (s.size : Int) ≤ x) (h' : wh = true ∨ (s.size : Int) < x) : Calls Try.prog 20 #[.string s, .int .i64 x, .bool wh] w fun e w' => e = .returned (if hasB 0 s.data.toList = true then .tuple #[.string ⟨#[]⟩, .int .i64 3] else .tuple #[.string ⟨(s.data.toList ++ List.replicate (x.toNat - s.data.toList.length) 0).toArray⟩, .int .i64 0]) ∧ w = w' := by
  obtain ⟨n, Hn⟩ := hid_name (x.toNat - s.data.toList.length)
  have Hl : Hid (x - s.size = (n : Int)) := by unfold Hid; rw [← Hn.out]; simp; omega
  have hn : n ≤ 512 := by rw [← Hn.out]; omega
  have hzs : (zer n).size ≤ 1000000 := by rw [zer_size]; omega
  rw [Hn.out]
  have hk : ∀ hB : Bool, hasB 0 s.data.toList = hB → Calls Try.prog 20 #[.string s, .int .i64 x, .bool wh] w fun e w' => e = .returned (if hB = true then .tuple #[.string ⟨#[]⟩, .int .i64 3] else .tuple #[.string ⟨(s.data.toList ++ List.replicate n 0).toArray⟩, .int .i64 0]) ∧ w = w' := by
    intro hB hBe
    have HB := Lib.hid hBe
    clear hBe
    rcases h' with rfl | h'
    · cases hB
      · go_enter Try.func20, Try.ntmps20
        go_wp2_with fail
        refine (has_any s 0 0 _ hs rfl).mono ?_; rintro e w' ⟨rfl, rfl⟩
        rw [HB.out]
        go_wp2_with fail
        refine (zeros_any _ _ _ Hl.out (by omega)).mono ?_; rintro e w' ⟨rfl, rfl⟩
        go_wp2_with fail
        go_ret2
        exact ⟨ret_strint _ (str_zer _ _), rfl⟩
      · go_enter Try.func20, Try.ntmps20
        go_wp2_with fail
        refine (has_any s 0 0 _ hs rfl).mono ?_; rintro e w' ⟨rfl, rfl⟩
        rw [HB.out]
        go_wp2_with fail
        go_ret2
        exact ⟨rfl, rfl⟩
    · have h3 : ((s.size : Int) == x) = false := by rw [beq_eq_false_iff_ne]; omega
      cases wh
      all_goals
        cases hB
        · go_enter Try.func20, Try.ntmps20
          go_wp2_with fail
          refine (has_any s 0 0 _ hs rfl).mono ?_; rintro e w' ⟨rfl, rfl⟩
          rw [HB.out]
          go_wp2_with fail
          refine (zeros_any _ _ _ Hl.out (by omega)).mono ?_; rintro e w' ⟨rfl, rfl⟩
          go_wp2_with fail
          go_ret2
          exact ⟨ret_strint _ (str_zer _ _), rfl⟩
        · go_enter Try.func20, Try.ntmps20
          go_wp2_with fail
          refine (has_any s 0 0 _ hs rfl).mono ?_; rintro e w' ⟨rfl, rfl⟩
          rw [HB.out]
          go_wp2_with fail
          go_ret2
          exact ⟨rfl, rfl⟩
  exact hk _ rfl
theorem frText_any (s : ByteArray) (x : Int) (wh : Bool) (w : World) (hs : s.size ≤ maxLen) : Calls Try.prog 20 #[.string s, .int .i64 x, .bool wh] w fun e w' => e = .returned (.tuple #[.string (fldW s.data.toList x wh).1, .int .i64 (fldW s.data.toList x wh).2]) ∧ w = w' := by
  have hl : s.data.toList.length = s.size := by simp
  by_cases h : x < 1 ∨ 512 < x
  · rw [fldW_range h]; exact frText_range s x wh w hs h
  · by_cases h2 : x < s.data.toList.length ∨ (wh = false ∧ x = s.data.toList.length)
    · rw [fldW_size h h2]; rw [hl] at h2; exact frText_size s x wh w hs (by omega) (by omega) h2
    · have a1 : ¬ x < (s.size : Int) := fun a => h2 (.inl (by omega))
      have a2 : wh = true ∨ (s.size : Int) < x := by
        cases wh
        · have : ¬ x = (s.size : Int) := fun a => h2 (.inr ⟨rfl, by omega⟩)
          exact .inr (by omega)
        · exact .inl rfl
      have hin := frText_in s x wh w hs (by omega) (by omega) (by omega) a2
      by_cases h3 : hasB 0 s.data.toList = true
      · rw [fldW_form h h2 h3]; rw [if_pos h3] at hin; exact hin
      · rw [fldW_ok h h2 (by simpa using h3)]; rw [if_neg h3] at hin; exact hin
end Go.Proofs.Ytjklgadigcobcaa
