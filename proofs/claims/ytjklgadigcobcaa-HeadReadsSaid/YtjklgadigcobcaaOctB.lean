import Derived.Test.YtjklgadigcobcaaOctA
set_option linter.unusedVariables false
namespace Go.Proofs.Ytjklgadigcobcaa
open Go.RowKit
open Go.OpenShut

def octText (n x : Int) : List UInt8 := D n.toNat (x.toNat - 1) ++ [0]

set_option maxHeartbeats 400000 in
theorem rText_yes (n x : Int) (w : World) (hx : 2 ≤ x ∧ x ≤ 12) (hn : 0 ≤ n ∧ n ≤ most x) : Calls Try.prog 22 #[.int .i64 n, .int .i64 x] w fun e w' => e = .returned (.tuple #[.string ⟨(octText n x).toArray⟩, .int .i64 0]) ∧ w = w' := by
  obtain ⟨h1, h2⟩ := hn
  obtain ⟨m, rfl⟩ := Int.eq_ofNat_of_zero_le h1
  obtain ⟨x1, x2⟩ := hx
  have hm : m ≤ 8589934592 := by have := most_le x2; omega
  go_enter Try.func22, Try.ntmps22
  go_wp2_with (go_at_call 38; refine (rMost_yes _ _ (by omega)).mono ?_; rintro e w' ⟨rfl, rfl⟩)
  go_loop [0, 8] (fun o s => ∃ k q : Nat, k + 1 ≤ x ∧ q ≤ m ∧ Hid (m / 8 ^ k = q) ∧ o = .int .i64 ↑q ∧ s = .string ⟨(D m k).toArray⟩) (fun _ s => x.toNat - strLen s)
  case atStart => exact ⟨0, m, by omega, by omega, by simp [Hid], rfl, rfl⟩
  case round =>
    obtain ⟨k, q, hk, hqm, hq, rfl, rfl⟩ := hrel
    by_cases hlt : (k : Int) < x - 1
    · have hd : q % 8 < 8 := Nat.mod_lt _ (by omega)
      go_wp2
      go_round
      case rel => exact ⟨k + 1, q / 8, by omega, by omega, div_succ _ _ _ hq.out, by go_num, by rw [D_succ _ _ _ hq.out, digit_str _ hd, str_app]; rfl⟩
      case measure => simp only [strLen, digit_str _ hd, str_app, size_mk, List.length_append, D_length, List.length_cons, List.length_nil]; omega
    · have hkx : x.toNat - 1 = k := by omega
      go_wp2
      go_ret2
      exact ⟨ret_strint _ (by rw [octText, Int.toNat_natCast, hkx]; exact str_app _ [0]), rfl⟩

theorem rText_range (n x : Int) (w : World) (hx : 2 ≤ x ∧ x ≤ 12) (hn : n < 0 ∨ most x < n) : Calls Try.prog 22 #[.int .i64 n, .int .i64 x] w fun e w' => e = .returned (.tuple #[.string ⟨#[]⟩, .int .i64 4]) ∧ w = w' := by
  by_cases h0 : n < 0
  · go_enter Try.func22, Try.ntmps22
    go_wp2_with (go_at_call 38; refine (rMost_yes _ _ (by omega)).mono ?_; rintro e w' ⟨rfl, rfl⟩)
    go_ret2
    exact ⟨rfl, rfl⟩
  · have h1 : most x < n := by omega
    go_enter Try.func22, Try.ntmps22
    go_wp2_with (go_at_call 38; refine (rMost_yes _ _ (by omega)).mono ?_; rintro e w' ⟨rfl, rfl⟩)
    go_ret2
    exact ⟨rfl, rfl⟩
theorem rText_width (n x : Int) (w : World) (hx : ¬ (2 ≤ x ∧ x ≤ 12)) : Calls Try.prog 22 #[.int .i64 n, .int .i64 x] w fun e w' => e = .returned (.tuple #[.string ⟨#[]⟩, .int .i64 4]) ∧ w = w' := by
  go_enter Try.func22, Try.ntmps22
  go_wp2_with (go_at_call 38; refine (rMost_no _ _ (by omega)).mono ?_; rintro e w' ⟨rfl, rfl⟩)
  go_ret2
  exact ⟨rfl, rfl⟩

theorem rText_any (n x : Int) (w : World) : Calls Try.prog 22 #[.int .i64 n, .int .i64 x] w fun e w' => e = .returned (.tuple #[.string (octW n x).1, .int .i64 (octW n x).2]) ∧ w = w' := by
  by_cases h : 2 ≤ x ∧ x ≤ 12
  · by_cases h' : 0 ≤ n ∧ n ≤ most x
    · rw [octW_yes h h']; exact rText_yes n x w h h'
    · rw [octW_no (by omega)]; exact rText_range n x w h (by omega)
  · rw [octW_no (by omega)]; exact rText_width n x w h
end Go.Proofs.Ytjklgadigcobcaa
