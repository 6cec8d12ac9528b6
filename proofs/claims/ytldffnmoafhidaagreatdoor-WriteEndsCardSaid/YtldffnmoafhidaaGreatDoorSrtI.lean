/- slices.IsSorted at ints, in memory wherever. -/
import Derived.Test.YtldffnmoafhidaaGreatDoorLnp
set_option linter.unusedVariables false
set_option maxRecDepth 100000
namespace Go.Proofs.YtldffnmoafhidaaGreatDoor
open Go.RowKit
open Go.OpenShut
theorem isNaNi_any (x : Int) (w : World) : Calls Tryz.prog 128 #[.int .i64 x] w fun e w' => e = .returned (.bool false) ∧ w = w' := by
  go_enter Tryz.func128, Tryz.ntmps128
  go_wp2_with fail
  go_ret
  exact ⟨rfl, rfl⟩
theorem LessI_any (a b : Int) (w : World) : Calls Tryz.prog 67 #[.int .i64 a, .int .i64 b] w fun e w' => e = .returned (.bool (decide (a < b))) ∧ w = w' := by
  go_enter Tryz.func67, Tryz.ntmps67
  go_wp2_with (go_at_call 128; refine (isNaNi_any _ _).mono ?_; rintro e w' ⟨rfl, rfl⟩)
  go_ret
  exact ⟨rfl, rfl⟩
set_option maxHeartbeats 4000000 in
theorem IsSortedI_any (A : Option Addr) (n c : Nat) (ls : List Int) (hs : ∀ j (hj : j + 1 < ls.length), ls[j] ≤ ls[j + 1]) (hn : ls.length = n) (hbig : n ≤ 140737488355328) (w : World) (hT : NumsAt w A ls) :
    Calls Tryz.prog 25 #[.slice A n c] w fun e w' => e = .returned (.bool true) ∧ Below w.heap.size w w' := by
  have HT := Lib.hid hT
  have HN := Lib.hid hn
  have HS := Lib.hid hs
  obtain ⟨z0, hz0⟩ : ∃ z0 : Int, z0 = (n : Int) - 1 := ⟨_, rfl⟩
  have wz : IntKind.i64.wrap ((n : Int) - 1) = z0 := by rw [IntKind.wrap_i64]; omega
  have HZ := Lib.hid hz0
  clear hT hn hs hz0
  go_enter Tryz.func25, Tryz.ntmps25
  go_wp2_with fail
  go_loopw [3] (fun iv wr => ∃ z : Int, iv = .int .i64 z ∧ -1 ≤ z ∧ Hid (z < (n : Int)) ∧ Hid (Below w.heap.size w wr)) (fun iv _ => (intOf iv + 1).toNat)
  case atStart => exact ⟨z0, rfl, by have := HZ.out; omega, by have := HZ.out; unfold Hid; omega, Below.refl _ _⟩
  case round =>
    obtain ⟨z, rfl, hz1, hz2, HB⟩ := hrel
    by_cases hlt : 0 < z
    · obtain ⟨j, hj⟩ : ∃ j : Nat, z = ((j + 1 : Nat) : Int) := ⟨(z - 1).toNat, by omega⟩
      obtain ⟨i, hi⟩ : ∃ i : Nat, i = j + 1 := ⟨_, rfl⟩
      rw [← hi] at hj
      subst hj
      have hin : i < n := by have := hz2.out; omega
      have hjn : j < n := by omega
      have hil : i < ls.length := by rw [HN.out]; exact hin
      have hjl : j < ls.length := by rw [HN.out]; exact hjn
      obtain ⟨g, o, rfl, c1⟩ := (HT.out.below HB.out) i hil
      obtain ⟨g', o', e', c2⟩ := (HT.out.below HB.out) j hjl
      injection e' with e'
      injection e' with e1' e2' _
      subst e1' e2'
      have hless : ¬ ls[i] < ls[j] := by subst hi; exact Int.not_lt.2 (HS.out j hil)
      have HLs := Lib.hid fun W => LessI_any ls[i] ls[j] W
      rw [decide_eq_false hless] at HLs
      have wj : IntKind.i64.wrap ((i : Int) - 1) = (j : Int) := by rw [IntKind.wrap_i64]; omega
      generalize ls[i] = P at HLs c1
      generalize ls[j] = Q at HLs c2
      have hji : j < i := by omega
      clear hi hless hil hjl HS HT HZ
      go_wp2_with fail
      go_quiet ((go_at_call 67; exact Calls.quiet_of_same (flip_same (HLs.out _))))
      go_wp2_with fail
      go_roundw
      case rel => exact ⟨j, by go_num, by omega, by unfold Hid; omega, below_drewN HB.out _⟩
      case measure => simp [intOf]; omega
    · clear HS HT HZ
      go_wp2_with fail
      go_ret
      exact ⟨rfl, HB.out⟩
end Go.Proofs.YtldffnmoafhidaaGreatDoor
