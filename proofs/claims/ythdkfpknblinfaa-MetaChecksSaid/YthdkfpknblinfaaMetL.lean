/- The law on the check of metadata. -/
import Derived.Test.YthdkfpknblinfaaMetO
import Derived.Test.YthdkfpknblinfaaSlc
set_option linter.unusedVariables false
set_option maxRecDepth 100000
namespace Go.Proofs.Ythdkfpknblinfaa
open Go.RowKit
open Go.OpenShut
set_option maxHeartbeats 1000000 in
theorem MetaChecks_walk (a0 : MetaV) (w0 : a0.wf) (w : World) :
    Calls Try.prog 3 #[.agg (metA a0)] w fun e w' => e = .returned (.bool true) ∧ Below w.heap.size w w' := by
  have H1 := Lib.hid fun W => metCheck_any a0 w0.1 W
  have H2 := Lib.hid fun W => rMetaFault_any a0 w0.1 W
  generalize metE a0 = c at *
  clear w0
  obtain ⟨mode, uid, gid, user, group, sec, nano⟩ := a0
  unfold metA at H1 H2 ⊢
  simp only at H1 H2 ⊢
  have hb0 := Blk.new w 23 #[.int .i64 mode, .int .i64 uid, .int .i64 gid, .string (bs user), .string (bs group), .int .i64 sec, .int .i64 nano]
  have hw0 : Below w.heap.size w (w.alloc (.cells #[.int .i64 mode, .int .i64 uid, .int .i64 gid, .string (bs user), .string (bs group), .int .i64 sec, .int .i64 nano] 23)) := (Below.refl _ _).alloc (Nat.le_refl _) _
  go_enter Try.func3, Try.ntmps3
  go_wp2_with fail
  refine (H1.out _).mono ?_; rintro e1 w1 ⟨rfl, hb⟩
  have hb1 := hb0.below hb hb0.lt
  have hw1 := hw0.trans (hb.mono hw0.size)
  clear hb0 hw0 hb
  obtain ⟨c0, c1, c2, c3, c4, c5, c6⟩ := blk7 hb1
  go_wp2_with fail
  refine (H2.out _).mono ?_; rintro e1 w2 ⟨rfl, hb⟩
  have HW2 := Lib.hid (hw1.trans (hb.mono hw1.size))
  clear hb1 hw1 hb c0 c1 c2 c3 c4 c5 c6
  go_wp2_with fail
  go_ret
  exact ⟨rfl, HW2.out⟩
end Go.Proofs.Ythdkfpknblinfaa
