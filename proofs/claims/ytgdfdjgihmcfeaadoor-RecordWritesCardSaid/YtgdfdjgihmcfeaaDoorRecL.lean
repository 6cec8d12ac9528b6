/- The walks of package record's laws. -/
import Derived.Test.YtgdfdjgihmcfeaaDoorRecG
import Derived.Test.YtgdfdjgihmcfeaaDoorLaid
import Derived.Test.YtgdfdjgihmcfeaaDoorArg
import Derived.Test.YtgdfdjgihmcfeaaDoorRep
import Derived.Test.YtgdfdjgihmcfeaaDoorOctA
set_option linter.unusedVariables false
set_option maxRecDepth 100000
namespace Go.Proofs.YtgdfdjgihmcfeaaDoor
open Go.RowKit
open Go.OpenShut
set_option maxHeartbeats 1000000 in
theorem RecordWrites_walk (a0 b0 : ByteArray) (w0 : a0.size ≤ 140737488351232 ∧ b0.size ≤ 140737488351232) (w : World) (hL : laidMetH Tryd.prog Rows.recordWritesRow.laid w) :
    Calls Tryd.prog 3 #[.agg #[.string a0, .string b0]] w fun e w' => e = .returned (.bool true) ∧ Below w.heap.size w w' := by
  have T : Tab w := tab_of_laid hL (by kernel_rfl) (by simp [Rows.recordWritesRow])
  clear hL
  obtain ⟨z0, z1⟩ := w0
  have H1 := Lib.hid fun W => rCheck_any a0 b0 W (by unfold maxLen; omega) (by unfold maxLen; omega)
  have H2 := Lib.hid fun W T => rWrite_any a0 b0 W T (by unfold maxLen; omega) (by unfold maxLen; omega)
  have H3 := Lib.hid fun W => rRecFault_any a0 b0 W (by unfold maxLen; omega) (by unfold maxLen; omega)
  have H4 := Lib.hid fun W T => rRecText_any a0 b0 W T (by unfold maxLen; omega) (by unfold maxLen; omega)
  unfold recV at H1 H2 H3 H4
  generalize chkR a0.data.toList b0.data.toList = c at *
  generalize recW a0.data.toList b0.data.toList = t at *
  obtain ⟨X, x⟩ := t
  have hb0 := Blk.new w 23 #[.string a0, .string b0]
  have hw0 : Below w.heap.size w (w.alloc (.cells #[.string a0, .string b0] 23)) := (Below.refl _ _).alloc (Nat.le_refl _) _
  clear z0 z1
  go_enter Tryd.func3, Tryd.ntmps3
  go_wp2_with fail
  refine (H1.out _).mono ?_; rintro e1 w1 ⟨rfl, hb⟩
  have hb1 := hb0.below hb hb0.lt
  have hw1 := hw0.trans (hb.mono hw0.size)
  clear hb0 hw0 hb
  obtain ⟨⟨c0, c1⟩, -⟩ := blk2 hb1
  go_wp2_with fail
  refine (H2.out _ (T.below hw1)).mono ?_; rintro e1 w2 ⟨rfl, hb⟩
  have hb2 := hb1.below hb hb1.lt
  have hw2 := hw1.trans (hb.mono hw1.size)
  clear hb1 hw1 hb c0 c1
  obtain ⟨⟨c0, c1⟩, -⟩ := blk2 hb2
  go_wp2_with fail
  refine (H3.out _).mono ?_; rintro e1 w3 ⟨rfl, hb⟩
  have hb3 := hb2.below hb hb2.lt
  have hw3 := hw2.trans (hb.mono hw2.size)
  clear hb2 hw2 hb c0 c1
  obtain ⟨⟨c0, c1⟩, -⟩ := blk2 hb3
  go_wp2_with fail
  refine (H4.out _ (T.below hw3)).mono ?_; rintro e1 w4 ⟨rfl, hb⟩
  have HW4 := Lib.hid (hw3.trans (hb.mono hw3.size))
  clear hb3 hw3 hb c0 c1
  go_wp2_with fail
  go_ret
  exact ⟨rfl, HW4.out⟩
set_option maxHeartbeats 1000000 in
theorem RecordReads_walk (a0 : ByteArray) (w0 : a0.size ≤ maxLen) (r0 : a0.size ≤ 140737488351232) (w : World) (hL : laidMetH Tryd.prog Rows.recordReadsRow.laid w) :
    Calls Tryd.prog 4 #[.string a0] w fun e w' => e = .returned (.bool true) ∧ Below w.heap.size w w' := by
  have T : Tab w := tab_of_laid hL (by kernel_rfl) (by simp [Rows.recordReadsRow])
  clear hL
  have H1 := Lib.hid fun W T => Read_any a0 W T (by omega)
  have H2 := Lib.hid fun W T => rRecOf_any a0 W T (by omega)
  generalize recR a0.data.toList = r at *
  obtain ⟨k, v, rest, c⟩ := r
  unfold rdV recV at H1 H2
  simp only at H1 H2
  go_enter Tryd.func4, Tryd.ntmps4
  go_wp2_with fail
  refine (H1.out _ T).mono ?_; rintro e1 w1 ⟨rfl, hb⟩
  have hb1 := Blk.new w1 23 #[.string (bs k), .string (bs v)]
  have hw1 : Below w.heap.size w (w1.alloc (.cells #[.string (bs k), .string (bs v)] 23)) := hb.alloc hb.size _
  clear hb
  go_wp2_with fail
  refine (H2.out _ (T.below hw1)).mono ?_; rintro e1 w2 ⟨rfl, hb⟩
  have hb2 := (hb1.below hb hb1.lt).alloc (.cells #[.string (bs k), .string (bs v)] 23)
  have hn2 := Blk.new w2 23 #[.string (bs k), .string (bs v)]
  have hw2 := hw1.trans (hb.mono hw1.size)
  have HW2 := Lib.hid (hw2.alloc hw2.size (.cells #[.string (bs k), .string (bs v)] 23))
  obtain ⟨⟨c0, c1⟩, -⟩ := blk2 hb2
  obtain ⟨⟨d0, d1⟩, -⟩ := blk2 hn2
  clear hb1 hw1 hb hb2 hn2 hw2
  go_wp2_with fail
  go_ret
  exact ⟨rfl, HW2.out⟩
end Go.Proofs.YtgdfdjgihmcfeaaDoor
