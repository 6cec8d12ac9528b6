/- The walk of the law on package pax's writing. -/
import Derived.Test.YtilofjaigpngoaaDoorPaxC
import Derived.Test.YtilofjaigpngoaaDoorLaid
set_option linter.unusedVariables false
set_option maxRecDepth 100000
namespace Go.Proofs.YtilofjaigpngoaaDoor
open Go.RowKit
open Go.OpenShut
set_option maxHeartbeats 1000000 in
theorem PaxWrites_walk (A0 : Option Addr) (n0 c0 : Nat) (rs0 : List (ByteArray × ByteArray)) (hn0 : rs0.length = n0) (hm0 : n0 ≤ 140737488355328) (hf0 : ∀ r ∈ rs0, r.1.size ≤ 140737488351232 ∧ r.2.size ≤ 140737488351232) (w : World) (hr0 : RecsB w A0 rs0) (hL : laidMetH Tryd.prog Rows.paxWritesRow.laid w) :
    Calls Tryd.prog 3 #[.slice A0 n0 c0] w fun e w' => e = .returned (.bool true) ∧ Below w.heap.size w w' := by
  have T : Tab w := tab_of_laid hL (by kernel_rfl) (by simp [Rows.paxWritesRow])
  clear hL
  have hn : (rs0.map unb).length = n0 := by rw [List.length_map, hn0]
  have hz := SzR.of hf0
  have H1 := Lib.hid fun W h => pCheck_any A0 n0 c0 (rs0.map unb) hn hm0 hz W h
  have H2 := Lib.hid fun W T h => pWrite_any A0 n0 c0 (rs0.map unb) hn hm0 hz W T h
  have H3 := Lib.hid fun W h => rPaxFault_any A0 n0 c0 (rs0.map unb) hn hm0 hz W h
  have H4 := Lib.hid fun W T h => rPaxText_any A0 n0 c0 (rs0.map unb) hn hm0 hz W T h
  have HR := Lib.hid hr0.at
  generalize rs0.map unb = l at *
  obtain ⟨X, hX⟩ := hid_name (bs (paxW l).1)
  obtain ⟨x, hx⟩ := hid_name (paxW l).2
  obtain ⟨c, hc⟩ := hid_name (chkP l)
  rw [hX.out, hx.out] at H2 H4
  rw [hc.out] at H1 H3
  clear hr0 hn hf0 hz
  go_enter Tryd.func3, Tryd.ntmps3
  go_wp2_with fail
  refine (H1.out _ HR.out).mono ?_; rintro e w1 ⟨rfl, hb⟩
  have HB1 := Lib.hid hb
  clear hb
  go_wp2_with fail
  refine (H2.out _ (T.below HB1.out) (HR.out.below HB1.out)).mono ?_; rintro e w2 ⟨rfl, hb⟩
  have HB2 := Lib.hid (HB1.out.trans (hb.mono HB1.out.size))
  clear hb
  go_wp2_with fail
  refine (H3.out _ (HR.out.below HB2.out)).mono ?_; rintro e w3 ⟨rfl, hb⟩
  have HB3 := Lib.hid (HB2.out.trans (hb.mono HB2.out.size))
  clear hb
  go_wp2_with fail
  refine (H4.out _ (T.below HB3.out) (HR.out.below HB3.out)).mono ?_; rintro e w4 ⟨rfl, hb⟩
  have HB4 := Lib.hid (HB3.out.trans (hb.mono HB3.out.size))
  clear hb
  go_wp2_with fail
  go_ret
  exact ⟨rfl, HB4.out⟩
end Go.Proofs.YtilofjaigpngoaaDoor
