/- The law of rules: FilterTakes. -/
import Derived.Test.YtilmfnlhpnbngaaDoorFltP
set_option linter.unusedVariables false
set_option maxRecDepth 100000
namespace Go.Proofs.YtilmfnlhpnbngaaDoor
open Go.RowKit
open Go.OpenShut
set_option maxHeartbeats 1000000 in
theorem FilterTakes_walk (A0 : Option Addr) (n0 c0 : Nat) (rs0 : List RuleV) (a1 : ByteArray) (hn0 : rs0.length = n0) (hm0 : n0 ≤ 140737488355328) (hf0 : ∀ r ∈ rs0, r.2.length ≤ 140737488351232) (w1 : a1.size ≤ maxLen) (w : World) (hr0 : RulesAt w A0 rs0) :
    Calls Tryd.prog 3 #[.slice A0 n0 c0, .string a1] w fun e w' => e = .returned (.bool true) ∧ Below w.heap.size w w' := by
  have H1 := Lib.hid fun W (h : Below w.heap.size w W) => fCheck_any A0 n0 c0 rs0 hn0 hm0 hf0 W (hr0.below h)
  have H2 := Lib.hid fun W (h : Below w.heap.size w W) => fTakes_any A0 n0 c0 rs0 hn0 hm0 hf0 a1 w1 W (hr0.below h)
  have H3 := Lib.hid fun W (h : Below w.heap.size w W) => RulesFault_any A0 n0 c0 rs0 hn0 hm0 hf0 W (hr0.below h)
  have H4 := Lib.hid fun W (h : Below w.heap.size w W) => RulesTake_any A0 n0 c0 rs0 hn0 hm0 hf0 a1 w1 W (hr0.below h)
  clear hn0 hf0 hr0
  generalize rulesE rs0 = E at H1 H3
  generalize takeE rs0 a1.data.toList = F at H2 H4
  generalize takeB rs0 a1.data.toList = b at H2 H4
  go_enter Tryd.func3, Tryd.ntmps3
  go_wp2_with fail
  refine (H1.out _ (Below.refl _ _)).mono ?_; rintro e x1 ⟨rfl, hb⟩
  have HB1 := Lib.hid hb
  clear hb
  go_wp2_with fail
  refine (H2.out _ HB1.out).mono ?_; rintro e x2 ⟨rfl, hb⟩
  have HB2 := Lib.hid (HB1.out.trans (hb.mono HB1.out.size))
  clear hb
  go_wp2_with fail
  refine (H3.out _ HB2.out).mono ?_; rintro e x3 ⟨rfl, hb⟩
  have HB3 := Lib.hid (HB2.out.trans (hb.mono HB2.out.size))
  clear hb
  go_wp2_with fail
  refine (H4.out _ HB3.out).mono ?_; rintro e x4 ⟨rfl, hb⟩
  have HB4 := Lib.hid (HB3.out.trans (hb.mono HB3.out.size))
  clear hb
  go_wp2_with fail
  go_ret
  exact ⟨rfl, HB4.out⟩
end Go.Proofs.YtilmfnlhpnbngaaDoor
