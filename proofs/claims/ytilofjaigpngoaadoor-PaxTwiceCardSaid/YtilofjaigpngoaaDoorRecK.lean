/- The walks of package record's properties. -/
import Derived.Test.YtilofjaigpngoaaDoorRecG
import Derived.Test.YtilofjaigpngoaaDoorLaid
import Derived.Test.YtilofjaigpngoaaDoorArg
import Derived.Test.YtilofjaigpngoaaDoorRep
import Derived.Test.YtilofjaigpngoaaDoorOctA
set_option linter.unusedVariables false
set_option maxRecDepth 100000
namespace Go.Proofs.YtilofjaigpngoaaDoor
open Go.RowKit
open Go.OpenShut
def rcKey (a : RawV) : List UInt8 := 107 :: List.replicate (pick a.a 50).toNat 121
def rcVal (a : RawV) : List UInt8 := Lib.repeatL (cleanL a.text.data.toList 20) (pick a.b 25).toNat
theorem hasB_repeat (c : UInt8) (l : List UInt8) (n : Nat) (h : hasB c l = false) : hasB c (Lib.repeatL l n) = false := by
  induction n with
  | zero => rfl
  | succ n ih => rw [Lib.repeatL, hasB_app, h, ih]; rfl
theorem hasB_replicate (c d : UInt8) (n : Nat) (h : d ≠ c) : hasB c (List.replicate n d) = false := by
  unfold hasB
  rw [← Bool.not_eq_true, List.any_eq_true]
  rintro ⟨x, hx, e⟩
  rw [(List.mem_replicate.1 hx).2] at e
  exact h (eq_of_beq e)
theorem rcKey_len (a : RawV) : 1 ≤ (rcKey a).length ∧ (rcKey a).length ≤ 50 := by
  obtain ⟨h1, h2⟩ := pick_bd a.a 50 (by omega)
  unfold rcKey
  rw [List.length_cons, List.length_replicate]; omega
theorem rcVal_len (a : RawV) : (rcVal a).length ≤ 480 := by
  obtain ⟨h1, h2⟩ := pick_bd a.b 25 (by omega)
  have h3 := cleanL_le a.text.data.toList 20
  unfold rcVal
  rw [Lib.repeatL_length]
  calc (pick a.b 25).toNat * (cleanL a.text.data.toList 20).length ≤ 24 * 20 := Nat.mul_le_mul (by omega) h3
    _ = 480 := rfl
theorem rec_ok (a : RawV) : chkR (rcKey a) (rcVal a) = 0 := by
  obtain ⟨h1, h2⟩ := rcKey_len a
  have h3 := rcVal_len a
  refine chkR_ok (by omega) ?_
  rintro (h | h | h)
  · unfold rcKey at h; rw [hasB_cons, hasB_replicate 61 121 _ (by decide)] at h; revert h; decide
  · unfold rcKey at h; rw [hasB_cons, hasB_replicate 10 121 _ (by decide)] at h; revert h; decide
  · unfold rcVal at h; rw [hasB_repeat 0 _ _ (cleanL_has _ _)] at h; cases h
end Go.Proofs.YtilofjaigpngoaaDoor
