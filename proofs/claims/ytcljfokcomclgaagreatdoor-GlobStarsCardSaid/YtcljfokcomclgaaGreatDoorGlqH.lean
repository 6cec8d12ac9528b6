/- The law of globs on drawn paths: GlobSelf. -/
import Derived.Test.YtcljfokcomclgaaGreatDoorGlbP
import Derived.Test.YtcljfokcomclgaaGreatDoorGlqN
import Derived.Test.YtcljfokcomclgaaGreatDoorNear
set_option linter.unusedVariables false
set_option maxRecDepth 100000
namespace Go.Proofs.YtcljfokcomclgaaGreatDoor
open Go.RowKit
open Go.OpenShut
theorem fits_val (p s : ByteArray) (b : Bool) (v : Int) (hb : fitsB p.data.toList s.data.toList = b) (hv : fitsE p.data.toList s.data.toList = v) (hp : p.size ≤ maxLen) (hs : s.size ≤ maxLen) (W : World) : Calls Tryz.prog 7 #[.string p, .string s] W fun e w' => e = .returned (.tuple #[.bool b, .int .i64 v]) ∧ Below W.heap.size W w' := by
  rw [← hb, ← hv]; exact gFits_any p s W hp hs
theorem str_dec (s t : ByteArray) : (s.toList == t.toList) = decide (s.data.toList = t.data.toList) := by
  rw [ByteArray.toList_eq, ByteArray.toList_eq]
  by_cases h : s.data.toList = t.data.toList
  · rw [decide_eq_true h, h]; simp
  · rw [decide_eq_false h]; simpa using h
/-- an index that is picked -/
theorem pk_any (np : Nat) (h1 : 1 ≤ np) (h2 : np ≤ 100000) (a : Int) (ha : (Lit.int .i64 a).wf = true) : ∃ p : Nat, p < np ∧ ∀ W, Calls Tryz.prog 5 #[.int .i64 a, .int .i64 (np : Int)] W fun e w' => e = .returned (.int .i64 (p : Int)) ∧ w' = W := by
  have h9 := pick_bd a (np : Int) (by omega)
  refine ⟨(pick a (np : Int)).toNat, by omega, fun W => ?_⟩
  have h8 := picked_any a (np : Int) W ha (by omega)
  rw [show pick a (np : Int) = (((pick a (np : Int)).toNat : Nat) : Int) by omega] at h8
  exact flip_same h8
end Go.Proofs.YtcljfokcomclgaaGreatDoor
