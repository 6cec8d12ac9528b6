/- Texts of one kind, in one file: PatL, Pat, GlqN. -/
import Derived.Test.YtmejnabngfpbeaaGreatDoorFlb
import Derived.Test.YtmejnabngfpbeaaGreatDoorArb
import Derived.Test.YtmejnabngfpbeaaGreatDoorGlq
import Derived.Test.YtmejnabngfpbeaaGreatDoorMth
import Derived.Test.YtmejnabngfpbeaaGreatDoorGlb
set_option linter.unusedVariables false
namespace Go.Proofs.YtmejnabngfpbeaaGreatDoor
open Go.RowKit
def patsL : List (List UInt8) := [[97], [42, 42], [42], [97, 47, 42, 42], [42, 42, 47, 98], [63], [91, 97, 45, 98, 93], [91, 33, 97, 93, 42], [42, 42, 47, 42, 46, 116, 120, 116], [120, 42], [97, 98, 47, 42], [42, 42, 47, 110, 42]]
def ruleT (r : RawV) : RuleV := (decide (pick r.kind 2 = 0), patsL.getD (pick r.a 12).toNat [])
def partsP : List (List UInt8) → Int
 | [] => 0
 | s :: l => if s = [] then 9 else if (pieceF s).isNone then 3 else partsP l
theorem pathE_split {s : List UInt8} (h : pathE s = 0) : (1 ≤ s.length ∧ s.length ≤ 400) ∧ hasB 0 s = false ∧ (partsL 47 s).all nameB = true := by
 refine ⟨?_, ?_⟩
 ·apply Classical.byContradiction
  intro hc
  rw [pathE_size (by omega)] at h; cases h
 ·unfold pathE at h
  split at h
  ·exact absurd h (by decide)
  ·split at h
   ·exact absurd h (by decide)
   ·rename_i hh
    split at h
    ·rename_i ha; exact ⟨by simpa using hh, ha⟩
    ·exact absurd h (by decide)
def plainB (d : List UInt8) : Bool := d.all fun c => decide (c ≠ 42) && decide (c ≠ 63) && decide (c ≠ 91)
end Go.Proofs.YtmejnabngfpbeaaGreatDoor
