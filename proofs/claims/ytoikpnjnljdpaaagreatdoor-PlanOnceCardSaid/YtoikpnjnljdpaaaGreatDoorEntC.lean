/- The reference's faults of members. -/
import Derived.Test.YtoikpnjnljdpaaaGreatDoorEna
set_option linter.unusedVariables false
set_option maxRecDepth 100000
namespace Go.Proofs.YtoikpnjnljdpaaaGreatDoor
open Go.RowKit
open Go.OpenShut
/-- texts and data are no longer than memory -/
def EntV.sz (x : EntV) : Prop := (x.path.length ≤ 140737488351232 ∧ x.target.length ≤ 140737488351232 ∧ x.data.length ≤ 140737488351232) ∧ x.md.sz
theorem EntV.wf.sz {x : EntV} (h : x.wf) : x.sz := ⟨h.1, h.2.1.1⟩
theorem entE_path {n : EntV} (h : pathE n.path ≠ 0) : entE n = pathE n.path := if_pos h
theorem entE_meta {n : EntV} (h : pathE n.path = 0) (h2 : metE n.md ≠ 0) : entE n = metE n.md := by unfold entE; rw [if_neg (by simp [h]), if_pos h2]
theorem entE_kind {n : EntV} (h : pathE n.path = 0) (h2 : metE n.md = 0) : entE n = entK n := by unfold entE; rw [if_neg (by simp [h]), if_neg (by simp [h2])]
end Go.Proofs.YtoikpnjnljdpaaaGreatDoor
