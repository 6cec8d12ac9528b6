/- Texts of one kind, in one file: NodC, NodD, NodE, NodG, NodH, NodF. -/
import Derived.Test.YtdcbmjihpjnbbaaDoorNoa
import Derived.Test.YtdcbmjihpjnbbaaDoorMth
import Derived.Test.YtdcbmjihpjnbbaaDoorSpl
import Derived.Laws.StructEq
import Derived.Test.YtdcbmjihpjnbbaaDoorPth
import Derived.Deep.RegionHeld3
import Derived.Deep.DeepCutAuto
import Derived.Deep.QuietTactic
import Derived.BigQuiet
/- The reference's faults of nodes; finding. -/
set_option linter.unusedVariables false
set_option maxRecDepth 100000
namespace Go.Proofs.YtdcbmjihpjnbbaaDoor
open Go.RowKit
open Go.OpenShut
/-- texts and data are no longer than memory -/
def NodeV.sz (x : NodeV) : Prop := (x.path.length ≤ 140737488351232 ∧ x.target.length ≤ 140737488351232 ∧ x.data.length ≤ 140737488351232) ∧ x.md.sz
theorem NodeV.wf.sz {x : NodeV} (h : x.wf) : x.sz := ⟨h.1, h.2.1.1⟩
theorem bs_nil_eq {l : List UInt8} : ((bs l).toList == []) = decide (l = []) := by
  rw [ByteArray.toList_eq, Bool.eq_iff_iff, beq_iff_eq, decide_eq_true_eq]; exact Iff.rfl
end Go.Proofs.YtdcbmjihpjnbbaaDoor
/- The reference's finding. -/
set_option linter.unusedVariables false
set_option maxRecDepth 100000
namespace Go.Proofs.YtdcbmjihpjnbbaaDoor
open Go.RowKit
open Go.OpenShut
theorem bs_eq {a b : List UInt8} : ((bs a).toList == (bs b).toList) = decide (a = b) := by
  rw [str_eq, Bool.eq_iff_iff, decide_eq_true_eq, decide_eq_true_eq]
  exact ⟨fun e => congrArg (fun s : ByteArray => s.data.toList) e, fun e => by rw [e]⟩
end Go.Proofs.YtdcbmjihpjnbbaaDoor
/- Nodes that are the same. -/
set_option linter.unusedVariables false
set_option maxRecDepth 100000
namespace Go.Proofs.YtdcbmjihpjnbbaaDoor
open Go.RowKit
open Go.OpenShut
def metB (a b : MetaV) : Bool := decide (a = b)
theorem metB_eq (a b : MetaV) : metB a b = ((a.mode == b.mode) && ((a.uid == b.uid) && ((a.gid == b.gid) && (((bs a.user).toList == (bs b.user).toList) && (((bs a.group).toList == (bs b.group).toList) && ((a.second == b.second) && (a.nano == b.nano))))))) := by
  unfold metB
  rw [bs_eq, bs_eq, Bool.eq_iff_iff, decide_eq_true_eq, ← MetaV.ext_iff']
  simp only [Bool.and_eq_true, beq_iff_eq, decide_eq_true_eq]
theorem meta_neq (a b : MetaV) : ∀ W : World, (binOp .neq 27 (.agg (metA a)) (.agg (metA b))).run Tryd.prog W = .ok (.bool (!metB a b)) W := by
  intro W
  rw [metB_eq]
  obtain ⟨a0, a1, a2, a3, a4, a5, a6⟩ := a
  obtain ⟨b0, b1, b2, b3, b4, b5, b6⟩ := b
  unfold metA
  simp only
  go_simp
  generalize (bs a3).toList = u3
  generalize (bs b3).toList = v3
  generalize (bs a4).toList = u4
  generalize (bs b4).toList = v4
  by_cases h0 : a0 = b0
  · by_cases h1 : a1 = b1
    · by_cases h2 : a2 = b2
      · by_cases h3 : u3 = v3
        · by_cases h4 : u4 = v4
          · by_cases h5 : a5 = b5
            · by_cases h6 : a6 = b6
              · simp [h0, h1, h2, h3, h4, h5, h6]
              · simp [h0, h1, h2, h3, h4, h5, h6]
            · simp [h0, h1, h2, h3, h4, h5]
          · simp [h0, h1, h2, h3, h4]
        · simp [h0, h1, h2, h3]
      · simp [h0, h1, h2]
    · simp [h0, h1]
  · simp [h0]
end Go.Proofs.YtdcbmjihpjnbbaaDoor
/- What a round of a tree's checking needs: its state, the faults by their causes. -/
set_option linter.unusedVariables false
set_option maxRecDepth 100000
namespace Go.Proofs.YtdcbmjihpjnbbaaDoor
open Go.RowKit
open Go.OpenShut
end Go.Proofs.YtdcbmjihpjnbbaaDoor
/- The reference's fault of a tree. -/
set_option linter.unusedVariables false
set_option maxRecDepth 100000
namespace Go.Proofs.YtdcbmjihpjnbbaaDoor
open Go.RowKit
open Go.OpenShut
end Go.Proofs.YtdcbmjihpjnbbaaDoor
/- Trees that are the same. -/
set_option linter.unusedVariables false
set_option maxRecDepth 100000
namespace Go.Proofs.YtdcbmjihpjnbbaaDoor
open Go.RowKit
open Go.OpenShut
end Go.Proofs.YtdcbmjihpjnbbaaDoor
