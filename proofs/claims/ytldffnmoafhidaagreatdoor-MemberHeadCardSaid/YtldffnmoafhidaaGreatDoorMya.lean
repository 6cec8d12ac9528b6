/- Texts of one kind, in one file: MemX, PaxS, MemYA, MemYB, MemYC, MemYD, MemYE, MemYF, MemYG. -/
import Derived.Test.YtldffnmoafhidaaGreatDoorMwt
import Derived.Test.YtldffnmoafhidaaGreatDoorMgh
import Derived.Test.YtldffnmoafhidaaGreatDoorCut
import Derived.Test.YtldffnmoafhidaaGreatDoorFld
import Derived.Deep.RegionHeld3
import Derived.Test.YtldffnmoafhidaaGreatDoorPxa
import Derived.OwnWalk
import Derived.Test.YtldffnmoafhidaaGreatDoorMcv
/- Package member: entry. -/
set_option linter.unusedVariables false
set_option maxRecDepth 100000
namespace Go.Proofs.YtldffnmoafhidaaGreatDoor
open Go.RowKit
open Go.OpenShut
/-- the texts of a header that is read are short -/
def SmallH (h : HeadV) : Prop := h.name.length ≤ 512 ∧ h.pre.length ≤ 512 ∧ h.link.length ≤ 512 ∧ h.user.length ≤ 512 ∧ h.group.length ≤ 512
end Go.Proofs.YtldffnmoafhidaaGreatDoor
/- pax.Read: its list is a row of the call's own. -/
set_option linter.unusedVariables false
set_option maxRecDepth 100000
namespace Go.Proofs.YtldffnmoafhidaaGreatDoor
open Go.RowKit
open Go.OpenShut
end Go.Proofs.YtldffnmoafhidaaGreatDoor
/- Package member: Read. -/
set_option linter.unusedVariables false
set_option maxRecDepth 100000
namespace Go.Proofs.YtldffnmoafhidaaGreatDoor
open Go.RowKit
open Go.OpenShut
theorem far11 {W : World} {g g' t : Nat} {cs : Array Value} (h : Blk W g t cs) (hne : g ≠ g') (v0 v1 v2 v3 v4 v5 v6 v7 v8 v9 v10 : Value) : Blk (((((((((((W.setCell ⟨g', 0, none⟩ v0).setCell ⟨g', 1, none⟩ v1).setCell ⟨g', 2, none⟩ v2).setCell ⟨g', 3, none⟩ v3).setCell ⟨g', 4, none⟩ v4).setCell ⟨g', 5, none⟩ v5).setCell ⟨g', 6, none⟩ v6).setCell ⟨g', 7, none⟩ v7).setCell ⟨g', 8, none⟩ v8).setCell ⟨g', 9, none⟩ v9).setCell ⟨g', 10, none⟩ v10) g t cs :=
  ((((((((((h.far (p := ⟨g', 0, none⟩) hne v0).far (p := ⟨g', 1, none⟩) hne v1).far (p := ⟨g', 2, none⟩) hne v2).far (p := ⟨g', 3, none⟩) hne v3).far (p := ⟨g', 4, none⟩) hne v4).far (p := ⟨g', 5, none⟩) hne v5).far (p := ⟨g', 6, none⟩) hne v6).far (p := ⟨g', 7, none⟩) hne v7).far (p := ⟨g', 8, none⟩) hne v8).far (p := ⟨g', 9, none⟩) hne v9).far (p := ⟨g', 10, none⟩) hne v10
end Go.Proofs.YtldffnmoafhidaaGreatDoor
/- Package member: Read, where the first block is bad. -/
set_option linter.unusedVariables false
set_option maxRecDepth 100000
namespace Go.Proofs.YtldffnmoafhidaaGreatDoor
open Go.RowKit
open Go.OpenShut
end Go.Proofs.YtldffnmoafhidaaGreatDoor
/- Package member: Read, where the records are bad. -/
set_option linter.unusedVariables false
set_option maxRecDepth 100000
namespace Go.Proofs.YtldffnmoafhidaaGreatDoor
open Go.RowKit
open Go.OpenShut
end Go.Proofs.YtldffnmoafhidaaGreatDoor
/- Package member: Read, where the second block is bad. -/
set_option linter.unusedVariables false
set_option maxRecDepth 100000
namespace Go.Proofs.YtldffnmoafhidaaGreatDoor
open Go.RowKit
open Go.OpenShut
end Go.Proofs.YtldffnmoafhidaaGreatDoor
/- Package member: Read, two blocks. -/
set_option linter.unusedVariables false
set_option maxRecDepth 100000
namespace Go.Proofs.YtldffnmoafhidaaGreatDoor
open Go.RowKit
open Go.OpenShut
end Go.Proofs.YtldffnmoafhidaaGreatDoor
/- Package member: Read, one block. -/
set_option linter.unusedVariables false
set_option maxRecDepth 100000
namespace Go.Proofs.YtldffnmoafhidaaGreatDoor
open Go.RowKit
open Go.OpenShut
end Go.Proofs.YtldffnmoafhidaaGreatDoor
/- Package member: Read. -/
set_option linter.unusedVariables false
set_option maxRecDepth 100000
namespace Go.Proofs.YtldffnmoafhidaaGreatDoor
open Go.RowKit
open Go.OpenShut
end Go.Proofs.YtldffnmoafhidaaGreatDoor
