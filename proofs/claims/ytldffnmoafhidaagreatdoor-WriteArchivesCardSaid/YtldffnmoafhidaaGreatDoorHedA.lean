/- Arguments that are headers. -/
import Derived.Test.YtldffnmoafhidaaGreatDoorArb
import Derived.Test.YtldffnmoafhidaaGreatDoorMth
set_option linter.unusedVariables false
set_option maxRecDepth 100000
namespace Go.Proofs.YtldffnmoafhidaaGreatDoor
open Go.RowKit
open Go.OpenShut
open Go.ChangeShapes Go.WideShapes Go.Deep
/-- a header's cells -/
def headC (h : HeadV) : Array Value := #[.string (bs h.name), .string (bs h.pre), .string (bs h.link), .int .i64 h.mode, .int .i64 h.uid, .int .i64 h.gid, .int .i64 h.size, .int .i64 h.time, .int .u8 (h.typ.toNat : Int), .string (bs h.user), .string (bs h.group)]
def HeadV.wf (h : HeadV) : Prop := (h.name.length ≤ 140737488351232 ∧ h.pre.length ≤ 140737488351232 ∧ h.link.length ≤ 140737488351232 ∧ h.user.length ≤ 140737488351232 ∧ h.group.length ≤ 140737488351232) ∧
  (Lit.int .i64 h.mode).wf = true ∧ (Lit.int .i64 h.uid).wf = true ∧ (Lit.int .i64 h.gid).wf = true ∧ (Lit.int .i64 h.size).wf = true ∧ (Lit.int .i64 h.time).wf = true
section
variable {H : Type} {enc : TypeId × Value → H} {w : World} {base : Nat} {spare : Nat → Bool} {held : Bool}
end
end Go.Proofs.YtldffnmoafhidaaGreatDoor
