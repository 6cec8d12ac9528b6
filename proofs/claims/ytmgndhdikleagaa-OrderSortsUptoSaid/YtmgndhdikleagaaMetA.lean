/- Package meta: what is told of a node is checked. -/
import Derived.Test.YtmgndhdikleagaaMth
import Derived.Test.YtmgndhdikleagaaTim
import Derived.Test.YtmgndhdikleagaaFldA
import Derived.Test.YtmgndhdikleagaaFldB
import Derived.Test.YtmgndhdikleagaaBlk
import Derived.Below
set_option linter.unusedVariables false
set_option maxRecDepth 100000
namespace Go.Proofs.Ytmgndhdikleagaa
open Go.RowKit
open Go.OpenShut
def metA (m : MetaV) : Array Value := #[.int .i64 m.mode, .int .i64 m.uid, .int .i64 m.gid, .string (bs m.user), .string (bs m.group), .int .i64 m.second, .int .i64 m.nano]
/-- texts are no longer than memory -/
def MetaV.sz (m : MetaV) : Prop := m.user.length ≤ 140737488351232 ∧ m.group.length ≤ 140737488351232
end Go.Proofs.Ytmgndhdikleagaa
