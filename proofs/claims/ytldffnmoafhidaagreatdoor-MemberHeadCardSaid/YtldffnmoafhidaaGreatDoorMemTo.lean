/- MemberTorn: no beginning of a member is one. -/
import Derived.Test.YtldffnmoafhidaaGreatDoorMemF
import Derived.Test.YtldffnmoafhidaaGreatDoorMemJ
import Derived.Test.YtldffnmoafhidaaGreatDoorMya
import Derived.Test.YtldffnmoafhidaaGreatDoorLaid
import Derived.Test.YtldffnmoafhidaaGreatDoorArb
set_option linter.unusedVariables false
set_option maxRecDepth 100000
namespace Go.Proofs.YtldffnmoafhidaaGreatDoor
open Go.RowKit
open Go.OpenShut
theorem entD_szs (r : RawV) : (entD r).sz := by
  have g := entE_good (entD_good r)
  exact ⟨⟨by have := g.path; omega, by have := g.target; omega, by have := g.data; omega⟩, by have := g.user; omega, by have := g.group; omega⟩
end Go.Proofs.YtldffnmoafhidaaGreatDoor
