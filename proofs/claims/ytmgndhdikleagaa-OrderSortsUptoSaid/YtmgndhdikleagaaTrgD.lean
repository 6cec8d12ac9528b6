/- tree.Check. -/
import Derived.Test.YtmgndhdikleagaaTrgA
import Derived.Test.YtmgndhdikleagaaTrgB
import Derived.Test.YtmgndhdikleagaaTrgC
import Derived.Test.YtmgndhdikleagaaNodG
import Derived.Test.YtmgndhdikleagaaMth
import Derived.Deep.RegionHeld3
import Derived.Deep.RegionWith
import Derived.Deep.DeepCutAuto
import Derived.Deep.QuietTactic
import Derived.BigQuiet
set_option linter.unusedVariables false
set_option maxRecDepth 100000
namespace Go.Proofs.Ytmgndhdikleagaa
open Go.RowKit
open Go.OpenShut
end Go.Proofs.Ytmgndhdikleagaa
