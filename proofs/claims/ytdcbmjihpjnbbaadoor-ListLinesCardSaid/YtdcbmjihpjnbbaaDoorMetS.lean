/- The reference's reading of a mode. -/
import Derived.Test.YtdcbmjihpjnbbaaDoorMetR
import Derived.Test.YtdcbmjihpjnbbaaDoorMetP
set_option linter.unusedVariables false
set_option maxRecDepth 100000
namespace Go.Proofs.YtdcbmjihpjnbbaaDoor
open Go.RowKit
open Go.OpenShut
end Go.Proofs.YtdcbmjihpjnbbaaDoor
