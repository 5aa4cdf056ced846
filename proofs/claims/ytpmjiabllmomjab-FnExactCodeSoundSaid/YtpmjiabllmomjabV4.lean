/- Contracts that name what comes out. -/
import Derived.Test.YtpmjiabllmomjabV3
namespace Go.Proofs.Ytpmjiabllmomjab
open Go.RowKit Flt
set_option linter.unusedVariables false

end Go.Proofs.Ytpmjiabllmomjab
