/- Contracts that name what comes out. -/
import Derived.Test.YtpmjiabllmomjaaV3
namespace Go.Proofs.Ytpmjiabllmomjaa
open Go.RowKit Flt
set_option linter.unusedVariables false

end Go.Proofs.Ytpmjiabllmomjaa
