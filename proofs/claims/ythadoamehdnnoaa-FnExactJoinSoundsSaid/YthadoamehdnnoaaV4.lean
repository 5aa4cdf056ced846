/- Contracts that name what comes out. -/
import Derived.Test.YthadoamehdnnoaaV3
namespace Go.Proofs.Ythadoamehdnnoaa
open Go.RowKit Flt
set_option linter.unusedVariables false

end Go.Proofs.Ythadoamehdnnoaa
