/- Contracts that name what comes out. -/
import Derived.Test.YtofhemganefhcaaV3
namespace Go.Proofs.Ytofhemganefhcaa
open Go.RowKit Flt
set_option linter.unusedVariables false

end Go.Proofs.Ytofhemganefhcaa
