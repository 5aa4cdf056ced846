/- Contracts that name what comes out. -/
import Derived.Test.YtofhemganefhcabV3
namespace Go.Proofs.Ytofhemganefhcab
open Go.RowKit Flt
set_option linter.unusedVariables false

end Go.Proofs.Ytofhemganefhcab
