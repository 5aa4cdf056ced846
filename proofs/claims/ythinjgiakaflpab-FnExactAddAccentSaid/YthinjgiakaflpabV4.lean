/- Contracts that name what comes out. -/
import Derived.Test.YthinjgiakaflpabV3
namespace Go.Proofs.Ythinjgiakaflpab
open Go.RowKit Flt
set_option linter.unusedVariables false

end Go.Proofs.Ythinjgiakaflpab
