/- Contracts that name what comes out. -/
import Derived.Test.YthinjgiakaflpaaV3
namespace Go.Proofs.Ythinjgiakaflpaa
open Go.RowKit Flt
set_option linter.unusedVariables false

end Go.Proofs.Ythinjgiakaflpaa
