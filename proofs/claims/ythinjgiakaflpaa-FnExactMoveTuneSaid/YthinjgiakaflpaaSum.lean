/- Sums and products of lists. -/
import Derived.Test.YthinjgiakaflpaaList
namespace Go.Proofs.Ythinjgiakaflpaa
open Go.RowKit Flt

end Go.Proofs.Ythinjgiakaflpaa
