/- Sums and products of lists. -/
import Derived.Test.YtkmgkcbbbaioiabList
namespace Go.Proofs.Ytkmgkcbbbaioiab
open Go.RowKit Flt

end Go.Proofs.Ytkmgkcbbbaioiab
