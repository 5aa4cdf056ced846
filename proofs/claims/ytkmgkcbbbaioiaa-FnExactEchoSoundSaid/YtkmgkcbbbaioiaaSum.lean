/- Sums and products of lists. -/
import Derived.Test.YtkmgkcbbbaioiaaList
namespace Go.Proofs.Ytkmgkcbbbaioiaa
open Go.RowKit Flt

end Go.Proofs.Ytkmgkcbbbaioiaa
