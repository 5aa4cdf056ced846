/- Sums and products of lists. -/
import Derived.Test.YtpmjiabllmomjabList
namespace Go.Proofs.Ytpmjiabllmomjab
open Go.RowKit Flt

end Go.Proofs.Ytpmjiabllmomjab
