/- Sums and products of lists. -/
import Derived.Test.YtpmjiabllmomjaaList
namespace Go.Proofs.Ytpmjiabllmomjaa
open Go.RowKit Flt

end Go.Proofs.Ytpmjiabllmomjaa
