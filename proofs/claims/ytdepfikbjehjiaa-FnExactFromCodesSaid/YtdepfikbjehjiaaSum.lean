/- Sums and products of lists. -/
import Derived.Test.YtdepfikbjehjiaaList
namespace Go.Proofs.Ytdepfikbjehjiaa
open Go.RowKit Flt

end Go.Proofs.Ytdepfikbjehjiaa
