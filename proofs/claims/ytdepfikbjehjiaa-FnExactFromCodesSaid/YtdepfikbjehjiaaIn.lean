/- A number within bounds. -/
import Derived.Test.YtdepfikbjehjiaaRows
import Derived.Test.YtdepfikbjehjiaaFlt
import Derived.KernelRfl
namespace Go.Proofs.Ytdepfikbjehjiaa
open Go.RowKit Flt

end Go.Proofs.Ytdepfikbjehjiaa
