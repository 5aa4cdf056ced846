/- A number within bounds. -/
import Derived.Test.YtlgamkbonpjchabRows
import Derived.Test.YtlgamkbonpjchabFlt
import Derived.KernelRfl
namespace Go.Proofs.Ytlgamkbonpjchab
open Go.RowKit Flt

end Go.Proofs.Ytlgamkbonpjchab
