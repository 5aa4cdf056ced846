/- The sine of turns as the specification tells it: the walks. -/
import Derived.Test.YtlgamkbonpjchacSine
import Derived.Test.YtlgamkbonpjchacSineD
namespace Go.Proofs.Ytlgamkbonpjchac
open Go.RowKit Flt

end Go.Proofs.Ytlgamkbonpjchac
