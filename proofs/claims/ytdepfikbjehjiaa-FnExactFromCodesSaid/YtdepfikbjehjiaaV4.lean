/- Contracts that name what comes out. -/
import Derived.Test.YtdepfikbjehjiaaV3
namespace Go.Proofs.Ytdepfikbjehjiaa
open Go.RowKit Flt
set_option linter.unusedVariables false

end Go.Proofs.Ytdepfikbjehjiaa
