/- Two sounds together: both contracts. -/
import Derived.Test.YtpmjiabllmomjaaV9
namespace Go.Proofs.Ytpmjiabllmomjaa
open Go.RowKit Flt
set_option linter.unusedVariables false

end Go.Proofs.Ytpmjiabllmomjaa
