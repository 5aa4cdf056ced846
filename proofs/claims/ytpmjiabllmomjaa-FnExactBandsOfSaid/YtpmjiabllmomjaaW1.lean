/- Sounds of chapter 4, as the reference tells them. -/
import Derived.Test.YtpmjiabllmomjaaV9
import Derived.Test.YtpmjiabllmomjaaSum
namespace Go.Proofs.Ytpmjiabllmomjaa
open Go.RowKit Flt
set_option linter.unusedVariables false

theorem signed_val (s : Bool) (m k : Nat) : Ieee.signed s m k = if s then -((m * 2 ^ k : Nat) : Int) else ((m * 2 ^ k : Nat) : Int) := by
  unfold Ieee.signed
  cases s <;> simp [Nat.shiftLeft_eq]

end Go.Proofs.Ytpmjiabllmomjaa
