/- The flow of a throat at a phase: both contracts. -/
import Derived.Test.YtpmjiabllmomjaaV7
namespace Go.Proofs.Ytpmjiabllmomjaa
open Go.RowKit Flt
set_option linter.unusedVariables false

noncomputable def flowC (o c p : Option Nat) : Option Nat :=
  if fcmp .lss (ford .f32 p o) then fop .mul .f32 (some 1056964608) (fop .sub .f32 (some 1065353216) (sineF (fop .add .f32 (fop .mul .f32 (some 1056964608) (fop .quo .f32 p o)) (some 1048576000))))
  else if fcmp .lss (ford .f32 p (fop .add .f32 o c)) then sineF (fop .add .f32 (fop .mul .f32 (some 1048576000) (fop .quo .f32 (fop .sub .f32 p o) c)) (some 1048576000))
  else some 0
end Go.Proofs.Ytpmjiabllmomjaa
