/- The volume of a tube. -/
import Derived.Test.YthadoamehdnnoaaT4
import Derived.Test.YthadoamehdnnoaaSum
namespace Go.Proofs.Ythadoamehdnnoaa
open Go.RowKit Flt

def finR (x : Option Nat) : Option Nat := if fin32 x then x else some 0
def volR (zs : List Nat) (l t p : Option Nat) : Option Nat × Bool := if tubeC (zs.map (cls .f32)) l t p then (finR (sumF zs), fin32 (sumF zs)) else (some 0, false)
theorem cls0 : Is .f32 0 (some 0) := is_const (by decide)
end Go.Proofs.Ythadoamehdnnoaa
