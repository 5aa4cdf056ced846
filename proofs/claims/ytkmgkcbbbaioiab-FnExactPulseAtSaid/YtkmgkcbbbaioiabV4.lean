/- Contracts that name what comes out. -/
import Derived.Test.YtkmgkcbbbaioiabV3
namespace Go.Proofs.Ytkmgkcbbbaioiab
open Go.RowKit Flt
set_option linter.unusedVariables false

theorem validThroat_is (p o c b s : Nat) (V : Bool) (w : World) (h : throatC (cls .f32 p) (cls .f32 o) (cls .f32 c) (cls .f32 b) (cls .f32 s) = V) :
    Calls Try.prog 86 #[.agg #[.float .f32 p, .float .f32 o, .float .f32 c, .float .f32 b, .float .f32 s]] w fun e w' => e = .returned (.bool V) ∧ Ext w w' := by
  rw [← h]; exact validThroat_any _ _ _ _ _ _
theorem validVoice_is (p n : Nat) (s : Int) (V : Bool) (w : World) (h : voiceC (cls .f32 p) (cls .f32 n) s = V) :
    Calls Try.prog 93 #[.agg #[.float .f32 p, .float .f32 n, .int .i64 s]] w fun e w' => e = .returned (.bool V) ∧ Ext w w' := by
  rw [← h]; exact validVoice_any _ _ _ _
end Go.Proofs.Ytkmgkcbbbaioiab
