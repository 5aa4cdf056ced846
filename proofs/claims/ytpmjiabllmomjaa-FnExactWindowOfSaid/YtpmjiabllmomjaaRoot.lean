/- Square roots. -/
import Derived.Test.YtpmjiabllmomjaaNum
import Derived.Test.YtpmjiabllmomjaaSqrt
namespace Go.Proofs.Ytpmjiabllmomjaa
open Go.RowKit Flt

set_option maxRecDepth 100000 in
theorem narrow_any (b : Nat) (X : Option Nat) (hX : Is .f64 b X) (hf : Hid (fits X)) (w : World) : Calls Try.prog 86 #[.float .f64 b] w fun e w' => ∃ r, e = .returned (.float .f32 r) ∧ Is .f32 r (fnar X) ∧ ∃ n, w' = w.drewN n := by
  go_enter Try.func86, Try.ntmps86
  go_wp2_with (refine wpList_fn rfl rfl Try.underlying41 Try.underlying33 rfl hX hf.out ?_; intro r n hr hrw)
  go_ret
  exact ⟨r, rfl, hr, _, rfl⟩
theorem sameFloat_is (a b : Nat) (X : Option Nat) (ha : Is .f64 a X) (hb : Is .f64 b X) (w : World) : Calls Try.prog 33 #[.float .f64 a, .float .f64 b] w fun e w' => e = .returned (.bool true) ∧ ∃ n, w' = w.drewN n :=
  sameFloat_yes a b X ha hb w
end Go.Proofs.Ytpmjiabllmomjaa
