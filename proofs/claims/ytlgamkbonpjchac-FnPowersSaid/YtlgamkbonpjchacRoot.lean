/- Square roots. -/
import Derived.Test.YtlgamkbonpjchacNum
import Derived.Test.YtlgamkbonpjchacSqrt
namespace Go.Proofs.Ytlgamkbonpjchac
open Go.RowKit Flt

theorem sqrt_any (b : Nat) (X : Option Nat) (hX : Is .f64 b X) (w : World) : Calls Try.prog 84 #[.float .f64 b] w fun e w' => ∃ r, e = .returned (.float .f64 r) ∧ Is .f64 r (fsqrt X) ∧ Hid (r < 18446744073709551616) ∧ ∃ n, w' = w.drewN n := by
  go_enter Try.func84, Try.ntmps84
  go_wp2_with (refine wpList_fsqrt (f := 90) (fn := Try.f90) rfl rfl Try.func90 (by kernel_rfl) (by kernel_rfl) (by kernel_rfl) (by kernel_rfl) rfl hX ?_; intro r n hr hrw)
  go_ret
  exact ⟨r, rfl, hr, hrw, n, rfl⟩
theorem narrow_any (b : Nat) (X : Option Nat) (hX : Is .f64 b X) (hf : Hid (fits X)) (w : World) : Calls Try.prog 83 #[.float .f64 b] w fun e w' => ∃ r, e = .returned (.float .f32 r) ∧ Is .f32 r (fnar X) ∧ ∃ n, w' = w.drewN n := by
  go_enter Try.func83, Try.ntmps83
  go_wp2_with (refine wpList_fn rfl rfl Try.underlying28 Try.underlying23 rfl hX hf.out ?_; intro r n hr hrw)
  go_ret
  exact ⟨r, rfl, hr, _, rfl⟩
theorem sameFloat_is (a b : Nat) (X : Option Nat) (ha : Is .f64 a X) (hb : Is .f64 b X) (w : World) : Calls Try.prog 12 #[.float .f64 a, .float .f64 b] w fun e w' => e = .returned (.bool true) ∧ ∃ n, w' = w.drewN n :=
  sameFloat_yes a b X ha hb w
end Go.Proofs.Ytlgamkbonpjchac
