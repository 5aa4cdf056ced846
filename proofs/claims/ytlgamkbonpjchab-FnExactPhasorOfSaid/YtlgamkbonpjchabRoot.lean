/- Square roots. -/
import Derived.Test.YtlgamkbonpjchabNum
import Derived.Test.YtlgamkbonpjchabSqrt
namespace Go.Proofs.Ytlgamkbonpjchab
open Go.RowKit Flt

theorem sqrt_any (b : Nat) (X : Option Nat) (hX : Is .f64 b X) (w : World) : Calls Try.prog 32 #[.float .f64 b] w fun e w' => ∃ r, e = .returned (.float .f64 r) ∧ Is .f64 r (fsqrt X) ∧ Hid (r < 18446744073709551616) ∧ ∃ n, w' = w.drewN n := by
  go_enter Try.func32, Try.ntmps32
  go_wp2_with (refine wpList_fsqrt (f := 55) (fn := Try.f55) rfl rfl Try.func55 (by kernel_rfl) (by kernel_rfl) (by kernel_rfl) (by kernel_rfl) rfl hX ?_; intro r n hr hrw)
  go_ret
  exact ⟨r, rfl, hr, hrw, n, rfl⟩
theorem root_any (b : Nat) (w : World) : Calls Try.prog 14 #[.float .f32 b] w fun e w' => ∃ r, e = .returned (.float .f32 r) ∧ Is .f32 r (fnar (fsqrt (fwide (cls .f32 b)))) ∧ ∃ n, w' = w.drewN n := by
  have hf := (show Hid _ from fits_root (cls .f32 b) (cls_ok .f32 b))
  have h0 : Is .f32 b (cls .f32 b) := rfl
  go_enter Try.func14, Try.ntmps14
  go_wp2_with (first | (refine wpList_fw rfl rfl Try.underlying22 Try.underlying26 rfl (by assumption) ?_; intro r n hr hrw) | (go_at_call 32; refine (sqrt_any _ _ (by assumption) _).mono ?_; rintro e w' ⟨r, rfl, hr, hrw, n, rfl⟩) | (refine wpList_fn rfl rfl Try.underlying26 Try.underlying22 rfl (by assumption) hf.out ?_; intro r n hr hrw))
  go_ret
  exact ⟨r, rfl, hr, _, rfl⟩
theorem narrow_any (b : Nat) (X : Option Nat) (hX : Is .f64 b X) (hf : Hid (fits X)) (w : World) : Calls Try.prog 54 #[.float .f64 b] w fun e w' => ∃ r, e = .returned (.float .f32 r) ∧ Is .f32 r (fnar X) ∧ ∃ n, w' = w.drewN n := by
  go_enter Try.func54, Try.ntmps54
  go_wp2_with (refine wpList_fn rfl rfl Try.underlying26 Try.underlying22 rfl hX hf.out ?_; intro r n hr hrw)
  go_ret
  exact ⟨r, rfl, hr, _, rfl⟩
theorem l01Sqrt_any (b : Nat) (w : World) : Calls Try.prog 31 #[.float .f32 b] w fun e w' => ∃ r, e = .returned (.float .f32 r) ∧ Is .f32 r (fnar (fsqrt (fwide (cls .f32 b)))) ∧ ∃ n, w' = w.drewN n := by
  have hf := (show Hid _ from fits_root (cls .f32 b) (cls_ok .f32 b))
  have h0 : Is .f32 b (cls .f32 b) := rfl
  go_enter Try.func31, Try.ntmps31
  go_wp2_with (first | (refine wpList_fw rfl rfl Try.underlying22 Try.underlying26 rfl (by assumption) ?_; intro r n hr hrw) | (go_at_call 32; refine (sqrt_any _ _ (by assumption) _).mono ?_; rintro e w' ⟨r, rfl, hr, hrw, n, rfl⟩) | (go_at_call 54; refine (narrow_any _ _ (by assumption) hf _).mono ?_; rintro e w' ⟨r, rfl, hr, n, rfl⟩))
  go_ret
  exact ⟨r, rfl, hr, _, rfl⟩
theorem sRoot_any (b : Nat) (w : World) : Calls Try.prog 13 #[.float .f32 b] w fun e w' => ∃ r, e = .returned (.float .f32 r) ∧ Is .f32 r (fnar (fsqrt (fwide (cls .f32 b)))) ∧ ∃ n, w' = w.drewN n := by
  go_enter Try.func13, Try.ntmps13
  go_wp2_with (go_at_call 31; refine (l01Sqrt_any _ _).mono ?_; rintro e w' ⟨r, rfl, hr, n, rfl⟩)
  go_ret
  exact ⟨r, rfl, hr, _, rfl⟩
theorem sameFloat_is (a b : Nat) (X : Option Nat) (ha : Is .f64 a X) (hb : Is .f64 b X) (w : World) : Calls Try.prog 15 #[.float .f64 a, .float .f64 b] w fun e w' => e = .returned (.bool true) ∧ ∃ n, w' = w.drewN n :=
  sameFloat_yes a b X ha hb w
theorem FnExactRootNumber_walk (a0 : Nat) (w : World) (_w0 : (Lit.float .f32 a0).wf = true) :
    Calls Try.prog 4 #[.float .f32 a0] w fun e w' => e = .returned (.bool true) ∧ Below w.heap.size w w' := by
  go_enter Try.func4, Try.ntmps4
  go_wp2_with (first | (go_at_call 13; refine (sRoot_any _ _).mono ?_; rintro e w' ⟨r, rfl, hr, n, rfl⟩) | (go_at_call 14; refine (root_any _ _).mono ?_; rintro e w' ⟨r, rfl, hr, n, rfl⟩) | (refine wpList_fw rfl rfl Try.underlying22 Try.underlying26 rfl (by assumption) ?_; intro r n hr hrw) | (go_at_call 15; refine (sameFloat_is _ _ _ (by assumption) (by assumption) _).mono ?_; rintro e w' ⟨rfl, n, rfl⟩))
  go_ret
  exact ⟨rfl, below_drewN0 (Below.refl _ _) _⟩
end Go.Proofs.Ytlgamkbonpjchab
