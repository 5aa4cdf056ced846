/- Square roots. -/
import Derived.Test.YtpmjiabllmomjabNum
import Derived.Test.YtpmjiabllmomjabSqrt
namespace Go.Proofs.Ytpmjiabllmomjab
open Go.RowKit Flt

set_option maxRecDepth 100000 in
theorem sqrt_any (b : Nat) (X : Option Nat) (hX : Is .f64 b X) (w : World) : Calls Try.prog 144 #[.float .f64 b] w fun e w' => ∃ r, e = .returned (.float .f64 r) ∧ Is .f64 r (fsqrt X) ∧ Hid (r < 18446744073709551616) ∧ ∃ n, w' = w.drewN n := by
  go_enter Try.func144, Try.ntmps144
  go_wp2_with (refine wpList_fsqrt (f := 151) (fn := Try.f151) rfl rfl Try.func151 (by kernel_rfl) (by kernel_rfl) (by kernel_rfl) (by kernel_rfl) rfl hX ?_; intro r n hr hrw)
  go_ret
  exact ⟨r, rfl, hr, hrw, n, rfl⟩
set_option maxRecDepth 100000 in
theorem root_any (b : Nat) (w : World) : Calls Try.prog 128 #[.float .f32 b] w fun e w' => ∃ r, e = .returned (.float .f32 r) ∧ Is .f32 r (fnar (fsqrt (fwide (cls .f32 b)))) ∧ ∃ n, w' = w.drewN n := by
  have hf := (show Hid _ from fits_root (cls .f32 b) (cls_ok .f32 b))
  have h0 : Is .f32 b (cls .f32 b) := rfl
  go_enter Try.func128, Try.ntmps128
  go_wp2_with (first | (refine wpList_fw rfl rfl Try.underlying22 Try.underlying29 rfl (by assumption) ?_; intro r n hr hrw) | (go_at_call 144; refine (sqrt_any _ _ (by assumption) _).mono ?_; rintro e w' ⟨r, rfl, hr, hrw, n, rfl⟩) | (refine wpList_fn rfl rfl Try.underlying29 Try.underlying22 rfl (by assumption) hf.out ?_; intro r n hr hrw))
  go_ret
  exact ⟨r, rfl, hr, _, rfl⟩
set_option maxRecDepth 100000 in
theorem narrow_any (b : Nat) (X : Option Nat) (hX : Is .f64 b X) (hf : Hid (fits X)) (w : World) : Calls Try.prog 138 #[.float .f64 b] w fun e w' => ∃ r, e = .returned (.float .f32 r) ∧ Is .f32 r (fnar X) ∧ ∃ n, w' = w.drewN n := by
  go_enter Try.func138, Try.ntmps138
  go_wp2_with (refine wpList_fn rfl rfl Try.underlying29 Try.underlying22 rfl hX hf.out ?_; intro r n hr hrw)
  go_ret
  exact ⟨r, rfl, hr, _, rfl⟩
set_option maxRecDepth 100000 in
theorem l01Sqrt_any (b : Nat) (w : World) : Calls Try.prog 126 #[.float .f32 b] w fun e w' => ∃ r, e = .returned (.float .f32 r) ∧ Is .f32 r (fnar (fsqrt (fwide (cls .f32 b)))) ∧ ∃ n, w' = w.drewN n := by
  have hf := (show Hid _ from fits_root (cls .f32 b) (cls_ok .f32 b))
  have h0 : Is .f32 b (cls .f32 b) := rfl
  go_enter Try.func126, Try.ntmps126
  go_wp2_with (first | (refine wpList_fw rfl rfl Try.underlying22 Try.underlying29 rfl (by assumption) ?_; intro r n hr hrw) | (go_at_call 144; refine (sqrt_any _ _ (by assumption) _).mono ?_; rintro e w' ⟨r, rfl, hr, hrw, n, rfl⟩) | (go_at_call 138; refine (narrow_any _ _ (by assumption) hf _).mono ?_; rintro e w' ⟨r, rfl, hr, n, rfl⟩))
  go_ret
  exact ⟨r, rfl, hr, _, rfl⟩
theorem sameFloat_is (a b : Nat) (X : Option Nat) (ha : Is .f64 a X) (hb : Is .f64 b X) (w : World) : Calls Try.prog 17 #[.float .f64 a, .float .f64 b] w fun e w' => e = .returned (.bool true) ∧ ∃ n, w' = w.drewN n :=
  sameFloat_yes a b X ha hb w
end Go.Proofs.Ytpmjiabllmomjab
