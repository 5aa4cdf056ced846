/- Contracts: finite and subnormal numbers. -/
import Derived.Test.YthinjgiakaflpaaNum
namespace Go.Proofs.Ythinjgiakaflpaa
open Go.RowKit Flt

theorem l01Finite_any (b : Nat) (w : World) : Calls Try.prog 61 #[.float .f32 b] w fun e w' => e = .returned (.bool (fin32 (cls .f32 b))) ∧ ∃ n, w' = w.drewN n := by
  go_enter Try.func61, Try.ntmps61
  go_wp2_with (refine wpList_farith rfl rfl rfl rfl rfl ?_; intro r n hr hrw)
  have e : (FloatKind.f32.format.order r 0 == some .eq) = fin32 (cls .f32 b) := by rw [order_cls, hr.out, sub_self_fin]
  go_ret
  exact ⟨by rw [← e]; rfl, _, rfl⟩
theorem abs_any (b : Nat) (hb : Hid (b < 18446744073709551616)) (w : World) : Calls Try.prog 123 #[.float .f64 b] w fun e w' => e = .returned (.float .f64 (absW b)) ∧ w = w' := by
  go_enter Try.func123, Try.ntmps123
  go_wp2
  go_ret
  exact ⟨by rw [← Int.toNat_natCast (absW b), ← bits_abs b hb.out]; rfl, rfl⟩
theorem isInf_any (b : Nat) (hb : Hid (b < 18446744073709551616)) (w : World) : Calls Try.prog 119 #[.float .f64 b, .int .i64 0] w fun e w' => e = .returned (.bool (FloatKind.f64.format.order (absW b) max64 == some .gt)) ∧ w = w' := by
  go_enter Try.func119, Try.ntmps119
  go_wp2_with (go_at_call 123; refine (abs_any _ hb _).mono ?_; rintro e w' ⟨rfl, rfl⟩)
  go_ret
  exact ⟨rfl, rfl⟩
theorem isFinite64_any (b : Nat) (hb : Hid (b < 18446744073709551616)) (w : World) : Calls Try.prog 107 #[.float .f64 b] w fun e w' => e = .returned (.bool (finW b)) ∧ w = w' := by
  have H : Hid (finW b = (!(cls .f64 b).isNone && !(FloatKind.f64.format.order (absW b) max64 == some .gt))) := rfl
  cases hN : (cls .f64 b).isNone
  all_goals
    have H2 := H.out
    rw [hN] at H2
    have H3 : Hid _ := H2
    clear H2
    go_enter Try.func107, Try.ntmps107
    go_wp2_with (first | (go_at_call 118; refine (isNaN64_any _ _).mono ?_; rintro e w' ⟨rfl, rfl⟩) | (go_at_call 119; refine (isInf_any _ hb _).mono ?_; rintro e w' ⟨rfl, rfl⟩))
    go_ret
    exact ⟨by rw [H3.out]; rfl, rfl⟩
theorem isFinite_any (b : Nat) (w : World) : Calls Try.prog 63 #[.float .f32 b] w fun e w' => e = .returned (.bool (fin32 (cls .f32 b))) ∧ ∃ n, w' = w.drewN n := by
  go_enter Try.func63, Try.ntmps63
  go_wp2_with (first | (refine wpList_widen rfl rfl Try.underlying22 Try.underlying26 rfl ?_; intro r n hr hrw) | (go_at_call 107; refine (isFinite64_any _ (by assumption) _).mono ?_; rintro e w' ⟨rfl, rfl⟩))
  have e := finW_wide b r hr.out
  go_ret
  exact ⟨by rw [← e]; rfl, _, rfl⟩
end Go.Proofs.Ythinjgiakaflpaa
