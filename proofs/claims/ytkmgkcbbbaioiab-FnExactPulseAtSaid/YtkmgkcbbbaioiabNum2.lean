/- Contracts: finite and subnormal numbers. -/
import Derived.Test.YtkmgkcbbbaioiabNum
namespace Go.Proofs.Ytkmgkcbbbaioiab
open Go.RowKit Flt

theorem l01Finite_any (b : Nat) (w : World) : Calls Try.prog 66 #[.float .f32 b] w fun e w' => e = .returned (.bool (fin32 (cls .f32 b))) ∧ ∃ n, w' = w.drewN n := by
  go_enter Try.func66, Try.ntmps66
  go_wp2_with (refine wpList_farith rfl rfl rfl rfl rfl ?_; intro r n hr hrw)
  have e : (FloatKind.f32.format.order r 0 == some .eq) = fin32 (cls .f32 b) := by rw [order_cls, hr.out, sub_self_fin]
  go_ret
  exact ⟨by rw [← e]; rfl, _, rfl⟩
theorem abs_any (b : Nat) (hb : Hid (b < 18446744073709551616)) (w : World) : Calls Try.prog 107 #[.float .f64 b] w fun e w' => e = .returned (.float .f64 (absW b)) ∧ w = w' := by
  go_enter Try.func107, Try.ntmps107
  go_wp2
  go_ret
  exact ⟨by rw [← Int.toNat_natCast (absW b), ← bits_abs b hb.out]; rfl, rfl⟩
theorem isInf_any (b : Nat) (hb : Hid (b < 18446744073709551616)) (w : World) : Calls Try.prog 127 #[.float .f64 b, .int .i64 0] w fun e w' => e = .returned (.bool (FloatKind.f64.format.order (absW b) max64 == some .gt)) ∧ w = w' := by
  go_enter Try.func127, Try.ntmps127
  go_wp2_with (go_at_call 107; refine (abs_any _ hb _).mono ?_; rintro e w' ⟨rfl, rfl⟩)
  go_ret
  exact ⟨rfl, rfl⟩
theorem isFinite64_any (b : Nat) (hb : Hid (b < 18446744073709551616)) (w : World) : Calls Try.prog 105 #[.float .f64 b] w fun e w' => e = .returned (.bool (finW b)) ∧ w = w' := by
  have H : Hid (finW b = (!(cls .f64 b).isNone && !(FloatKind.f64.format.order (absW b) max64 == some .gt))) := rfl
  cases hN : (cls .f64 b).isNone
  all_goals
    have H2 := H.out
    rw [hN] at H2
    have H3 : Hid _ := H2
    clear H2
    go_enter Try.func105, Try.ntmps105
    go_wp2_with (first | (go_at_call 126; refine (isNaN64_any _ _).mono ?_; rintro e w' ⟨rfl, rfl⟩) | (go_at_call 127; refine (isInf_any _ hb _).mono ?_; rintro e w' ⟨rfl, rfl⟩))
    go_ret
    exact ⟨by rw [H3.out]; rfl, rfl⟩
theorem isFinite_any (b : Nat) (w : World) : Calls Try.prog 96 #[.float .f32 b] w fun e w' => e = .returned (.bool (fin32 (cls .f32 b))) ∧ ∃ n, w' = w.drewN n := by
  go_enter Try.func96, Try.ntmps96
  go_wp2_with (first | (refine wpList_widen rfl rfl Try.underlying33 Try.underlying37 rfl ?_; intro r n hr hrw) | (go_at_call 105; refine (isFinite64_any _ (by assumption) _).mono ?_; rintro e w' ⟨rfl, rfl⟩))
  have e := finW_wide b r hr.out
  go_ret
  exact ⟨by rw [← e]; rfl, _, rfl⟩
theorem copysign0_any (b : Nat) (hb : Hid (b < 18446744073709551616)) (w : World) : Calls Try.prog 138 #[.float .f64 0, .float .f64 b] w fun e w' => e = .returned (.float .f64 (signW b)) ∧ w = w' := by
  have e1 := bits_sign b hb.out
  have e2 := bits_or_zero (signW b) (signW_lt hb.out)
  have e3 : bits .andNot .u64 0 9223372036854775808 = 0 := by decide
  have E2 := (show Hid _ from e2)
  clear e2
  go_enter Try.func138, Try.ntmps138
  go_wp2
  go_ret
  exact ⟨by show Ending.returned (.float .f64 (bits .or .u64 0 ((signW b : Nat) : Int)).toNat) = _; rw [E2.out, Int.toNat_natCast], rfl⟩
end Go.Proofs.Ytkmgkcbbbaioiab
