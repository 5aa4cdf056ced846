/- Contracts: finite and subnormal numbers. -/
import Derived.Test.YthinjgiakaflpabNum
namespace Go.Proofs.Ythinjgiakaflpab
open Go.RowKit Flt

theorem l01Finite_any (b : Nat) (w : World) : Calls Try.prog 101 #[.float .f32 b] w fun e w' => e = .returned (.bool (fin32 (cls .f32 b))) ∧ ∃ n, w' = w.drewN n := by
  go_enter Try.func101, Try.ntmps101
  go_wp2_with (refine wpList_farith rfl rfl rfl rfl rfl ?_; intro r n hr hrw)
  have e : (FloatKind.f32.format.order r 0 == some .eq) = fin32 (cls .f32 b) := by rw [order_cls, hr.out, sub_self_fin]
  go_ret
  exact ⟨by rw [← e]; rfl, _, rfl⟩
theorem abs_any (b : Nat) (hb : Hid (b < 18446744073709551616)) (w : World) : Calls Try.prog 138 #[.float .f64 b] w fun e w' => e = .returned (.float .f64 (absW b)) ∧ w = w' := by
  go_enter Try.func138, Try.ntmps138
  go_wp2
  go_ret
  exact ⟨by rw [← Int.toNat_natCast (absW b), ← bits_abs b hb.out]; rfl, rfl⟩
theorem isInf_any (b : Nat) (hb : Hid (b < 18446744073709551616)) (w : World) : Calls Try.prog 169 #[.float .f64 b, .int .i64 0] w fun e w' => e = .returned (.bool (FloatKind.f64.format.order (absW b) max64 == some .gt)) ∧ w = w' := by
  go_enter Try.func169, Try.ntmps169
  go_wp2_with (go_at_call 138; refine (abs_any _ hb _).mono ?_; rintro e w' ⟨rfl, rfl⟩)
  go_ret
  exact ⟨rfl, rfl⟩
theorem isFinite64_any (b : Nat) (hb : Hid (b < 18446744073709551616)) (w : World) : Calls Try.prog 145 #[.float .f64 b] w fun e w' => e = .returned (.bool (finW b)) ∧ w = w' := by
  have H : Hid (finW b = (!(cls .f64 b).isNone && !(FloatKind.f64.format.order (absW b) max64 == some .gt))) := rfl
  cases hN : (cls .f64 b).isNone
  all_goals
    have H2 := H.out
    rw [hN] at H2
    have H3 : Hid _ := H2
    clear H2
    go_enter Try.func145, Try.ntmps145
    go_wp2_with (first | (go_at_call 168; refine (isNaN64_any _ _).mono ?_; rintro e w' ⟨rfl, rfl⟩) | (go_at_call 169; refine (isInf_any _ hb _).mono ?_; rintro e w' ⟨rfl, rfl⟩))
    go_ret
    exact ⟨by rw [H3.out]; rfl, rfl⟩
theorem isFinite_any (b : Nat) (w : World) : Calls Try.prog 104 #[.float .f32 b] w fun e w' => e = .returned (.bool (fin32 (cls .f32 b))) ∧ ∃ n, w' = w.drewN n := by
  go_enter Try.func104, Try.ntmps104
  go_wp2_with (first | (refine wpList_widen rfl rfl Try.underlying22 Try.underlying107 rfl ?_; intro r n hr hrw) | (go_at_call 145; refine (isFinite64_any _ (by assumption) _).mono ?_; rintro e w' ⟨rfl, rfl⟩))
  have e := finW_wide b r hr.out
  go_ret
  exact ⟨by rw [← e]; rfl, _, rfl⟩
end Go.Proofs.Ythinjgiakaflpab
