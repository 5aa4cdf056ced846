/- The angle of a point: the walks. -/
import Derived.Test.YtlgamkbonpjchabRoot
import Derived.Test.YtlgamkbonpjchabNum2
import Derived.Test.YtlgamkbonpjchabAngC
namespace Go.Proofs.Ytlgamkbonpjchab
open Go.RowKit Flt

set_option maxRecDepth 100000 in
set_option maxHeartbeats 2000000 in
theorem angleWide_fttf (a b : Nat) (Y X : Option Nat) (hY : Is .f64 a Y) (hX : Is .f64 b X) (ha : Hid (a < 18446744073709551616)) (hb : Hid (b < 18446744073709551616)) (hN1 : fcmp .neq (ford .f64 (fop .sub .f64 Y Y) (some 0)) = false) (hN2 : fcmp .neq (ford .f64 (fop .sub .f64 X X) (some 0)) = false) (hZ1 : fcmp .eql (ford .f64 X (some 0)) = false)
    (hO : fcmp .gtr (ford .f64 (fabs Y) (fabs X)) = false) (hX0 : fcmp .lss (ford .f64 X (some 0)) = true) (hY0 : fcmp .lss (ford .f64 Y (some 0)) = true) (w : World) :
    Calls Try.prog 64 #[.float .f64 a, .float .f64 b] w fun e w' => ∃ r, e = .returned (.float .f64 r) ∧ Is .f64 r (angleW Y X) ∧ ∃ m, w' = w.drewN m := by
  have H : Hid (angleW Y X = fneg (fop .sub .f64 (some 4602678819172646912) (eighthC (fop .quo .f64 (fabs Y) (fabs X))))) := by
    show angleW Y X = _
    simp only [angleW, tangentC, turnC, sideC, downC, hO, hX0, hY0, if_true, Bool.false_eq_true, if_false]
  have hAY := hY.abs
  have hAX := hX.abs
  go_enter Try.func64, Try.ntmps64
  go_wp2_with (first | (refine wpList_fa rfl rfl rfl rfl rfl (by first | assumption | exact is_const (by decide)) (by first | assumption | exact is_const (by decide) | exact is_int _) ?_; intro r n hr hrw) | (refine wpList_fcmp rfl rfl rfl rfl rfl (by first | assumption | exact is_const (by decide)) (by first | assumption | exact is_const (by decide)) ?_; try simp only [hN1, hN2, hZ1, hO]) | (go_at_call 32; refine (sqrt_any _ _ (by assumption) _).mono ?_; rintro e w' ⟨r, rfl, hr, hrw, n, rfl⟩) | (go_at_call 30; refine (abs_any _ (by assumption) _).mono ?_; rintro e w' ⟨rfl, rfl⟩))
  refine wp_loop_rounds 4 ?_
  repeat (rw [rounds_succ]; go_wp2_with (first | (refine wpList_fa rfl rfl rfl rfl rfl (by first | assumption | exact is_const (by decide)) (by first | assumption | exact is_const (by decide) | exact is_int _) ?_; intro r n hr hrw) | (refine wpList_fcmp rfl rfl rfl rfl rfl (by first | assumption | exact is_const (by decide)) (by first | assumption | exact is_const (by decide)) ?_) | (go_at_call 32; refine (sqrt_any _ _ (by assumption) _).mono ?_; rintro e w' ⟨r, rfl, hr, hrw, n, rfl⟩)))
  refine wp_loop_rounds 9 ?_
  repeat (rw [rounds_succ]; go_wp2_with (first | (refine wpList_fa rfl rfl rfl rfl rfl (by first | assumption | exact is_const (by decide)) (by first | assumption | exact is_const (by decide) | exact is_int _) ?_; intro r n hr hrw) | (refine wpList_fcmp rfl rfl rfl rfl rfl (by first | assumption | exact is_const (by decide)) (by first | assumption | exact is_const (by decide)) ?_; try simp only [hX0, hY0]) | (go_at_call 32; refine (sqrt_any _ _ (by assumption) _).mono ?_; rintro e w' ⟨r, rfl, hr, hrw, n, rfl⟩)))
  go_ret
  exact ⟨_, rfl, by rw [H.out]; exact Is.neg (by assumption), _, rfl⟩
set_option maxRecDepth 100000 in
set_option maxHeartbeats 2000000 in
theorem angleWide_ftff (a b : Nat) (Y X : Option Nat) (hY : Is .f64 a Y) (hX : Is .f64 b X) (ha : Hid (a < 18446744073709551616)) (hb : Hid (b < 18446744073709551616)) (hN1 : fcmp .neq (ford .f64 (fop .sub .f64 Y Y) (some 0)) = false) (hN2 : fcmp .neq (ford .f64 (fop .sub .f64 X X) (some 0)) = false) (hZ1 : fcmp .eql (ford .f64 X (some 0)) = false)
    (hO : fcmp .gtr (ford .f64 (fabs Y) (fabs X)) = false) (hX0 : fcmp .lss (ford .f64 X (some 0)) = true) (hY0 : fcmp .lss (ford .f64 Y (some 0)) = false) (w : World) :
    Calls Try.prog 64 #[.float .f64 a, .float .f64 b] w fun e w' => ∃ r, e = .returned (.float .f64 r) ∧ Is .f64 r (angleW Y X) ∧ ∃ m, w' = w.drewN m := by
  have H : Hid (angleW Y X = (fop .sub .f64 (some 4602678819172646912) (eighthC (fop .quo .f64 (fabs Y) (fabs X))))) := by
    show angleW Y X = _
    simp only [angleW, tangentC, turnC, sideC, downC, hO, hX0, hY0, if_true, Bool.false_eq_true, if_false]
  have hAY := hY.abs
  have hAX := hX.abs
  go_enter Try.func64, Try.ntmps64
  go_wp2_with (first | (refine wpList_fa rfl rfl rfl rfl rfl (by first | assumption | exact is_const (by decide)) (by first | assumption | exact is_const (by decide) | exact is_int _) ?_; intro r n hr hrw) | (refine wpList_fcmp rfl rfl rfl rfl rfl (by first | assumption | exact is_const (by decide)) (by first | assumption | exact is_const (by decide)) ?_; try simp only [hN1, hN2, hZ1, hO]) | (go_at_call 32; refine (sqrt_any _ _ (by assumption) _).mono ?_; rintro e w' ⟨r, rfl, hr, hrw, n, rfl⟩) | (go_at_call 30; refine (abs_any _ (by assumption) _).mono ?_; rintro e w' ⟨rfl, rfl⟩))
  refine wp_loop_rounds 4 ?_
  repeat (rw [rounds_succ]; go_wp2_with (first | (refine wpList_fa rfl rfl rfl rfl rfl (by first | assumption | exact is_const (by decide)) (by first | assumption | exact is_const (by decide) | exact is_int _) ?_; intro r n hr hrw) | (refine wpList_fcmp rfl rfl rfl rfl rfl (by first | assumption | exact is_const (by decide)) (by first | assumption | exact is_const (by decide)) ?_) | (go_at_call 32; refine (sqrt_any _ _ (by assumption) _).mono ?_; rintro e w' ⟨r, rfl, hr, hrw, n, rfl⟩)))
  refine wp_loop_rounds 9 ?_
  repeat (rw [rounds_succ]; go_wp2_with (first | (refine wpList_fa rfl rfl rfl rfl rfl (by first | assumption | exact is_const (by decide)) (by first | assumption | exact is_const (by decide) | exact is_int _) ?_; intro r n hr hrw) | (refine wpList_fcmp rfl rfl rfl rfl rfl (by first | assumption | exact is_const (by decide)) (by first | assumption | exact is_const (by decide)) ?_; try simp only [hX0, hY0]) | (go_at_call 32; refine (sqrt_any _ _ (by assumption) _).mono ?_; rintro e w' ⟨r, rfl, hr, hrw, n, rfl⟩)))
  go_ret
  exact ⟨_, rfl, by rw [H.out]; assumption, _, rfl⟩
set_option maxRecDepth 100000 in
set_option maxHeartbeats 2000000 in
theorem angleWide_fftf (a b : Nat) (Y X : Option Nat) (hY : Is .f64 a Y) (hX : Is .f64 b X) (ha : Hid (a < 18446744073709551616)) (hb : Hid (b < 18446744073709551616)) (hN1 : fcmp .neq (ford .f64 (fop .sub .f64 Y Y) (some 0)) = false) (hN2 : fcmp .neq (ford .f64 (fop .sub .f64 X X) (some 0)) = false) (hZ1 : fcmp .eql (ford .f64 X (some 0)) = false)
    (hO : fcmp .gtr (ford .f64 (fabs Y) (fabs X)) = false) (hX0 : fcmp .lss (ford .f64 X (some 0)) = false) (hY0 : fcmp .lss (ford .f64 Y (some 0)) = true) (w : World) :
    Calls Try.prog 64 #[.float .f64 a, .float .f64 b] w fun e w' => ∃ r, e = .returned (.float .f64 r) ∧ Is .f64 r (angleW Y X) ∧ ∃ m, w' = w.drewN m := by
  have H : Hid (angleW Y X = fneg (eighthC (fop .quo .f64 (fabs Y) (fabs X)))) := by
    show angleW Y X = _
    simp only [angleW, tangentC, turnC, sideC, downC, hO, hX0, hY0, if_true, Bool.false_eq_true, if_false]
  have hAY := hY.abs
  have hAX := hX.abs
  go_enter Try.func64, Try.ntmps64
  go_wp2_with (first | (refine wpList_fa rfl rfl rfl rfl rfl (by first | assumption | exact is_const (by decide)) (by first | assumption | exact is_const (by decide) | exact is_int _) ?_; intro r n hr hrw) | (refine wpList_fcmp rfl rfl rfl rfl rfl (by first | assumption | exact is_const (by decide)) (by first | assumption | exact is_const (by decide)) ?_; try simp only [hN1, hN2, hZ1, hO]) | (go_at_call 32; refine (sqrt_any _ _ (by assumption) _).mono ?_; rintro e w' ⟨r, rfl, hr, hrw, n, rfl⟩) | (go_at_call 30; refine (abs_any _ (by assumption) _).mono ?_; rintro e w' ⟨rfl, rfl⟩))
  refine wp_loop_rounds 4 ?_
  repeat (rw [rounds_succ]; go_wp2_with (first | (refine wpList_fa rfl rfl rfl rfl rfl (by first | assumption | exact is_const (by decide)) (by first | assumption | exact is_const (by decide) | exact is_int _) ?_; intro r n hr hrw) | (refine wpList_fcmp rfl rfl rfl rfl rfl (by first | assumption | exact is_const (by decide)) (by first | assumption | exact is_const (by decide)) ?_) | (go_at_call 32; refine (sqrt_any _ _ (by assumption) _).mono ?_; rintro e w' ⟨r, rfl, hr, hrw, n, rfl⟩)))
  refine wp_loop_rounds 9 ?_
  repeat (rw [rounds_succ]; go_wp2_with (first | (refine wpList_fa rfl rfl rfl rfl rfl (by first | assumption | exact is_const (by decide)) (by first | assumption | exact is_const (by decide) | exact is_int _) ?_; intro r n hr hrw) | (refine wpList_fcmp rfl rfl rfl rfl rfl (by first | assumption | exact is_const (by decide)) (by first | assumption | exact is_const (by decide)) ?_; try simp only [hX0, hY0]) | (go_at_call 32; refine (sqrt_any _ _ (by assumption) _).mono ?_; rintro e w' ⟨r, rfl, hr, hrw, n, rfl⟩)))
  go_ret
  exact ⟨_, rfl, by rw [H.out]; exact Is.neg (by assumption), _, rfl⟩
end Go.Proofs.Ytlgamkbonpjchab
