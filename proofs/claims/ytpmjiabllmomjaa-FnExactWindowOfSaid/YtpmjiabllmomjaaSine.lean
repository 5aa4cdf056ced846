/- The sine of turns: the walks. -/
import Derived.Test.YtpmjiabllmomjaaRoot
import Derived.Test.YtpmjiabllmomjaaSineC
import Derived.Test.YtpmjiabllmomjaaNum2
namespace Go.Proofs.Ytpmjiabllmomjaa
open Go.RowKit Flt

theorem partOfTurn_any (b : Nat) (X : Option Nat) (n : Int) (hX : Is .f64 b X) (hc : ∀ w, (convert 41 2 (.float .f64 b)).run Try.prog w = .ok (.int .i64 n) w) (w : World) :
    Calls Try.prog 98 #[.float .f64 b] w fun e w' => ∃ r, e = .returned (.float .f64 r) ∧ Is .f64 r (fracC X n) ∧ Hid (r < 18446744073709551616) ∧ ∃ m, w' = w.drewN m := by
  cases hT : fcmp .lss (ford .f64 (fop .sub .f64 X (some (floatOfInt .f64 n))) (some 0)) with
  | true =>
    have H : Hid (fracC X n = fop .add .f64 (fop .sub .f64 X (some (floatOfInt .f64 n))) (some 4607182418800017408)) := by show fracC X n = _; simp only [fracC, hT, if_true]
    go_enter Try.func98, Try.ntmps98
    go_wp2_with (first | (refine wpList_fa rfl rfl rfl rfl rfl (by first | assumption | exact is_const (by decide)) (by first | assumption | exact is_const (by decide) | exact is_int _) ?_; intro r n hr hrw) | (refine wpList_fcmp rfl rfl rfl rfl rfl (by first | assumption | exact is_const (by decide)) (by first | assumption | exact is_const (by decide)) ?_; try simp only [hT]))
    go_ret
    exact ⟨_, rfl, by rw [H.out]; assumption, by assumption, _, rfl⟩
  | false =>
    have H : Hid (fracC X n = fop .sub .f64 X (some (floatOfInt .f64 n))) := by show fracC X n = _; simp only [fracC, hT, Bool.false_eq_true, if_false]
    go_enter Try.func98, Try.ntmps98
    go_wp2_with (first | (refine wpList_fa rfl rfl rfl rfl rfl (by first | assumption | exact is_const (by decide)) (by first | assumption | exact is_const (by decide) | exact is_int _) ?_; intro r n hr hrw) | (refine wpList_fcmp rfl rfl rfl rfl rfl (by first | assumption | exact is_const (by decide)) (by first | assumption | exact is_const (by decide)) ?_; try simp only [hT]))
    go_ret
    exact ⟨_, rfl, by rw [H.out]; assumption, by assumption, _, rfl⟩
set_option maxRecDepth 100000 in
set_option maxHeartbeats 1000000 in
theorem wideSine_tt (b : Nat) (X : Option Nat) (n : Int) (hX : Is .f64 b X) (hc : ∀ w, (convert 41 2 (.float .f64 b)).run Try.prog w = .ok (.int .i64 n) w)
    (hB : fcmp .geq (ford .f64 (fracC X n) (some 4602678819172646912)) = true) (hC : fcmp .gtr (ford .f64 (fop .sub .f64 (fracC X n) (some 4602678819172646912)) (some 4598175219545276416)) = true) (w : World) :
    Calls Try.prog 90 #[.float .f64 b] w fun e w' => ∃ r, e = .returned (.float .f64 r) ∧ Is .f64 r (sineC (fracC X n)) ∧ Hid (r < 18446744073709551616 ∨ True) ∧ ∃ m, w' = w.drewN m := by
  have H : Hid (sineC (fracC X n) = fneg (armC (fop .sub .f64 (some 4602678819172646912) (fop .sub .f64 (fracC X n) (some 4602678819172646912))))) := by
    show sineC (fracC X n) = _
    simp only [sineC, foldC, hB, hC, if_true]
  go_enter Try.func90, Try.ntmps90
  go_wp2_with (first | (refine wpList_fa rfl rfl rfl rfl rfl (by first | assumption | exact is_const (by decide)) (by first | assumption | exact is_const (by decide) | exact is_int _) ?_; intro r n hr hrw) | (refine wpList_fcmp rfl rfl rfl rfl rfl (by first | assumption | exact is_const (by decide)) (by first | assumption | exact is_const (by decide)) ?_; try simp only [hB, hC]) | (go_at_call 98; refine (partOfTurn_any _ _ n hX hc _).mono ?_; rintro e w' ⟨r, rfl, hr, hrw, m, rfl⟩))
  refine wp_loop_rounds 9 ?_
  repeat (rw [rounds_succ]; go_wp2_with (first | (refine wpList_fa rfl rfl rfl rfl rfl (by first | assumption | exact is_const (by decide)) (by first | assumption | exact is_const (by decide) | exact is_int _) ?_; intro r n hr hrw) | (refine wpList_fcmp rfl rfl rfl rfl rfl (by first | assumption | exact is_const (by decide)) (by first | assumption | exact is_const (by decide)) ?_; try simp only [hB, hC]) | (go_at_call 98; refine (partOfTurn_any _ _ n hX hc _).mono ?_; rintro e w' ⟨r, rfl, hr, hrw, m, rfl⟩)))
  go_ret
  exact ⟨_, rfl, by rw [H.out]; exact Is.neg (by assumption), .inr trivial, _, rfl⟩
set_option maxRecDepth 100000 in
set_option maxHeartbeats 1000000 in
theorem wideSine_tf (b : Nat) (X : Option Nat) (n : Int) (hX : Is .f64 b X) (hc : ∀ w, (convert 41 2 (.float .f64 b)).run Try.prog w = .ok (.int .i64 n) w)
    (hB : fcmp .geq (ford .f64 (fracC X n) (some 4602678819172646912)) = true) (hC : fcmp .gtr (ford .f64 (fop .sub .f64 (fracC X n) (some 4602678819172646912)) (some 4598175219545276416)) = false) (w : World) :
    Calls Try.prog 90 #[.float .f64 b] w fun e w' => ∃ r, e = .returned (.float .f64 r) ∧ Is .f64 r (sineC (fracC X n)) ∧ Hid (r < 18446744073709551616 ∨ True) ∧ ∃ m, w' = w.drewN m := by
  have H : Hid (sineC (fracC X n) = fneg (armC (fop .sub .f64 (fracC X n) (some 4602678819172646912)))) := by
    show sineC (fracC X n) = _
    simp only [sineC, foldC, hB, hC, if_true, Bool.false_eq_true, if_false]
  go_enter Try.func90, Try.ntmps90
  go_wp2_with (first | (refine wpList_fa rfl rfl rfl rfl rfl (by first | assumption | exact is_const (by decide)) (by first | assumption | exact is_const (by decide) | exact is_int _) ?_; intro r n hr hrw) | (refine wpList_fcmp rfl rfl rfl rfl rfl (by first | assumption | exact is_const (by decide)) (by first | assumption | exact is_const (by decide)) ?_; try simp only [hB, hC]) | (go_at_call 98; refine (partOfTurn_any _ _ n hX hc _).mono ?_; rintro e w' ⟨r, rfl, hr, hrw, m, rfl⟩))
  refine wp_loop_rounds 9 ?_
  repeat (rw [rounds_succ]; go_wp2_with (first | (refine wpList_fa rfl rfl rfl rfl rfl (by first | assumption | exact is_const (by decide)) (by first | assumption | exact is_const (by decide) | exact is_int _) ?_; intro r n hr hrw) | (refine wpList_fcmp rfl rfl rfl rfl rfl (by first | assumption | exact is_const (by decide)) (by first | assumption | exact is_const (by decide)) ?_; try simp only [hB, hC]) | (go_at_call 98; refine (partOfTurn_any _ _ n hX hc _).mono ?_; rintro e w' ⟨r, rfl, hr, hrw, m, rfl⟩)))
  go_ret
  exact ⟨_, rfl, by rw [H.out]; exact Is.neg (by assumption), .inr trivial, _, rfl⟩
set_option maxRecDepth 100000 in
set_option maxHeartbeats 1000000 in
theorem wideSine_ft (b : Nat) (X : Option Nat) (n : Int) (hX : Is .f64 b X) (hc : ∀ w, (convert 41 2 (.float .f64 b)).run Try.prog w = .ok (.int .i64 n) w)
    (hB : fcmp .geq (ford .f64 (fracC X n) (some 4602678819172646912)) = false) (hC : fcmp .gtr (ford .f64 (fracC X n) (some 4598175219545276416)) = true) (w : World) :
    Calls Try.prog 90 #[.float .f64 b] w fun e w' => ∃ r, e = .returned (.float .f64 r) ∧ Is .f64 r (sineC (fracC X n)) ∧ Hid (r < 18446744073709551616 ∨ True) ∧ ∃ m, w' = w.drewN m := by
  have H : Hid (sineC (fracC X n) = (armC (fop .sub .f64 (some 4602678819172646912) (fracC X n)))) := by
    show sineC (fracC X n) = _
    simp only [sineC, foldC, hB, hC, if_true, Bool.false_eq_true, if_false]
  go_enter Try.func90, Try.ntmps90
  go_wp2_with (first | (refine wpList_fa rfl rfl rfl rfl rfl (by first | assumption | exact is_const (by decide)) (by first | assumption | exact is_const (by decide) | exact is_int _) ?_; intro r n hr hrw) | (refine wpList_fcmp rfl rfl rfl rfl rfl (by first | assumption | exact is_const (by decide)) (by first | assumption | exact is_const (by decide)) ?_; try simp only [hB, hC]) | (go_at_call 98; refine (partOfTurn_any _ _ n hX hc _).mono ?_; rintro e w' ⟨r, rfl, hr, hrw, m, rfl⟩))
  refine wp_loop_rounds 9 ?_
  repeat (rw [rounds_succ]; go_wp2_with (first | (refine wpList_fa rfl rfl rfl rfl rfl (by first | assumption | exact is_const (by decide)) (by first | assumption | exact is_const (by decide) | exact is_int _) ?_; intro r n hr hrw) | (refine wpList_fcmp rfl rfl rfl rfl rfl (by first | assumption | exact is_const (by decide)) (by first | assumption | exact is_const (by decide)) ?_; try simp only [hB, hC]) | (go_at_call 98; refine (partOfTurn_any _ _ n hX hc _).mono ?_; rintro e w' ⟨r, rfl, hr, hrw, m, rfl⟩)))
  go_ret
  exact ⟨_, rfl, by rw [H.out]; assumption, .inr trivial, _, rfl⟩
set_option maxRecDepth 100000 in
set_option maxHeartbeats 1000000 in
theorem wideSine_ff (b : Nat) (X : Option Nat) (n : Int) (hX : Is .f64 b X) (hc : ∀ w, (convert 41 2 (.float .f64 b)).run Try.prog w = .ok (.int .i64 n) w)
    (hB : fcmp .geq (ford .f64 (fracC X n) (some 4602678819172646912)) = false) (hC : fcmp .gtr (ford .f64 (fracC X n) (some 4598175219545276416)) = false) (w : World) :
    Calls Try.prog 90 #[.float .f64 b] w fun e w' => ∃ r, e = .returned (.float .f64 r) ∧ Is .f64 r (sineC (fracC X n)) ∧ Hid (r < 18446744073709551616 ∨ True) ∧ ∃ m, w' = w.drewN m := by
  have H : Hid (sineC (fracC X n) = (armC ((fracC X n)))) := by
    show sineC (fracC X n) = _
    simp only [sineC, foldC, hB, hC, Bool.false_eq_true, if_false]
  go_enter Try.func90, Try.ntmps90
  go_wp2_with (first | (refine wpList_fa rfl rfl rfl rfl rfl (by first | assumption | exact is_const (by decide)) (by first | assumption | exact is_const (by decide) | exact is_int _) ?_; intro r n hr hrw) | (refine wpList_fcmp rfl rfl rfl rfl rfl (by first | assumption | exact is_const (by decide)) (by first | assumption | exact is_const (by decide)) ?_; try simp only [hB, hC]) | (go_at_call 98; refine (partOfTurn_any _ _ n hX hc _).mono ?_; rintro e w' ⟨r, rfl, hr, hrw, m, rfl⟩))
  refine wp_loop_rounds 9 ?_
  repeat (rw [rounds_succ]; go_wp2_with (first | (refine wpList_fa rfl rfl rfl rfl rfl (by first | assumption | exact is_const (by decide)) (by first | assumption | exact is_const (by decide) | exact is_int _) ?_; intro r n hr hrw) | (refine wpList_fcmp rfl rfl rfl rfl rfl (by first | assumption | exact is_const (by decide)) (by first | assumption | exact is_const (by decide)) ?_; try simp only [hB, hC]) | (go_at_call 98; refine (partOfTurn_any _ _ n hX hc _).mono ?_; rintro e w' ⟨r, rfl, hr, hrw, m, rfl⟩)))
  go_ret
  exact ⟨_, rfl, by rw [H.out]; assumption, .inr trivial, _, rfl⟩
theorem wideSine_any (b : Nat) (X : Option Nat) (n : Int) (hX : Is .f64 b X) (hc : ∀ w, (convert 41 2 (.float .f64 b)).run Try.prog w = .ok (.int .i64 n) w) (w : World) :
    Calls Try.prog 90 #[.float .f64 b] w fun e w' => ∃ r, e = .returned (.float .f64 r) ∧ Is .f64 r (sineC (fracC X n)) ∧ Hid (r < 18446744073709551616 ∨ True) ∧ ∃ m, w' = w.drewN m := by
  cases hB : fcmp .geq (ford .f64 (fracC X n) (some 4602678819172646912)) with
  | true =>
    cases hC : fcmp .gtr (ford .f64 (fop .sub .f64 (fracC X n) (some 4602678819172646912)) (some 4598175219545276416)) with
    | true => exact wideSine_tt b X n hX hc hB hC w
    | false => exact wideSine_tf b X n hX hc hB hC w
  | false =>
    cases hC : fcmp .gtr (ford .f64 (fracC X n) (some 4598175219545276416)) with
    | true => exact wideSine_ft b X n hX hc hB hC w
    | false => exact wideSine_ff b X n hX hc hB hC w
end Go.Proofs.Ytpmjiabllmomjaa
