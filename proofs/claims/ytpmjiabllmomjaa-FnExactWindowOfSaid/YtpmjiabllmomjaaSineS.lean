/- The sine of turns as the specification tells it: the walks. -/
import Derived.Test.YtpmjiabllmomjaaSine
import Derived.Test.YtpmjiabllmomjaaSineD
namespace Go.Proofs.Ytpmjiabllmomjaa
open Go.RowKit Flt

set_option maxRecDepth 100000 in
set_option maxHeartbeats 1000000 in
theorem l01SineWide_ttt (b : Nat) (X : Option Nat) (n : Int) (hX : Is .f64 b X) (hc : ∀ w, (convert 41 2 (.float .f64 b)).run Try.prog w = .ok (.int .i64 n) w)
    (hN : fcmp .neq (ford .f64 (fop .sub .f64 X X) (some 0)) = false) (hG : fcmp .geq (ford .f64 X (some 4841369599423283200)) = false) (hL : fcmp .leq (ford .f64 X (some 14064741636278059008)) = false)
    (hT : fcmp .lss (ford .f64 (fop .sub .f64 X (some (floatOfInt .f64 n))) (some 0)) = true) (hB : fcmp .geq (ford .f64 (fop .add .f64 (fop .sub .f64 X (some (floatOfInt .f64 n))) (some 4607182418800017408)) (some 4602678819172646912)) = true) (hC : fcmp .gtr (ford .f64 (fop .sub .f64 (fop .add .f64 (fop .sub .f64 X (some (floatOfInt .f64 n))) (some 4607182418800017408)) (some 4602678819172646912)) (some 4598175219545276416)) = true) (w : World) :
    Calls Try.prog 87 #[.float .f64 b] w fun e w' => ∃ r, e = .returned (.float .f64 r) ∧ Is .f64 r (sineC (fracC X n)) ∧ ∃ m, w' = w.drewN m := by
  have H : Hid (sineC (fracC X n) = fneg (armC (fop .sub .f64 (some 4602678819172646912) (fop .sub .f64 (fop .add .f64 (fop .sub .f64 X (some (floatOfInt .f64 n))) (some 4607182418800017408)) (some 4602678819172646912))))) := by
    show sineC (fracC X n) = _
    simp only [sineC, fracC, foldC, hT, hB, hC, if_true]
  go_enter Try.func87, Try.ntmps87
  go_wp2_with (first | (refine wpList_fa rfl rfl rfl rfl rfl (by first | assumption | exact is_const (by decide)) (by first | assumption | exact is_const (by decide) | exact is_int _) ?_; intro r n hr hrw) | (refine wpList_fcmp rfl rfl rfl rfl rfl (by first | assumption | exact is_const (by decide)) (by first | assumption | exact is_const (by decide)) ?_; try simp only [hN, hG, hL, hT, hB, hC]))
  refine wp_loop_rounds 9 ?_
  repeat (rw [rounds_succ]; go_wp2_with (first | (refine wpList_fa rfl rfl rfl rfl rfl (by first | assumption | exact is_const (by decide)) (by first | assumption | exact is_const (by decide) | exact is_int _) ?_; intro r n hr hrw) | (refine wpList_fcmp rfl rfl rfl rfl rfl (by first | assumption | exact is_const (by decide)) (by first | assumption | exact is_const (by decide)) ?_; try simp only [hN, hG, hL, hT, hB, hC])))
  go_ret
  exact ⟨_, rfl, by rw [H.out]; exact Is.neg (by assumption), _, rfl⟩
set_option maxRecDepth 100000 in
set_option maxHeartbeats 1000000 in
theorem l01SineWide_ttf (b : Nat) (X : Option Nat) (n : Int) (hX : Is .f64 b X) (hc : ∀ w, (convert 41 2 (.float .f64 b)).run Try.prog w = .ok (.int .i64 n) w)
    (hN : fcmp .neq (ford .f64 (fop .sub .f64 X X) (some 0)) = false) (hG : fcmp .geq (ford .f64 X (some 4841369599423283200)) = false) (hL : fcmp .leq (ford .f64 X (some 14064741636278059008)) = false)
    (hT : fcmp .lss (ford .f64 (fop .sub .f64 X (some (floatOfInt .f64 n))) (some 0)) = true) (hB : fcmp .geq (ford .f64 (fop .add .f64 (fop .sub .f64 X (some (floatOfInt .f64 n))) (some 4607182418800017408)) (some 4602678819172646912)) = true) (hC : fcmp .gtr (ford .f64 (fop .sub .f64 (fop .add .f64 (fop .sub .f64 X (some (floatOfInt .f64 n))) (some 4607182418800017408)) (some 4602678819172646912)) (some 4598175219545276416)) = false) (w : World) :
    Calls Try.prog 87 #[.float .f64 b] w fun e w' => ∃ r, e = .returned (.float .f64 r) ∧ Is .f64 r (sineC (fracC X n)) ∧ ∃ m, w' = w.drewN m := by
  have H : Hid (sineC (fracC X n) = fneg (armC (fop .sub .f64 (fop .add .f64 (fop .sub .f64 X (some (floatOfInt .f64 n))) (some 4607182418800017408)) (some 4602678819172646912)))) := by
    show sineC (fracC X n) = _
    simp only [sineC, fracC, foldC, hT, hB, hC, if_true, Bool.false_eq_true, if_false]
  go_enter Try.func87, Try.ntmps87
  go_wp2_with (first | (refine wpList_fa rfl rfl rfl rfl rfl (by first | assumption | exact is_const (by decide)) (by first | assumption | exact is_const (by decide) | exact is_int _) ?_; intro r n hr hrw) | (refine wpList_fcmp rfl rfl rfl rfl rfl (by first | assumption | exact is_const (by decide)) (by first | assumption | exact is_const (by decide)) ?_; try simp only [hN, hG, hL, hT, hB, hC]))
  refine wp_loop_rounds 9 ?_
  repeat (rw [rounds_succ]; go_wp2_with (first | (refine wpList_fa rfl rfl rfl rfl rfl (by first | assumption | exact is_const (by decide)) (by first | assumption | exact is_const (by decide) | exact is_int _) ?_; intro r n hr hrw) | (refine wpList_fcmp rfl rfl rfl rfl rfl (by first | assumption | exact is_const (by decide)) (by first | assumption | exact is_const (by decide)) ?_; try simp only [hN, hG, hL, hT, hB, hC])))
  go_ret
  exact ⟨_, rfl, by rw [H.out]; exact Is.neg (by assumption), _, rfl⟩
set_option maxRecDepth 100000 in
set_option maxHeartbeats 1000000 in
theorem l01SineWide_tft (b : Nat) (X : Option Nat) (n : Int) (hX : Is .f64 b X) (hc : ∀ w, (convert 41 2 (.float .f64 b)).run Try.prog w = .ok (.int .i64 n) w)
    (hN : fcmp .neq (ford .f64 (fop .sub .f64 X X) (some 0)) = false) (hG : fcmp .geq (ford .f64 X (some 4841369599423283200)) = false) (hL : fcmp .leq (ford .f64 X (some 14064741636278059008)) = false)
    (hT : fcmp .lss (ford .f64 (fop .sub .f64 X (some (floatOfInt .f64 n))) (some 0)) = true) (hB : fcmp .geq (ford .f64 (fop .add .f64 (fop .sub .f64 X (some (floatOfInt .f64 n))) (some 4607182418800017408)) (some 4602678819172646912)) = false) (hC : fcmp .gtr (ford .f64 (fop .add .f64 (fop .sub .f64 X (some (floatOfInt .f64 n))) (some 4607182418800017408)) (some 4598175219545276416)) = true) (w : World) :
    Calls Try.prog 87 #[.float .f64 b] w fun e w' => ∃ r, e = .returned (.float .f64 r) ∧ Is .f64 r (sineC (fracC X n)) ∧ ∃ m, w' = w.drewN m := by
  have H : Hid (sineC (fracC X n) = (armC (fop .sub .f64 (some 4602678819172646912) (fop .add .f64 (fop .sub .f64 X (some (floatOfInt .f64 n))) (some 4607182418800017408))))) := by
    show sineC (fracC X n) = _
    simp only [sineC, fracC, foldC, hT, hB, hC, if_true, Bool.false_eq_true, if_false]
  go_enter Try.func87, Try.ntmps87
  go_wp2_with (first | (refine wpList_fa rfl rfl rfl rfl rfl (by first | assumption | exact is_const (by decide)) (by first | assumption | exact is_const (by decide) | exact is_int _) ?_; intro r n hr hrw) | (refine wpList_fcmp rfl rfl rfl rfl rfl (by first | assumption | exact is_const (by decide)) (by first | assumption | exact is_const (by decide)) ?_; try simp only [hN, hG, hL, hT, hB, hC]))
  refine wp_loop_rounds 9 ?_
  repeat (rw [rounds_succ]; go_wp2_with (first | (refine wpList_fa rfl rfl rfl rfl rfl (by first | assumption | exact is_const (by decide)) (by first | assumption | exact is_const (by decide) | exact is_int _) ?_; intro r n hr hrw) | (refine wpList_fcmp rfl rfl rfl rfl rfl (by first | assumption | exact is_const (by decide)) (by first | assumption | exact is_const (by decide)) ?_; try simp only [hN, hG, hL, hT, hB, hC])))
  go_ret
  exact ⟨_, rfl, by rw [H.out]; assumption, _, rfl⟩
set_option maxRecDepth 100000 in
set_option maxHeartbeats 1000000 in
theorem l01SineWide_tff (b : Nat) (X : Option Nat) (n : Int) (hX : Is .f64 b X) (hc : ∀ w, (convert 41 2 (.float .f64 b)).run Try.prog w = .ok (.int .i64 n) w)
    (hN : fcmp .neq (ford .f64 (fop .sub .f64 X X) (some 0)) = false) (hG : fcmp .geq (ford .f64 X (some 4841369599423283200)) = false) (hL : fcmp .leq (ford .f64 X (some 14064741636278059008)) = false)
    (hT : fcmp .lss (ford .f64 (fop .sub .f64 X (some (floatOfInt .f64 n))) (some 0)) = true) (hB : fcmp .geq (ford .f64 (fop .add .f64 (fop .sub .f64 X (some (floatOfInt .f64 n))) (some 4607182418800017408)) (some 4602678819172646912)) = false) (hC : fcmp .gtr (ford .f64 (fop .add .f64 (fop .sub .f64 X (some (floatOfInt .f64 n))) (some 4607182418800017408)) (some 4598175219545276416)) = false) (w : World) :
    Calls Try.prog 87 #[.float .f64 b] w fun e w' => ∃ r, e = .returned (.float .f64 r) ∧ Is .f64 r (sineC (fracC X n)) ∧ ∃ m, w' = w.drewN m := by
  have H : Hid (sineC (fracC X n) = (armC (fop .add .f64 (fop .sub .f64 X (some (floatOfInt .f64 n))) (some 4607182418800017408)))) := by
    show sineC (fracC X n) = _
    simp only [sineC, fracC, foldC, hT, hB, hC, if_true, Bool.false_eq_true, if_false]
  go_enter Try.func87, Try.ntmps87
  go_wp2_with (first | (refine wpList_fa rfl rfl rfl rfl rfl (by first | assumption | exact is_const (by decide)) (by first | assumption | exact is_const (by decide) | exact is_int _) ?_; intro r n hr hrw) | (refine wpList_fcmp rfl rfl rfl rfl rfl (by first | assumption | exact is_const (by decide)) (by first | assumption | exact is_const (by decide)) ?_; try simp only [hN, hG, hL, hT, hB, hC]))
  refine wp_loop_rounds 9 ?_
  repeat (rw [rounds_succ]; go_wp2_with (first | (refine wpList_fa rfl rfl rfl rfl rfl (by first | assumption | exact is_const (by decide)) (by first | assumption | exact is_const (by decide) | exact is_int _) ?_; intro r n hr hrw) | (refine wpList_fcmp rfl rfl rfl rfl rfl (by first | assumption | exact is_const (by decide)) (by first | assumption | exact is_const (by decide)) ?_; try simp only [hN, hG, hL, hT, hB, hC])))
  go_ret
  exact ⟨_, rfl, by rw [H.out]; assumption, _, rfl⟩
set_option maxRecDepth 100000 in
set_option maxHeartbeats 1000000 in
theorem l01SineWide_ftt (b : Nat) (X : Option Nat) (n : Int) (hX : Is .f64 b X) (hc : ∀ w, (convert 41 2 (.float .f64 b)).run Try.prog w = .ok (.int .i64 n) w)
    (hN : fcmp .neq (ford .f64 (fop .sub .f64 X X) (some 0)) = false) (hG : fcmp .geq (ford .f64 X (some 4841369599423283200)) = false) (hL : fcmp .leq (ford .f64 X (some 14064741636278059008)) = false)
    (hT : fcmp .lss (ford .f64 (fop .sub .f64 X (some (floatOfInt .f64 n))) (some 0)) = false) (hB : fcmp .geq (ford .f64 (fop .sub .f64 X (some (floatOfInt .f64 n))) (some 4602678819172646912)) = true) (hC : fcmp .gtr (ford .f64 (fop .sub .f64 (fop .sub .f64 X (some (floatOfInt .f64 n))) (some 4602678819172646912)) (some 4598175219545276416)) = true) (w : World) :
    Calls Try.prog 87 #[.float .f64 b] w fun e w' => ∃ r, e = .returned (.float .f64 r) ∧ Is .f64 r (sineC (fracC X n)) ∧ ∃ m, w' = w.drewN m := by
  have H : Hid (sineC (fracC X n) = fneg (armC (fop .sub .f64 (some 4602678819172646912) (fop .sub .f64 (fop .sub .f64 X (some (floatOfInt .f64 n))) (some 4602678819172646912))))) := by
    show sineC (fracC X n) = _
    simp only [sineC, fracC, foldC, hT, hB, hC, if_true, Bool.false_eq_true, if_false]
  go_enter Try.func87, Try.ntmps87
  go_wp2_with (first | (refine wpList_fa rfl rfl rfl rfl rfl (by first | assumption | exact is_const (by decide)) (by first | assumption | exact is_const (by decide) | exact is_int _) ?_; intro r n hr hrw) | (refine wpList_fcmp rfl rfl rfl rfl rfl (by first | assumption | exact is_const (by decide)) (by first | assumption | exact is_const (by decide)) ?_; try simp only [hN, hG, hL, hT, hB, hC]))
  refine wp_loop_rounds 9 ?_
  repeat (rw [rounds_succ]; go_wp2_with (first | (refine wpList_fa rfl rfl rfl rfl rfl (by first | assumption | exact is_const (by decide)) (by first | assumption | exact is_const (by decide) | exact is_int _) ?_; intro r n hr hrw) | (refine wpList_fcmp rfl rfl rfl rfl rfl (by first | assumption | exact is_const (by decide)) (by first | assumption | exact is_const (by decide)) ?_; try simp only [hN, hG, hL, hT, hB, hC])))
  go_ret
  exact ⟨_, rfl, by rw [H.out]; exact Is.neg (by assumption), _, rfl⟩
set_option maxRecDepth 100000 in
set_option maxHeartbeats 1000000 in
theorem l01SineWide_ftf (b : Nat) (X : Option Nat) (n : Int) (hX : Is .f64 b X) (hc : ∀ w, (convert 41 2 (.float .f64 b)).run Try.prog w = .ok (.int .i64 n) w)
    (hN : fcmp .neq (ford .f64 (fop .sub .f64 X X) (some 0)) = false) (hG : fcmp .geq (ford .f64 X (some 4841369599423283200)) = false) (hL : fcmp .leq (ford .f64 X (some 14064741636278059008)) = false)
    (hT : fcmp .lss (ford .f64 (fop .sub .f64 X (some (floatOfInt .f64 n))) (some 0)) = false) (hB : fcmp .geq (ford .f64 (fop .sub .f64 X (some (floatOfInt .f64 n))) (some 4602678819172646912)) = true) (hC : fcmp .gtr (ford .f64 (fop .sub .f64 (fop .sub .f64 X (some (floatOfInt .f64 n))) (some 4602678819172646912)) (some 4598175219545276416)) = false) (w : World) :
    Calls Try.prog 87 #[.float .f64 b] w fun e w' => ∃ r, e = .returned (.float .f64 r) ∧ Is .f64 r (sineC (fracC X n)) ∧ ∃ m, w' = w.drewN m := by
  have H : Hid (sineC (fracC X n) = fneg (armC (fop .sub .f64 (fop .sub .f64 X (some (floatOfInt .f64 n))) (some 4602678819172646912)))) := by
    show sineC (fracC X n) = _
    simp only [sineC, fracC, foldC, hT, hB, hC, if_true, Bool.false_eq_true, if_false]
  go_enter Try.func87, Try.ntmps87
  go_wp2_with (first | (refine wpList_fa rfl rfl rfl rfl rfl (by first | assumption | exact is_const (by decide)) (by first | assumption | exact is_const (by decide) | exact is_int _) ?_; intro r n hr hrw) | (refine wpList_fcmp rfl rfl rfl rfl rfl (by first | assumption | exact is_const (by decide)) (by first | assumption | exact is_const (by decide)) ?_; try simp only [hN, hG, hL, hT, hB, hC]))
  refine wp_loop_rounds 9 ?_
  repeat (rw [rounds_succ]; go_wp2_with (first | (refine wpList_fa rfl rfl rfl rfl rfl (by first | assumption | exact is_const (by decide)) (by first | assumption | exact is_const (by decide) | exact is_int _) ?_; intro r n hr hrw) | (refine wpList_fcmp rfl rfl rfl rfl rfl (by first | assumption | exact is_const (by decide)) (by first | assumption | exact is_const (by decide)) ?_; try simp only [hN, hG, hL, hT, hB, hC])))
  go_ret
  exact ⟨_, rfl, by rw [H.out]; exact Is.neg (by assumption), _, rfl⟩
set_option maxRecDepth 100000 in
set_option maxHeartbeats 1000000 in
theorem l01SineWide_fft (b : Nat) (X : Option Nat) (n : Int) (hX : Is .f64 b X) (hc : ∀ w, (convert 41 2 (.float .f64 b)).run Try.prog w = .ok (.int .i64 n) w)
    (hN : fcmp .neq (ford .f64 (fop .sub .f64 X X) (some 0)) = false) (hG : fcmp .geq (ford .f64 X (some 4841369599423283200)) = false) (hL : fcmp .leq (ford .f64 X (some 14064741636278059008)) = false)
    (hT : fcmp .lss (ford .f64 (fop .sub .f64 X (some (floatOfInt .f64 n))) (some 0)) = false) (hB : fcmp .geq (ford .f64 (fop .sub .f64 X (some (floatOfInt .f64 n))) (some 4602678819172646912)) = false) (hC : fcmp .gtr (ford .f64 (fop .sub .f64 X (some (floatOfInt .f64 n))) (some 4598175219545276416)) = true) (w : World) :
    Calls Try.prog 87 #[.float .f64 b] w fun e w' => ∃ r, e = .returned (.float .f64 r) ∧ Is .f64 r (sineC (fracC X n)) ∧ ∃ m, w' = w.drewN m := by
  have H : Hid (sineC (fracC X n) = (armC (fop .sub .f64 (some 4602678819172646912) (fop .sub .f64 X (some (floatOfInt .f64 n)))))) := by
    show sineC (fracC X n) = _
    simp only [sineC, fracC, foldC, hT, hB, hC, if_true, Bool.false_eq_true, if_false]
  go_enter Try.func87, Try.ntmps87
  go_wp2_with (first | (refine wpList_fa rfl rfl rfl rfl rfl (by first | assumption | exact is_const (by decide)) (by first | assumption | exact is_const (by decide) | exact is_int _) ?_; intro r n hr hrw) | (refine wpList_fcmp rfl rfl rfl rfl rfl (by first | assumption | exact is_const (by decide)) (by first | assumption | exact is_const (by decide)) ?_; try simp only [hN, hG, hL, hT, hB, hC]))
  refine wp_loop_rounds 9 ?_
  repeat (rw [rounds_succ]; go_wp2_with (first | (refine wpList_fa rfl rfl rfl rfl rfl (by first | assumption | exact is_const (by decide)) (by first | assumption | exact is_const (by decide) | exact is_int _) ?_; intro r n hr hrw) | (refine wpList_fcmp rfl rfl rfl rfl rfl (by first | assumption | exact is_const (by decide)) (by first | assumption | exact is_const (by decide)) ?_; try simp only [hN, hG, hL, hT, hB, hC])))
  go_ret
  exact ⟨_, rfl, by rw [H.out]; assumption, _, rfl⟩
set_option maxRecDepth 100000 in
set_option maxHeartbeats 1000000 in
theorem l01SineWide_fff (b : Nat) (X : Option Nat) (n : Int) (hX : Is .f64 b X) (hc : ∀ w, (convert 41 2 (.float .f64 b)).run Try.prog w = .ok (.int .i64 n) w)
    (hN : fcmp .neq (ford .f64 (fop .sub .f64 X X) (some 0)) = false) (hG : fcmp .geq (ford .f64 X (some 4841369599423283200)) = false) (hL : fcmp .leq (ford .f64 X (some 14064741636278059008)) = false)
    (hT : fcmp .lss (ford .f64 (fop .sub .f64 X (some (floatOfInt .f64 n))) (some 0)) = false) (hB : fcmp .geq (ford .f64 (fop .sub .f64 X (some (floatOfInt .f64 n))) (some 4602678819172646912)) = false) (hC : fcmp .gtr (ford .f64 (fop .sub .f64 X (some (floatOfInt .f64 n))) (some 4598175219545276416)) = false) (w : World) :
    Calls Try.prog 87 #[.float .f64 b] w fun e w' => ∃ r, e = .returned (.float .f64 r) ∧ Is .f64 r (sineC (fracC X n)) ∧ ∃ m, w' = w.drewN m := by
  have H : Hid (sineC (fracC X n) = (armC (fop .sub .f64 X (some (floatOfInt .f64 n))))) := by
    show sineC (fracC X n) = _
    simp only [sineC, fracC, foldC, hT, hB, hC, Bool.false_eq_true, if_false]
  go_enter Try.func87, Try.ntmps87
  go_wp2_with (first | (refine wpList_fa rfl rfl rfl rfl rfl (by first | assumption | exact is_const (by decide)) (by first | assumption | exact is_const (by decide) | exact is_int _) ?_; intro r n hr hrw) | (refine wpList_fcmp rfl rfl rfl rfl rfl (by first | assumption | exact is_const (by decide)) (by first | assumption | exact is_const (by decide)) ?_; try simp only [hN, hG, hL, hT, hB, hC]))
  refine wp_loop_rounds 9 ?_
  repeat (rw [rounds_succ]; go_wp2_with (first | (refine wpList_fa rfl rfl rfl rfl rfl (by first | assumption | exact is_const (by decide)) (by first | assumption | exact is_const (by decide) | exact is_int _) ?_; intro r n hr hrw) | (refine wpList_fcmp rfl rfl rfl rfl rfl (by first | assumption | exact is_const (by decide)) (by first | assumption | exact is_const (by decide)) ?_; try simp only [hN, hG, hL, hT, hB, hC])))
  go_ret
  exact ⟨_, rfl, by rw [H.out]; assumption, _, rfl⟩
theorem l01SineWide_small (b : Nat) (X : Option Nat) (n : Int) (hX : Is .f64 b X) (hc : ∀ w, (convert 41 2 (.float .f64 b)).run Try.prog w = .ok (.int .i64 n) w)
    (hN : fcmp .neq (ford .f64 (fop .sub .f64 X X) (some 0)) = false) (hG : fcmp .geq (ford .f64 X (some 4841369599423283200)) = false) (hL : fcmp .leq (ford .f64 X (some 14064741636278059008)) = false) (w : World) :
    Calls Try.prog 87 #[.float .f64 b] w fun e w' => ∃ r, e = .returned (.float .f64 r) ∧ Is .f64 r (sineC (fracC X n)) ∧ ∃ m, w' = w.drewN m := by
  cases hT : fcmp .lss (ford .f64 (fop .sub .f64 X (some (floatOfInt .f64 n))) (some 0)) with
  | true =>
    cases hB : fcmp .geq (ford .f64 (fop .add .f64 (fop .sub .f64 X (some (floatOfInt .f64 n))) (some 4607182418800017408)) (some 4602678819172646912)) with
    | true =>
      cases hC : fcmp .gtr (ford .f64 (fop .sub .f64 (fop .add .f64 (fop .sub .f64 X (some (floatOfInt .f64 n))) (some 4607182418800017408)) (some 4602678819172646912)) (some 4598175219545276416)) with
      | true => exact l01SineWide_ttt b X n hX hc hN hG hL hT hB hC w
      | false => exact l01SineWide_ttf b X n hX hc hN hG hL hT hB hC w
    | false =>
      cases hC : fcmp .gtr (ford .f64 (fop .add .f64 (fop .sub .f64 X (some (floatOfInt .f64 n))) (some 4607182418800017408)) (some 4598175219545276416)) with
      | true => exact l01SineWide_tft b X n hX hc hN hG hL hT hB hC w
      | false => exact l01SineWide_tff b X n hX hc hN hG hL hT hB hC w
  | false =>
    cases hB : fcmp .geq (ford .f64 (fop .sub .f64 X (some (floatOfInt .f64 n))) (some 4602678819172646912)) with
    | true =>
      cases hC : fcmp .gtr (ford .f64 (fop .sub .f64 (fop .sub .f64 X (some (floatOfInt .f64 n))) (some 4602678819172646912)) (some 4598175219545276416)) with
      | true => exact l01SineWide_ftt b X n hX hc hN hG hL hT hB hC w
      | false => exact l01SineWide_ftf b X n hX hc hN hG hL hT hB hC w
    | false =>
      cases hC : fcmp .gtr (ford .f64 (fop .sub .f64 X (some (floatOfInt .f64 n))) (some 4598175219545276416)) with
      | true => exact l01SineWide_fft b X n hX hc hN hG hL hT hB hC w
      | false => exact l01SineWide_fff b X n hX hc hN hG hL hT hB hC w
theorem l01SineWide_wild (b : Nat) (X : Option Nat) (hX : Is .f64 b X) (hN : fcmp .neq (ford .f64 (fop .sub .f64 X X) (some 0)) = true) (w : World) :
    Calls Try.prog 87 #[.float .f64 b] w fun e w' => ∃ r, e = .returned (.float .f64 r) ∧ Is .f64 r none ∧ ∃ m, w' = w.drewN m := by
  have h0 : Is .f64 9221120237041090561 none := by show cls .f64 9221120237041090561 = none; decide
  go_enter Try.func87, Try.ntmps87
  go_wp2_with (first | (first | (refine wpList_fa rfl rfl rfl rfl rfl (by first | assumption | exact is_const (by decide)) (by first | assumption | exact is_const (by decide) | exact is_int _) ?_; intro r n hr hrw) | (refine wpList_fcmp rfl rfl rfl rfl rfl (by first | assumption | exact is_const (by decide)) (by first | assumption | exact is_const (by decide)) ?_; try simp only [hN])) | go_in)
  go_ret
  exact ⟨_, rfl, h0, _, rfl⟩
theorem l01SineWide_great (b : Nat) (X : Option Nat) (hX : Is .f64 b X) (hN : fcmp .neq (ford .f64 (fop .sub .f64 X X) (some 0)) = false)
    (hGL : fcmp .geq (ford .f64 X (some 4841369599423283200)) = true ∨ fcmp .leq (ford .f64 X (some 14064741636278059008)) = true) (w : World) :
    Calls Try.prog 87 #[.float .f64 b] w fun e w' => ∃ r, e = .returned (.float .f64 r) ∧ Is .f64 r (some 0) ∧ ∃ m, w' = w.drewN m := by
  have h0 : Is .f64 0 (some 0) := is_const (by decide)
  cases hG : fcmp .geq (ford .f64 X (some 4841369599423283200)) with
  | true =>
    clear hGL
    go_enter Try.func87, Try.ntmps87
    go_wp2_with (first | (refine wpList_fa rfl rfl rfl rfl rfl (by first | assumption | exact is_const (by decide)) (by first | assumption | exact is_const (by decide) | exact is_int _) ?_; intro r n hr hrw) | (refine wpList_fcmp rfl rfl rfl rfl rfl (by first | assumption | exact is_const (by decide)) (by first | assumption | exact is_const (by decide)) ?_; try simp only [hN, hG]))
    go_ret
    exact ⟨_, rfl, h0, _, rfl⟩
  | false =>
    have hL : fcmp .leq (ford .f64 X (some 14064741636278059008)) = true := by
      rcases hGL with h | h
      · rw [hG] at h; cases h
      · exact h
    clear hGL
    go_enter Try.func87, Try.ntmps87
    go_wp2_with (first | (refine wpList_fa rfl rfl rfl rfl rfl (by first | assumption | exact is_const (by decide)) (by first | assumption | exact is_const (by decide) | exact is_int _) ?_; intro r n hr hrw) | (refine wpList_fcmp rfl rfl rfl rfl rfl (by first | assumption | exact is_const (by decide)) (by first | assumption | exact is_const (by decide)) ?_; try simp only [hN, hG, hL]))
    go_ret
    exact ⟨_, rfl, h0, _, rfl⟩
end Go.Proofs.Ytpmjiabllmomjaa
