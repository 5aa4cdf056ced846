/- The angle of a point. -/
import Derived.Test.YtlgamkbonpjchabAng1
import Derived.Test.YtlgamkbonpjchabAng2
import Derived.Test.YtlgamkbonpjchabAng3
import Derived.Test.YtlgamkbonpjchabAng4
import Derived.Test.YtlgamkbonpjchabSineT
namespace Go.Proofs.Ytlgamkbonpjchab
open Go.RowKit Flt

theorem lss_of_eql {c : Option Ordering} (h : fcmp .eql c = true) : fcmp .lss c = false := by
  cases c with
  | none => rfl
  | some o => cases o <;> first | rfl | cases h
theorem angleWide_any (a b : Nat) (Y X : Option Nat) (hY : Is .f64 a Y) (hX : Is .f64 b X) (ha : Hid (a < 18446744073709551616)) (hb : Hid (b < 18446744073709551616)) (hN1 : fcmp .neq (ford .f64 (fop .sub .f64 Y Y) (some 0)) = false) (hN2 : fcmp .neq (ford .f64 (fop .sub .f64 X X) (some 0)) = false)
    (hz : fcmp .eql (ford .f64 X (some 0)) = false ∨ fcmp .eql (ford .f64 Y (some 0)) = false) (w : World) :
    Calls Try.prog 64 #[.float .f64 a, .float .f64 b] w fun e w' => ∃ r, e = .returned (.float .f64 r) ∧ Is .f64 r (angleW Y X) ∧ ∃ m, w' = w.drewN m := by
  cases hZ1 : fcmp .eql (ford .f64 X (some 0)) with
  | false =>
    cases hO : fcmp .gtr (ford .f64 (fabs Y) (fabs X)) <;> cases hX0 : fcmp .lss (ford .f64 X (some 0)) <;> cases hY0 : fcmp .lss (ford .f64 Y (some 0))
    · exact angleWide_ffff a b Y X hY hX ha hb hN1 hN2 hZ1 hO hX0 hY0 w
    · exact angleWide_fftf a b Y X hY hX ha hb hN1 hN2 hZ1 hO hX0 hY0 w
    · exact angleWide_ftff a b Y X hY hX ha hb hN1 hN2 hZ1 hO hX0 hY0 w
    · exact angleWide_fttf a b Y X hY hX ha hb hN1 hN2 hZ1 hO hX0 hY0 w
    · exact angleWide_tfff a b Y X hY hX ha hb hN1 hN2 hZ1 hO hX0 hY0 w
    · exact angleWide_tftf a b Y X hY hX ha hb hN1 hN2 hZ1 hO hX0 hY0 w
    · exact angleWide_ttff a b Y X hY hX ha hb hN1 hN2 hZ1 hO hX0 hY0 w
    · exact angleWide_tttf a b Y X hY hX ha hb hN1 hN2 hZ1 hO hX0 hY0 w
  | true =>
    have hZ2 : fcmp .eql (ford .f64 Y (some 0)) = false := by
      rcases hz with h | h
      · rw [hZ1] at h; cases h
      · exact h
    have hX0 := lss_of_eql hZ1
    cases hO : fcmp .gtr (ford .f64 (fabs Y) (fabs X)) <;> cases hY0 : fcmp .lss (ford .f64 Y (some 0))
    · exact angleWide_ffft a b Y X hY hX ha hb hN1 hN2 hZ1 hZ2 hO hX0 hY0 w
    · exact angleWide_fftt a b Y X hY hX ha hb hN1 hN2 hZ1 hZ2 hO hX0 hY0 w
    · exact angleWide_tfft a b Y X hY hX ha hb hN1 hN2 hZ1 hZ2 hO hX0 hY0 w
    · exact angleWide_tftt a b Y X hY hX ha hb hN1 hN2 hZ1 hZ2 hO hX0 hY0 w
theorem angleWide_wild (a b : Nat) (Y X : Option Nat) (hY : Is .f64 a Y) (hX : Is .f64 b X) (hN : fcmp .neq (ford .f64 (fop .sub .f64 Y Y) (some 0)) = true ∨ fcmp .neq (ford .f64 (fop .sub .f64 X X) (some 0)) = true) (w : World) :
    Calls Try.prog 64 #[.float .f64 a, .float .f64 b] w fun e w' => ∃ r, e = .returned (.float .f64 r) ∧ Is .f64 r none ∧ ∃ m, w' = w.drewN m := by
  have h0 : Is .f64 9221120237041090561 none := by show cls .f64 9221120237041090561 = none; decide
  cases hN1 : fcmp .neq (ford .f64 (fop .sub .f64 Y Y) (some 0)) with
  | true =>
    clear hN
    go_enter Try.func64, Try.ntmps64
    go_wp2_with (first | (first | (refine wpList_fa rfl rfl rfl rfl rfl (by first | assumption | exact is_const (by decide)) (by first | assumption | exact is_const (by decide) | exact is_int _) ?_; intro r n hr hrw) | (refine wpList_fcmp rfl rfl rfl rfl rfl (by first | assumption | exact is_const (by decide)) (by first | assumption | exact is_const (by decide)) ?_; try simp only [hN1]) | (go_at_call 32; refine (sqrt_any _ _ (by assumption) _).mono ?_; rintro e w' ⟨r, rfl, hr, hrw, n, rfl⟩)) | go_in)
    go_ret
    exact ⟨_, rfl, h0, _, rfl⟩
  | false =>
    have hN2 : fcmp .neq (ford .f64 (fop .sub .f64 X X) (some 0)) = true := by
      rcases hN with h | h
      · rw [hN1] at h; cases h
      · exact h
    clear hN
    go_enter Try.func64, Try.ntmps64
    go_wp2_with (first | (first | (refine wpList_fa rfl rfl rfl rfl rfl (by first | assumption | exact is_const (by decide)) (by first | assumption | exact is_const (by decide) | exact is_int _) ?_; intro r n hr hrw) | (refine wpList_fcmp rfl rfl rfl rfl rfl (by first | assumption | exact is_const (by decide)) (by first | assumption | exact is_const (by decide)) ?_; try simp only [hN1, hN2]) | (go_at_call 32; refine (sqrt_any _ _ (by assumption) _).mono ?_; rintro e w' ⟨r, rfl, hr, hrw, n, rfl⟩)) | go_in)
    go_ret
    exact ⟨_, rfl, h0, _, rfl⟩
theorem angleWide_zero (a b : Nat) (Y X : Option Nat) (hY : Is .f64 a Y) (hX : Is .f64 b X) (hN1 : fcmp .neq (ford .f64 (fop .sub .f64 Y Y) (some 0)) = false) (hN2 : fcmp .neq (ford .f64 (fop .sub .f64 X X) (some 0)) = false) (hZ1 : fcmp .eql (ford .f64 X (some 0)) = true) (hZ2 : fcmp .eql (ford .f64 Y (some 0)) = true) (w : World) :
    Calls Try.prog 64 #[.float .f64 a, .float .f64 b] w fun e w' => ∃ r, e = .returned (.float .f64 r) ∧ Is .f64 r (some 0) ∧ ∃ m, w' = w.drewN m := by
  have h0 : Is .f64 0 (some 0) := is_const (by decide)
  go_enter Try.func64, Try.ntmps64
  go_wp2_with (first | (refine wpList_fa rfl rfl rfl rfl rfl (by first | assumption | exact is_const (by decide)) (by first | assumption | exact is_const (by decide) | exact is_int _) ?_; intro r n hr hrw) | (refine wpList_fcmp rfl rfl rfl rfl rfl (by first | assumption | exact is_const (by decide)) (by first | assumption | exact is_const (by decide)) ?_; try simp only [hN1, hN2, hZ1, hZ2]) | (go_at_call 32; refine (sqrt_any _ _ (by assumption) _).mono ?_; rintro e w' ⟨r, rfl, hr, hrw, n, rfl⟩))
  go_ret
  exact ⟨_, rfl, h0, _, rfl⟩
/-- the class of an angle -/
def angleResult (y x r : Option Nat) : Prop :=
  ((fin32 y && fin32 x) = false ∧ r = none) ∨
  (fin32 y = true ∧ fin32 x = true ∧ (fcmp .eql (ford .f32 y (some 0)) && fcmp .eql (ford .f32 x (some 0))) = true ∧ r = some 0) ∨
  (fin32 y = true ∧ fin32 x = true ∧ (fcmp .eql (ford .f32 y (some 0)) && fcmp .eql (ford .f32 x (some 0))) = false ∧ r = fnar (angleW (fwide y) (fwide x)))
theorem angle_one {y x r r' : Option Nat} (h : angleResult y x r) (h' : angleResult y x r') : r = r' := by
  rcases h with ⟨a, b⟩ | ⟨a, b, c, d⟩ | ⟨a, b, c, d⟩ <;> rcases h' with ⟨a', b'⟩ | ⟨a', b', c', d'⟩ | ⟨a', b', c', d'⟩
  · rw [b, b']
  · rw [a', b'] at a; cases a
  · rw [a', b'] at a; cases a
  · rw [a, b] at a'; cases a'
  · rw [d, d']
  · rw [c] at c'; cases c'
  · rw [a, b] at a'; cases a'
  · rw [c] at c'; cases c'
  · rw [d, d']
theorem angle_fits {y x : Option Nat} (hy : fin32 y = true) (hx : fin32 x = true) (gy : ∀ b, y = some b → nanW .f32 b = false) (gx : ∀ b, x = some b → nanW .f32 b = false)
    (hz : fcmp .eql (ford .f32 y (some 0)) = false ∨ fcmp .eql (ford .f32 x (some 0)) = false) : fits (angleW (fwide y) (fwide x)) := by
  refine fits_of_mag (angle_mag (isNum_wide hy gy) (isNum_wide hx gx) ?_) (by omega)
  rw [ford_wide0 y gy, ford_wide0 x gx]
  exact hz
theorem wide_fin {x : Option Nat} (h : fin32 x = true) (hx : ∀ b, x = some b → nanW .f32 b = false) : fcmp .neq (ford .f64 (fop .sub .f64 (fwide x) (fwide x)) (some 0)) = false := by
  obtain ⟨b, s, m, i, e, h2, _⟩ := isNum_wide h hx
  rw [e]; exact sub_self64 b s m i h2
theorem wide_wild {x : Option Nat} (h : fin32 x = false) (hx : ∀ b, x = some b → nanW .f32 b = false) : fcmp .neq (ford .f64 (fop .sub .f64 (fwide x) (fwide x)) (some 0)) = true := by
  rcases turns_wide x hx with ⟨_, h2⟩ | ⟨h2, _⟩
  · exact h2
  · rw [h] at h2; cases h2
theorem angleTurns_wild (a b : Nat) (w : World) (h : (fin32 (cls .f32 a) && fin32 (cls .f32 b)) = false) : Calls Try.prog 24 #[.float .f32 a, .float .f32 b] w fun e w' => ∃ r R, e = .returned (.float .f32 r) ∧ Is .f32 r R ∧ angleResult (cls .f32 a) (cls .f32 b) R ∧ ∃ m, w' = w.drewN m := by
  have HR : Hid (angleResult (cls .f32 a) (cls .f32 b) none) := .inl ⟨h, rfl⟩
  cases hy : fin32 (cls .f32 a) with
  | false =>
    clear h
    go_enter Try.func24, Try.ntmps24
    go_wp2_with (first | (refine wpList_fw rfl rfl Try.underlying22 Try.underlying26 rfl (by assumption) ?_; intro r n hr hrw; have hab := hr.abs) | (refine wpList_fa rfl rfl rfl rfl rfl (by first | assumption | exact is_const (by decide)) (by first | assumption | exact is_const (by decide)) ?_; intro r n hr hrw) | (refine wpList_fcmp rfl rfl rfl rfl rfl (by first | assumption | exact is_const (by decide)) (by first | assumption | exact is_const (by decide)) ?_; try simp only [hy]) | (go_at_call 41; refine (isFinite_any _ _).mono ?_; rintro e w' ⟨rfl, n, rfl⟩) | (go_at_call 35; refine (notANumber_any _).mono ?_; rintro e w' ⟨rfl, rfl⟩) | (go_at_call 30; refine (abs_any _ (by assumption) _).mono ?_; rintro e w' ⟨rfl, rfl⟩) | (go_at_call 46; refine (eighth_any _ _ (by assumption) _).mono ?_; rintro e w' ⟨r, rfl, hr, n, rfl⟩))
    go_ret
    exact ⟨_, none, rfl, is_nan32, HR.out, _, rfl⟩
  | true =>
    have hx : fin32 (cls .f32 b) = false := by rw [hy] at h; simpa using h
    clear h
    go_enter Try.func24, Try.ntmps24
    go_wp2_with (first | (refine wpList_fw rfl rfl Try.underlying22 Try.underlying26 rfl (by assumption) ?_; intro r n hr hrw; have hab := hr.abs) | (refine wpList_fa rfl rfl rfl rfl rfl (by first | assumption | exact is_const (by decide)) (by first | assumption | exact is_const (by decide)) ?_; intro r n hr hrw) | (refine wpList_fcmp rfl rfl rfl rfl rfl (by first | assumption | exact is_const (by decide)) (by first | assumption | exact is_const (by decide)) ?_; try simp only [hy]) | (go_at_call 41; refine (isFinite_any _ _).mono ?_; rintro e w' ⟨rfl, n, rfl⟩) | (go_at_call 35; refine (notANumber_any _).mono ?_; rintro e w' ⟨rfl, rfl⟩) | (go_at_call 30; refine (abs_any _ (by assumption) _).mono ?_; rintro e w' ⟨rfl, rfl⟩) | (go_at_call 46; refine (eighth_any _ _ (by assumption) _).mono ?_; rintro e w' ⟨r, rfl, hr, n, rfl⟩))
    go_ret
    exact ⟨_, none, rfl, is_nan32, HR.out, _, rfl⟩
theorem angleTurns_zero (a b : Nat) (w : World) (hy : fin32 (cls .f32 a) = true) (hx : fin32 (cls .f32 b) = true) (hZy : fcmp .eql (ford .f32 (cls .f32 a) (some 0)) = true) (hZx : fcmp .eql (ford .f32 (cls .f32 b) (some 0)) = true) :
    Calls Try.prog 24 #[.float .f32 a, .float .f32 b] w fun e w' => ∃ r R, e = .returned (.float .f32 r) ∧ Is .f32 r R ∧ angleResult (cls .f32 a) (cls .f32 b) R ∧ ∃ m, w' = w.drewN m := by
  have HR : Hid (angleResult (cls .f32 a) (cls .f32 b) (some 0)) := .inr (.inl ⟨hy, hx, by rw [hZy, hZx]; rfl, rfl⟩)
  have h1 : Is .f32 a (cls .f32 a) := rfl
  have h2 : Is .f32 b (cls .f32 b) := rfl
  go_enter Try.func24, Try.ntmps24
  go_wp2_with (first | (refine wpList_fw rfl rfl Try.underlying22 Try.underlying26 rfl (by assumption) ?_; intro r n hr hrw; have hab := hr.abs) | (refine wpList_fa rfl rfl rfl rfl rfl (by first | assumption | exact is_const (by decide)) (by first | assumption | exact is_const (by decide)) ?_; intro r n hr hrw) | (refine wpList_fcmp rfl rfl rfl rfl rfl (by first | assumption | exact is_const (by decide)) (by first | assumption | exact is_const (by decide)) ?_; try simp only [hZy, hZx]) | (go_at_call 41; refine (isFinite_any _ _).mono ?_; rintro e w' ⟨rfl, n, rfl⟩) | (go_at_call 35; refine (notANumber_any _).mono ?_; rintro e w' ⟨rfl, rfl⟩) | (go_at_call 30; refine (abs_any _ (by assumption) _).mono ?_; rintro e w' ⟨rfl, rfl⟩) | (go_at_call 46; refine (eighth_any _ _ (by assumption) _).mono ?_; rintro e w' ⟨r, rfl, hr, n, rfl⟩))
  go_ret
  exact ⟨_, some 0, rfl, is_const (by decide), HR.out, _, rfl⟩
set_option maxHeartbeats 1000000 in
theorem angleTurns_ffff (a b : Nat) (w : World) (hy : fin32 (cls .f32 a) = true) (hx : fin32 (cls .f32 b) = true) (hZy : fcmp .eql (ford .f32 (cls .f32 a) (some 0)) = false)
    (hO : fcmp .gtr (ford .f64 (fabs (fwide (cls .f32 a))) (fabs (fwide (cls .f32 b)))) = false) (hX0 : fcmp .lss (ford .f32 (cls .f32 b) (some 0)) = false) (hY0 : fcmp .lss (ford .f32 (cls .f32 a) (some 0)) = false) :
    Calls Try.prog 24 #[.float .f32 a, .float .f32 b] w fun e w' => ∃ r R, e = .returned (.float .f32 r) ∧ Is .f32 r R ∧ angleResult (cls .f32 a) (cls .f32 b) R ∧ ∃ m, w' = w.drewN m := by
  have hf := angle_fits hy hx (cls_ok .f32 a) (cls_ok .f32 b) (.inl hZy)
  have e0 : angleW (fwide (cls .f32 a)) (fwide (cls .f32 b)) = (eighthC (fop .quo .f64 (fabs (fwide (cls .f32 a))) (fabs (fwide (cls .f32 b))))) := by
    simp only [angleW, tangentC, turnC, sideC, downC, ford_wide0 _ (cls_ok .f32 a), ford_wide0 _ (cls_ok .f32 b), hO, hX0, hY0, Bool.false_eq_true, if_false]
  rw [e0] at hf
  have HF := (show Hid _ from hf)
  have HR : Hid (angleResult (cls .f32 a) (cls .f32 b) (fnar (eighthC (fop .quo .f64 (fabs (fwide (cls .f32 a))) (fabs (fwide (cls .f32 b))))))) := .inr (.inr ⟨hy, hx, by rw [hZy]; rfl, by rw [e0]⟩)
  have h1 : Is .f32 a (cls .f32 a) := rfl
  have h2 : Is .f32 b (cls .f32 b) := rfl
  clear hf e0
  go_enter Try.func24, Try.ntmps24
  go_wp2_with (first | (refine wpList_fw rfl rfl Try.underlying22 Try.underlying26 rfl (by assumption) ?_; intro r n hr hrw; have hab := hr.abs) | (refine wpList_fa rfl rfl rfl rfl rfl (by first | assumption | exact is_const (by decide)) (by first | assumption | exact is_const (by decide)) ?_; intro r n hr hrw) | (refine wpList_fcmp rfl rfl rfl rfl rfl (by first | assumption | exact is_const (by decide)) (by first | assumption | exact is_const (by decide)) ?_; try simp only [hZy, hO, hX0, hY0]) | (go_at_call 41; refine (isFinite_any _ _).mono ?_; rintro e w' ⟨rfl, n, rfl⟩) | (go_at_call 35; refine (notANumber_any _).mono ?_; rintro e w' ⟨rfl, rfl⟩) | (go_at_call 30; refine (abs_any _ (by assumption) _).mono ?_; rintro e w' ⟨rfl, rfl⟩) | (go_at_call 46; refine (eighth_any _ _ (by assumption) _).mono ?_; rintro e w' ⟨r, rfl, hr, n, rfl⟩) | (refine wpList_fn rfl rfl Try.underlying26 Try.underlying22 rfl (by first | assumption | exact Is.neg (by assumption)) HF.out ?_; intro r3 m3 hr3 hrw3))
  go_ret
  exact ⟨_, _, rfl, hr3, HR.out, _, rfl⟩
set_option maxHeartbeats 1000000 in
theorem angleTurns_ffft (a b : Nat) (w : World) (hy : fin32 (cls .f32 a) = true) (hx : fin32 (cls .f32 b) = true) (hZy : fcmp .eql (ford .f32 (cls .f32 a) (some 0)) = false)
    (hO : fcmp .gtr (ford .f64 (fabs (fwide (cls .f32 a))) (fabs (fwide (cls .f32 b)))) = false) (hX0 : fcmp .lss (ford .f32 (cls .f32 b) (some 0)) = false) (hY0 : fcmp .lss (ford .f32 (cls .f32 a) (some 0)) = true) :
    Calls Try.prog 24 #[.float .f32 a, .float .f32 b] w fun e w' => ∃ r R, e = .returned (.float .f32 r) ∧ Is .f32 r R ∧ angleResult (cls .f32 a) (cls .f32 b) R ∧ ∃ m, w' = w.drewN m := by
  have hf := angle_fits hy hx (cls_ok .f32 a) (cls_ok .f32 b) (.inl hZy)
  have e0 : angleW (fwide (cls .f32 a)) (fwide (cls .f32 b)) = (fneg (eighthC (fop .quo .f64 (fabs (fwide (cls .f32 a))) (fabs (fwide (cls .f32 b)))))) := by
    simp only [angleW, tangentC, turnC, sideC, downC, ford_wide0 _ (cls_ok .f32 a), ford_wide0 _ (cls_ok .f32 b), hO, hX0, hY0, if_true, Bool.false_eq_true, if_false]
  rw [e0] at hf
  have HF := (show Hid _ from hf)
  have HR : Hid (angleResult (cls .f32 a) (cls .f32 b) (fnar (fneg (eighthC (fop .quo .f64 (fabs (fwide (cls .f32 a))) (fabs (fwide (cls .f32 b)))))))) := .inr (.inr ⟨hy, hx, by rw [hZy]; rfl, by rw [e0]⟩)
  have h1 : Is .f32 a (cls .f32 a) := rfl
  have h2 : Is .f32 b (cls .f32 b) := rfl
  clear hf e0
  go_enter Try.func24, Try.ntmps24
  go_wp2_with (first | (refine wpList_fw rfl rfl Try.underlying22 Try.underlying26 rfl (by assumption) ?_; intro r n hr hrw; have hab := hr.abs) | (refine wpList_fa rfl rfl rfl rfl rfl (by first | assumption | exact is_const (by decide)) (by first | assumption | exact is_const (by decide)) ?_; intro r n hr hrw) | (refine wpList_fcmp rfl rfl rfl rfl rfl (by first | assumption | exact is_const (by decide)) (by first | assumption | exact is_const (by decide)) ?_; try simp only [hZy, hO, hX0, hY0]) | (go_at_call 41; refine (isFinite_any _ _).mono ?_; rintro e w' ⟨rfl, n, rfl⟩) | (go_at_call 35; refine (notANumber_any _).mono ?_; rintro e w' ⟨rfl, rfl⟩) | (go_at_call 30; refine (abs_any _ (by assumption) _).mono ?_; rintro e w' ⟨rfl, rfl⟩) | (go_at_call 46; refine (eighth_any _ _ (by assumption) _).mono ?_; rintro e w' ⟨r, rfl, hr, n, rfl⟩) | (refine wpList_fn rfl rfl Try.underlying26 Try.underlying22 rfl (by first | assumption | exact Is.neg (by assumption)) HF.out ?_; intro r3 m3 hr3 hrw3))
  go_ret
  exact ⟨_, _, rfl, hr3, HR.out, _, rfl⟩
set_option maxHeartbeats 1000000 in
theorem angleTurns_fftf (a b : Nat) (w : World) (hy : fin32 (cls .f32 a) = true) (hx : fin32 (cls .f32 b) = true) (hZy : fcmp .eql (ford .f32 (cls .f32 a) (some 0)) = false)
    (hO : fcmp .gtr (ford .f64 (fabs (fwide (cls .f32 a))) (fabs (fwide (cls .f32 b)))) = false) (hX0 : fcmp .lss (ford .f32 (cls .f32 b) (some 0)) = true) (hY0 : fcmp .lss (ford .f32 (cls .f32 a) (some 0)) = false) :
    Calls Try.prog 24 #[.float .f32 a, .float .f32 b] w fun e w' => ∃ r R, e = .returned (.float .f32 r) ∧ Is .f32 r R ∧ angleResult (cls .f32 a) (cls .f32 b) R ∧ ∃ m, w' = w.drewN m := by
  have hf := angle_fits hy hx (cls_ok .f32 a) (cls_ok .f32 b) (.inl hZy)
  have e0 : angleW (fwide (cls .f32 a)) (fwide (cls .f32 b)) = (fop .sub .f64 (some 4602678819172646912) (eighthC (fop .quo .f64 (fabs (fwide (cls .f32 a))) (fabs (fwide (cls .f32 b)))))) := by
    simp only [angleW, tangentC, turnC, sideC, downC, ford_wide0 _ (cls_ok .f32 a), ford_wide0 _ (cls_ok .f32 b), hO, hX0, hY0, if_true, Bool.false_eq_true, if_false]
  rw [e0] at hf
  have HF := (show Hid _ from hf)
  have HR : Hid (angleResult (cls .f32 a) (cls .f32 b) (fnar (fop .sub .f64 (some 4602678819172646912) (eighthC (fop .quo .f64 (fabs (fwide (cls .f32 a))) (fabs (fwide (cls .f32 b)))))))) := .inr (.inr ⟨hy, hx, by rw [hZy]; rfl, by rw [e0]⟩)
  have h1 : Is .f32 a (cls .f32 a) := rfl
  have h2 : Is .f32 b (cls .f32 b) := rfl
  clear hf e0
  go_enter Try.func24, Try.ntmps24
  go_wp2_with (first | (refine wpList_fw rfl rfl Try.underlying22 Try.underlying26 rfl (by assumption) ?_; intro r n hr hrw; have hab := hr.abs) | (refine wpList_fa rfl rfl rfl rfl rfl (by first | assumption | exact is_const (by decide)) (by first | assumption | exact is_const (by decide)) ?_; intro r n hr hrw) | (refine wpList_fcmp rfl rfl rfl rfl rfl (by first | assumption | exact is_const (by decide)) (by first | assumption | exact is_const (by decide)) ?_; try simp only [hZy, hO, hX0, hY0]) | (go_at_call 41; refine (isFinite_any _ _).mono ?_; rintro e w' ⟨rfl, n, rfl⟩) | (go_at_call 35; refine (notANumber_any _).mono ?_; rintro e w' ⟨rfl, rfl⟩) | (go_at_call 30; refine (abs_any _ (by assumption) _).mono ?_; rintro e w' ⟨rfl, rfl⟩) | (go_at_call 46; refine (eighth_any _ _ (by assumption) _).mono ?_; rintro e w' ⟨r, rfl, hr, n, rfl⟩) | (refine wpList_fn rfl rfl Try.underlying26 Try.underlying22 rfl (by first | assumption | exact Is.neg (by assumption)) HF.out ?_; intro r3 m3 hr3 hrw3))
  go_ret
  exact ⟨_, _, rfl, hr3, HR.out, _, rfl⟩
set_option maxHeartbeats 1000000 in
theorem angleTurns_fftt (a b : Nat) (w : World) (hy : fin32 (cls .f32 a) = true) (hx : fin32 (cls .f32 b) = true) (hZy : fcmp .eql (ford .f32 (cls .f32 a) (some 0)) = false)
    (hO : fcmp .gtr (ford .f64 (fabs (fwide (cls .f32 a))) (fabs (fwide (cls .f32 b)))) = false) (hX0 : fcmp .lss (ford .f32 (cls .f32 b) (some 0)) = true) (hY0 : fcmp .lss (ford .f32 (cls .f32 a) (some 0)) = true) :
    Calls Try.prog 24 #[.float .f32 a, .float .f32 b] w fun e w' => ∃ r R, e = .returned (.float .f32 r) ∧ Is .f32 r R ∧ angleResult (cls .f32 a) (cls .f32 b) R ∧ ∃ m, w' = w.drewN m := by
  have hf := angle_fits hy hx (cls_ok .f32 a) (cls_ok .f32 b) (.inl hZy)
  have e0 : angleW (fwide (cls .f32 a)) (fwide (cls .f32 b)) = (fneg (fop .sub .f64 (some 4602678819172646912) (eighthC (fop .quo .f64 (fabs (fwide (cls .f32 a))) (fabs (fwide (cls .f32 b))))))) := by
    simp only [angleW, tangentC, turnC, sideC, downC, ford_wide0 _ (cls_ok .f32 a), ford_wide0 _ (cls_ok .f32 b), hO, hX0, hY0, if_true, Bool.false_eq_true, if_false]
  rw [e0] at hf
  have HF := (show Hid _ from hf)
  have HR : Hid (angleResult (cls .f32 a) (cls .f32 b) (fnar (fneg (fop .sub .f64 (some 4602678819172646912) (eighthC (fop .quo .f64 (fabs (fwide (cls .f32 a))) (fabs (fwide (cls .f32 b))))))))) := .inr (.inr ⟨hy, hx, by rw [hZy]; rfl, by rw [e0]⟩)
  have h1 : Is .f32 a (cls .f32 a) := rfl
  have h2 : Is .f32 b (cls .f32 b) := rfl
  clear hf e0
  go_enter Try.func24, Try.ntmps24
  go_wp2_with (first | (refine wpList_fw rfl rfl Try.underlying22 Try.underlying26 rfl (by assumption) ?_; intro r n hr hrw; have hab := hr.abs) | (refine wpList_fa rfl rfl rfl rfl rfl (by first | assumption | exact is_const (by decide)) (by first | assumption | exact is_const (by decide)) ?_; intro r n hr hrw) | (refine wpList_fcmp rfl rfl rfl rfl rfl (by first | assumption | exact is_const (by decide)) (by first | assumption | exact is_const (by decide)) ?_; try simp only [hZy, hO, hX0, hY0]) | (go_at_call 41; refine (isFinite_any _ _).mono ?_; rintro e w' ⟨rfl, n, rfl⟩) | (go_at_call 35; refine (notANumber_any _).mono ?_; rintro e w' ⟨rfl, rfl⟩) | (go_at_call 30; refine (abs_any _ (by assumption) _).mono ?_; rintro e w' ⟨rfl, rfl⟩) | (go_at_call 46; refine (eighth_any _ _ (by assumption) _).mono ?_; rintro e w' ⟨r, rfl, hr, n, rfl⟩) | (refine wpList_fn rfl rfl Try.underlying26 Try.underlying22 rfl (by first | assumption | exact Is.neg (by assumption)) HF.out ?_; intro r3 m3 hr3 hrw3))
  go_ret
  exact ⟨_, _, rfl, hr3, HR.out, _, rfl⟩
set_option maxHeartbeats 1000000 in
theorem angleTurns_ftff (a b : Nat) (w : World) (hy : fin32 (cls .f32 a) = true) (hx : fin32 (cls .f32 b) = true) (hZy : fcmp .eql (ford .f32 (cls .f32 a) (some 0)) = false)
    (hO : fcmp .gtr (ford .f64 (fabs (fwide (cls .f32 a))) (fabs (fwide (cls .f32 b)))) = true) (hX0 : fcmp .lss (ford .f32 (cls .f32 b) (some 0)) = false) (hY0 : fcmp .lss (ford .f32 (cls .f32 a) (some 0)) = false) :
    Calls Try.prog 24 #[.float .f32 a, .float .f32 b] w fun e w' => ∃ r R, e = .returned (.float .f32 r) ∧ Is .f32 r R ∧ angleResult (cls .f32 a) (cls .f32 b) R ∧ ∃ m, w' = w.drewN m := by
  have hf := angle_fits hy hx (cls_ok .f32 a) (cls_ok .f32 b) (.inl hZy)
  have e0 : angleW (fwide (cls .f32 a)) (fwide (cls .f32 b)) = (fop .sub .f64 (some 4598175219545276416) (eighthC (fop .quo .f64 (fabs (fwide (cls .f32 b))) (fabs (fwide (cls .f32 a)))))) := by
    simp only [angleW, tangentC, turnC, sideC, downC, ford_wide0 _ (cls_ok .f32 a), ford_wide0 _ (cls_ok .f32 b), hO, hX0, hY0, if_true, Bool.false_eq_true, if_false]
  rw [e0] at hf
  have HF := (show Hid _ from hf)
  have HR : Hid (angleResult (cls .f32 a) (cls .f32 b) (fnar (fop .sub .f64 (some 4598175219545276416) (eighthC (fop .quo .f64 (fabs (fwide (cls .f32 b))) (fabs (fwide (cls .f32 a)))))))) := .inr (.inr ⟨hy, hx, by rw [hZy]; rfl, by rw [e0]⟩)
  have h1 : Is .f32 a (cls .f32 a) := rfl
  have h2 : Is .f32 b (cls .f32 b) := rfl
  clear hf e0
  go_enter Try.func24, Try.ntmps24
  go_wp2_with (first | (refine wpList_fw rfl rfl Try.underlying22 Try.underlying26 rfl (by assumption) ?_; intro r n hr hrw; have hab := hr.abs) | (refine wpList_fa rfl rfl rfl rfl rfl (by first | assumption | exact is_const (by decide)) (by first | assumption | exact is_const (by decide)) ?_; intro r n hr hrw) | (refine wpList_fcmp rfl rfl rfl rfl rfl (by first | assumption | exact is_const (by decide)) (by first | assumption | exact is_const (by decide)) ?_; try simp only [hZy, hO, hX0, hY0]) | (go_at_call 41; refine (isFinite_any _ _).mono ?_; rintro e w' ⟨rfl, n, rfl⟩) | (go_at_call 35; refine (notANumber_any _).mono ?_; rintro e w' ⟨rfl, rfl⟩) | (go_at_call 30; refine (abs_any _ (by assumption) _).mono ?_; rintro e w' ⟨rfl, rfl⟩) | (go_at_call 46; refine (eighth_any _ _ (by assumption) _).mono ?_; rintro e w' ⟨r, rfl, hr, n, rfl⟩) | (refine wpList_fn rfl rfl Try.underlying26 Try.underlying22 rfl (by first | assumption | exact Is.neg (by assumption)) HF.out ?_; intro r3 m3 hr3 hrw3))
  go_ret
  exact ⟨_, _, rfl, hr3, HR.out, _, rfl⟩
set_option maxHeartbeats 1000000 in
theorem angleTurns_ftft (a b : Nat) (w : World) (hy : fin32 (cls .f32 a) = true) (hx : fin32 (cls .f32 b) = true) (hZy : fcmp .eql (ford .f32 (cls .f32 a) (some 0)) = false)
    (hO : fcmp .gtr (ford .f64 (fabs (fwide (cls .f32 a))) (fabs (fwide (cls .f32 b)))) = true) (hX0 : fcmp .lss (ford .f32 (cls .f32 b) (some 0)) = false) (hY0 : fcmp .lss (ford .f32 (cls .f32 a) (some 0)) = true) :
    Calls Try.prog 24 #[.float .f32 a, .float .f32 b] w fun e w' => ∃ r R, e = .returned (.float .f32 r) ∧ Is .f32 r R ∧ angleResult (cls .f32 a) (cls .f32 b) R ∧ ∃ m, w' = w.drewN m := by
  have hf := angle_fits hy hx (cls_ok .f32 a) (cls_ok .f32 b) (.inl hZy)
  have e0 : angleW (fwide (cls .f32 a)) (fwide (cls .f32 b)) = (fneg (fop .sub .f64 (some 4598175219545276416) (eighthC (fop .quo .f64 (fabs (fwide (cls .f32 b))) (fabs (fwide (cls .f32 a))))))) := by
    simp only [angleW, tangentC, turnC, sideC, downC, ford_wide0 _ (cls_ok .f32 a), ford_wide0 _ (cls_ok .f32 b), hO, hX0, hY0, if_true, Bool.false_eq_true, if_false]
  rw [e0] at hf
  have HF := (show Hid _ from hf)
  have HR : Hid (angleResult (cls .f32 a) (cls .f32 b) (fnar (fneg (fop .sub .f64 (some 4598175219545276416) (eighthC (fop .quo .f64 (fabs (fwide (cls .f32 b))) (fabs (fwide (cls .f32 a))))))))) := .inr (.inr ⟨hy, hx, by rw [hZy]; rfl, by rw [e0]⟩)
  have h1 : Is .f32 a (cls .f32 a) := rfl
  have h2 : Is .f32 b (cls .f32 b) := rfl
  clear hf e0
  go_enter Try.func24, Try.ntmps24
  go_wp2_with (first | (refine wpList_fw rfl rfl Try.underlying22 Try.underlying26 rfl (by assumption) ?_; intro r n hr hrw; have hab := hr.abs) | (refine wpList_fa rfl rfl rfl rfl rfl (by first | assumption | exact is_const (by decide)) (by first | assumption | exact is_const (by decide)) ?_; intro r n hr hrw) | (refine wpList_fcmp rfl rfl rfl rfl rfl (by first | assumption | exact is_const (by decide)) (by first | assumption | exact is_const (by decide)) ?_; try simp only [hZy, hO, hX0, hY0]) | (go_at_call 41; refine (isFinite_any _ _).mono ?_; rintro e w' ⟨rfl, n, rfl⟩) | (go_at_call 35; refine (notANumber_any _).mono ?_; rintro e w' ⟨rfl, rfl⟩) | (go_at_call 30; refine (abs_any _ (by assumption) _).mono ?_; rintro e w' ⟨rfl, rfl⟩) | (go_at_call 46; refine (eighth_any _ _ (by assumption) _).mono ?_; rintro e w' ⟨r, rfl, hr, n, rfl⟩) | (refine wpList_fn rfl rfl Try.underlying26 Try.underlying22 rfl (by first | assumption | exact Is.neg (by assumption)) HF.out ?_; intro r3 m3 hr3 hrw3))
  go_ret
  exact ⟨_, _, rfl, hr3, HR.out, _, rfl⟩
set_option maxHeartbeats 1000000 in
theorem angleTurns_fttf (a b : Nat) (w : World) (hy : fin32 (cls .f32 a) = true) (hx : fin32 (cls .f32 b) = true) (hZy : fcmp .eql (ford .f32 (cls .f32 a) (some 0)) = false)
    (hO : fcmp .gtr (ford .f64 (fabs (fwide (cls .f32 a))) (fabs (fwide (cls .f32 b)))) = true) (hX0 : fcmp .lss (ford .f32 (cls .f32 b) (some 0)) = true) (hY0 : fcmp .lss (ford .f32 (cls .f32 a) (some 0)) = false) :
    Calls Try.prog 24 #[.float .f32 a, .float .f32 b] w fun e w' => ∃ r R, e = .returned (.float .f32 r) ∧ Is .f32 r R ∧ angleResult (cls .f32 a) (cls .f32 b) R ∧ ∃ m, w' = w.drewN m := by
  have hf := angle_fits hy hx (cls_ok .f32 a) (cls_ok .f32 b) (.inl hZy)
  have e0 : angleW (fwide (cls .f32 a)) (fwide (cls .f32 b)) = (fop .sub .f64 (some 4602678819172646912) (fop .sub .f64 (some 4598175219545276416) (eighthC (fop .quo .f64 (fabs (fwide (cls .f32 b))) (fabs (fwide (cls .f32 a))))))) := by
    simp only [angleW, tangentC, turnC, sideC, downC, ford_wide0 _ (cls_ok .f32 a), ford_wide0 _ (cls_ok .f32 b), hO, hX0, hY0, if_true, Bool.false_eq_true, if_false]
  rw [e0] at hf
  have HF := (show Hid _ from hf)
  have HR : Hid (angleResult (cls .f32 a) (cls .f32 b) (fnar (fop .sub .f64 (some 4602678819172646912) (fop .sub .f64 (some 4598175219545276416) (eighthC (fop .quo .f64 (fabs (fwide (cls .f32 b))) (fabs (fwide (cls .f32 a))))))))) := .inr (.inr ⟨hy, hx, by rw [hZy]; rfl, by rw [e0]⟩)
  have h1 : Is .f32 a (cls .f32 a) := rfl
  have h2 : Is .f32 b (cls .f32 b) := rfl
  clear hf e0
  go_enter Try.func24, Try.ntmps24
  go_wp2_with (first | (refine wpList_fw rfl rfl Try.underlying22 Try.underlying26 rfl (by assumption) ?_; intro r n hr hrw; have hab := hr.abs) | (refine wpList_fa rfl rfl rfl rfl rfl (by first | assumption | exact is_const (by decide)) (by first | assumption | exact is_const (by decide)) ?_; intro r n hr hrw) | (refine wpList_fcmp rfl rfl rfl rfl rfl (by first | assumption | exact is_const (by decide)) (by first | assumption | exact is_const (by decide)) ?_; try simp only [hZy, hO, hX0, hY0]) | (go_at_call 41; refine (isFinite_any _ _).mono ?_; rintro e w' ⟨rfl, n, rfl⟩) | (go_at_call 35; refine (notANumber_any _).mono ?_; rintro e w' ⟨rfl, rfl⟩) | (go_at_call 30; refine (abs_any _ (by assumption) _).mono ?_; rintro e w' ⟨rfl, rfl⟩) | (go_at_call 46; refine (eighth_any _ _ (by assumption) _).mono ?_; rintro e w' ⟨r, rfl, hr, n, rfl⟩) | (refine wpList_fn rfl rfl Try.underlying26 Try.underlying22 rfl (by first | assumption | exact Is.neg (by assumption)) HF.out ?_; intro r3 m3 hr3 hrw3))
  go_ret
  exact ⟨_, _, rfl, hr3, HR.out, _, rfl⟩
set_option maxHeartbeats 1000000 in
theorem angleTurns_fttt (a b : Nat) (w : World) (hy : fin32 (cls .f32 a) = true) (hx : fin32 (cls .f32 b) = true) (hZy : fcmp .eql (ford .f32 (cls .f32 a) (some 0)) = false)
    (hO : fcmp .gtr (ford .f64 (fabs (fwide (cls .f32 a))) (fabs (fwide (cls .f32 b)))) = true) (hX0 : fcmp .lss (ford .f32 (cls .f32 b) (some 0)) = true) (hY0 : fcmp .lss (ford .f32 (cls .f32 a) (some 0)) = true) :
    Calls Try.prog 24 #[.float .f32 a, .float .f32 b] w fun e w' => ∃ r R, e = .returned (.float .f32 r) ∧ Is .f32 r R ∧ angleResult (cls .f32 a) (cls .f32 b) R ∧ ∃ m, w' = w.drewN m := by
  have hf := angle_fits hy hx (cls_ok .f32 a) (cls_ok .f32 b) (.inl hZy)
  have e0 : angleW (fwide (cls .f32 a)) (fwide (cls .f32 b)) = (fneg (fop .sub .f64 (some 4602678819172646912) (fop .sub .f64 (some 4598175219545276416) (eighthC (fop .quo .f64 (fabs (fwide (cls .f32 b))) (fabs (fwide (cls .f32 a)))))))) := by
    simp only [angleW, tangentC, turnC, sideC, downC, ford_wide0 _ (cls_ok .f32 a), ford_wide0 _ (cls_ok .f32 b), hO, hX0, hY0, if_true]
  rw [e0] at hf
  have HF := (show Hid _ from hf)
  have HR : Hid (angleResult (cls .f32 a) (cls .f32 b) (fnar (fneg (fop .sub .f64 (some 4602678819172646912) (fop .sub .f64 (some 4598175219545276416) (eighthC (fop .quo .f64 (fabs (fwide (cls .f32 b))) (fabs (fwide (cls .f32 a)))))))))) := .inr (.inr ⟨hy, hx, by rw [hZy]; rfl, by rw [e0]⟩)
  have h1 : Is .f32 a (cls .f32 a) := rfl
  have h2 : Is .f32 b (cls .f32 b) := rfl
  clear hf e0
  go_enter Try.func24, Try.ntmps24
  go_wp2_with (first | (refine wpList_fw rfl rfl Try.underlying22 Try.underlying26 rfl (by assumption) ?_; intro r n hr hrw; have hab := hr.abs) | (refine wpList_fa rfl rfl rfl rfl rfl (by first | assumption | exact is_const (by decide)) (by first | assumption | exact is_const (by decide)) ?_; intro r n hr hrw) | (refine wpList_fcmp rfl rfl rfl rfl rfl (by first | assumption | exact is_const (by decide)) (by first | assumption | exact is_const (by decide)) ?_; try simp only [hZy, hO, hX0, hY0]) | (go_at_call 41; refine (isFinite_any _ _).mono ?_; rintro e w' ⟨rfl, n, rfl⟩) | (go_at_call 35; refine (notANumber_any _).mono ?_; rintro e w' ⟨rfl, rfl⟩) | (go_at_call 30; refine (abs_any _ (by assumption) _).mono ?_; rintro e w' ⟨rfl, rfl⟩) | (go_at_call 46; refine (eighth_any _ _ (by assumption) _).mono ?_; rintro e w' ⟨r, rfl, hr, n, rfl⟩) | (refine wpList_fn rfl rfl Try.underlying26 Try.underlying22 rfl (by first | assumption | exact Is.neg (by assumption)) HF.out ?_; intro r3 m3 hr3 hrw3))
  go_ret
  exact ⟨_, _, rfl, hr3, HR.out, _, rfl⟩
set_option maxHeartbeats 1000000 in
theorem angleTurns_tfff (a b : Nat) (w : World) (hy : fin32 (cls .f32 a) = true) (hx : fin32 (cls .f32 b) = true) (hZy : fcmp .eql (ford .f32 (cls .f32 a) (some 0)) = true) (hZx : fcmp .eql (ford .f32 (cls .f32 b) (some 0)) = false)
    (hO : fcmp .gtr (ford .f64 (fabs (fwide (cls .f32 a))) (fabs (fwide (cls .f32 b)))) = false) (hX0 : fcmp .lss (ford .f32 (cls .f32 b) (some 0)) = false) (hY0 : fcmp .lss (ford .f32 (cls .f32 a) (some 0)) = false) :
    Calls Try.prog 24 #[.float .f32 a, .float .f32 b] w fun e w' => ∃ r R, e = .returned (.float .f32 r) ∧ Is .f32 r R ∧ angleResult (cls .f32 a) (cls .f32 b) R ∧ ∃ m, w' = w.drewN m := by
  have hf := angle_fits hy hx (cls_ok .f32 a) (cls_ok .f32 b) (.inr hZx)
  have e0 : angleW (fwide (cls .f32 a)) (fwide (cls .f32 b)) = (eighthC (fop .quo .f64 (fabs (fwide (cls .f32 a))) (fabs (fwide (cls .f32 b))))) := by
    simp only [angleW, tangentC, turnC, sideC, downC, ford_wide0 _ (cls_ok .f32 a), ford_wide0 _ (cls_ok .f32 b), hO, hX0, hY0, Bool.false_eq_true, if_false]
  rw [e0] at hf
  have HF := (show Hid _ from hf)
  have HR : Hid (angleResult (cls .f32 a) (cls .f32 b) (fnar (eighthC (fop .quo .f64 (fabs (fwide (cls .f32 a))) (fabs (fwide (cls .f32 b))))))) := .inr (.inr ⟨hy, hx, by rw [hZy, hZx]; rfl, by rw [e0]⟩)
  have h1 : Is .f32 a (cls .f32 a) := rfl
  have h2 : Is .f32 b (cls .f32 b) := rfl
  clear hf e0
  go_enter Try.func24, Try.ntmps24
  go_wp2_with (first | (refine wpList_fw rfl rfl Try.underlying22 Try.underlying26 rfl (by assumption) ?_; intro r n hr hrw; have hab := hr.abs) | (refine wpList_fa rfl rfl rfl rfl rfl (by first | assumption | exact is_const (by decide)) (by first | assumption | exact is_const (by decide)) ?_; intro r n hr hrw) | (refine wpList_fcmp rfl rfl rfl rfl rfl (by first | assumption | exact is_const (by decide)) (by first | assumption | exact is_const (by decide)) ?_; try simp only [hZy, hZx, hO, hX0, hY0]) | (go_at_call 41; refine (isFinite_any _ _).mono ?_; rintro e w' ⟨rfl, n, rfl⟩) | (go_at_call 35; refine (notANumber_any _).mono ?_; rintro e w' ⟨rfl, rfl⟩) | (go_at_call 30; refine (abs_any _ (by assumption) _).mono ?_; rintro e w' ⟨rfl, rfl⟩) | (go_at_call 46; refine (eighth_any _ _ (by assumption) _).mono ?_; rintro e w' ⟨r, rfl, hr, n, rfl⟩) | (refine wpList_fn rfl rfl Try.underlying26 Try.underlying22 rfl (by first | assumption | exact Is.neg (by assumption)) HF.out ?_; intro r3 m3 hr3 hrw3))
  go_ret
  exact ⟨_, _, rfl, hr3, HR.out, _, rfl⟩
set_option maxHeartbeats 1000000 in
theorem angleTurns_tftf (a b : Nat) (w : World) (hy : fin32 (cls .f32 a) = true) (hx : fin32 (cls .f32 b) = true) (hZy : fcmp .eql (ford .f32 (cls .f32 a) (some 0)) = true) (hZx : fcmp .eql (ford .f32 (cls .f32 b) (some 0)) = false)
    (hO : fcmp .gtr (ford .f64 (fabs (fwide (cls .f32 a))) (fabs (fwide (cls .f32 b)))) = false) (hX0 : fcmp .lss (ford .f32 (cls .f32 b) (some 0)) = true) (hY0 : fcmp .lss (ford .f32 (cls .f32 a) (some 0)) = false) :
    Calls Try.prog 24 #[.float .f32 a, .float .f32 b] w fun e w' => ∃ r R, e = .returned (.float .f32 r) ∧ Is .f32 r R ∧ angleResult (cls .f32 a) (cls .f32 b) R ∧ ∃ m, w' = w.drewN m := by
  have hf := angle_fits hy hx (cls_ok .f32 a) (cls_ok .f32 b) (.inr hZx)
  have e0 : angleW (fwide (cls .f32 a)) (fwide (cls .f32 b)) = (fop .sub .f64 (some 4602678819172646912) (eighthC (fop .quo .f64 (fabs (fwide (cls .f32 a))) (fabs (fwide (cls .f32 b)))))) := by
    simp only [angleW, tangentC, turnC, sideC, downC, ford_wide0 _ (cls_ok .f32 a), ford_wide0 _ (cls_ok .f32 b), hO, hX0, hY0, if_true, Bool.false_eq_true, if_false]
  rw [e0] at hf
  have HF := (show Hid _ from hf)
  have HR : Hid (angleResult (cls .f32 a) (cls .f32 b) (fnar (fop .sub .f64 (some 4602678819172646912) (eighthC (fop .quo .f64 (fabs (fwide (cls .f32 a))) (fabs (fwide (cls .f32 b)))))))) := .inr (.inr ⟨hy, hx, by rw [hZy, hZx]; rfl, by rw [e0]⟩)
  have h1 : Is .f32 a (cls .f32 a) := rfl
  have h2 : Is .f32 b (cls .f32 b) := rfl
  clear hf e0
  go_enter Try.func24, Try.ntmps24
  go_wp2_with (first | (refine wpList_fw rfl rfl Try.underlying22 Try.underlying26 rfl (by assumption) ?_; intro r n hr hrw; have hab := hr.abs) | (refine wpList_fa rfl rfl rfl rfl rfl (by first | assumption | exact is_const (by decide)) (by first | assumption | exact is_const (by decide)) ?_; intro r n hr hrw) | (refine wpList_fcmp rfl rfl rfl rfl rfl (by first | assumption | exact is_const (by decide)) (by first | assumption | exact is_const (by decide)) ?_; try simp only [hZy, hZx, hO, hX0, hY0]) | (go_at_call 41; refine (isFinite_any _ _).mono ?_; rintro e w' ⟨rfl, n, rfl⟩) | (go_at_call 35; refine (notANumber_any _).mono ?_; rintro e w' ⟨rfl, rfl⟩) | (go_at_call 30; refine (abs_any _ (by assumption) _).mono ?_; rintro e w' ⟨rfl, rfl⟩) | (go_at_call 46; refine (eighth_any _ _ (by assumption) _).mono ?_; rintro e w' ⟨r, rfl, hr, n, rfl⟩) | (refine wpList_fn rfl rfl Try.underlying26 Try.underlying22 rfl (by first | assumption | exact Is.neg (by assumption)) HF.out ?_; intro r3 m3 hr3 hrw3))
  go_ret
  exact ⟨_, _, rfl, hr3, HR.out, _, rfl⟩
set_option maxHeartbeats 1000000 in
theorem angleTurns_ttff (a b : Nat) (w : World) (hy : fin32 (cls .f32 a) = true) (hx : fin32 (cls .f32 b) = true) (hZy : fcmp .eql (ford .f32 (cls .f32 a) (some 0)) = true) (hZx : fcmp .eql (ford .f32 (cls .f32 b) (some 0)) = false)
    (hO : fcmp .gtr (ford .f64 (fabs (fwide (cls .f32 a))) (fabs (fwide (cls .f32 b)))) = true) (hX0 : fcmp .lss (ford .f32 (cls .f32 b) (some 0)) = false) (hY0 : fcmp .lss (ford .f32 (cls .f32 a) (some 0)) = false) :
    Calls Try.prog 24 #[.float .f32 a, .float .f32 b] w fun e w' => ∃ r R, e = .returned (.float .f32 r) ∧ Is .f32 r R ∧ angleResult (cls .f32 a) (cls .f32 b) R ∧ ∃ m, w' = w.drewN m := by
  have hf := angle_fits hy hx (cls_ok .f32 a) (cls_ok .f32 b) (.inr hZx)
  have e0 : angleW (fwide (cls .f32 a)) (fwide (cls .f32 b)) = (fop .sub .f64 (some 4598175219545276416) (eighthC (fop .quo .f64 (fabs (fwide (cls .f32 b))) (fabs (fwide (cls .f32 a)))))) := by
    simp only [angleW, tangentC, turnC, sideC, downC, ford_wide0 _ (cls_ok .f32 a), ford_wide0 _ (cls_ok .f32 b), hO, hX0, hY0, if_true, Bool.false_eq_true, if_false]
  rw [e0] at hf
  have HF := (show Hid _ from hf)
  have HR : Hid (angleResult (cls .f32 a) (cls .f32 b) (fnar (fop .sub .f64 (some 4598175219545276416) (eighthC (fop .quo .f64 (fabs (fwide (cls .f32 b))) (fabs (fwide (cls .f32 a)))))))) := .inr (.inr ⟨hy, hx, by rw [hZy, hZx]; rfl, by rw [e0]⟩)
  have h1 : Is .f32 a (cls .f32 a) := rfl
  have h2 : Is .f32 b (cls .f32 b) := rfl
  clear hf e0
  go_enter Try.func24, Try.ntmps24
  go_wp2_with (first | (refine wpList_fw rfl rfl Try.underlying22 Try.underlying26 rfl (by assumption) ?_; intro r n hr hrw; have hab := hr.abs) | (refine wpList_fa rfl rfl rfl rfl rfl (by first | assumption | exact is_const (by decide)) (by first | assumption | exact is_const (by decide)) ?_; intro r n hr hrw) | (refine wpList_fcmp rfl rfl rfl rfl rfl (by first | assumption | exact is_const (by decide)) (by first | assumption | exact is_const (by decide)) ?_; try simp only [hZy, hZx, hO, hX0, hY0]) | (go_at_call 41; refine (isFinite_any _ _).mono ?_; rintro e w' ⟨rfl, n, rfl⟩) | (go_at_call 35; refine (notANumber_any _).mono ?_; rintro e w' ⟨rfl, rfl⟩) | (go_at_call 30; refine (abs_any _ (by assumption) _).mono ?_; rintro e w' ⟨rfl, rfl⟩) | (go_at_call 46; refine (eighth_any _ _ (by assumption) _).mono ?_; rintro e w' ⟨r, rfl, hr, n, rfl⟩) | (refine wpList_fn rfl rfl Try.underlying26 Try.underlying22 rfl (by first | assumption | exact Is.neg (by assumption)) HF.out ?_; intro r3 m3 hr3 hrw3))
  go_ret
  exact ⟨_, _, rfl, hr3, HR.out, _, rfl⟩
set_option maxHeartbeats 1000000 in
theorem angleTurns_tttf (a b : Nat) (w : World) (hy : fin32 (cls .f32 a) = true) (hx : fin32 (cls .f32 b) = true) (hZy : fcmp .eql (ford .f32 (cls .f32 a) (some 0)) = true) (hZx : fcmp .eql (ford .f32 (cls .f32 b) (some 0)) = false)
    (hO : fcmp .gtr (ford .f64 (fabs (fwide (cls .f32 a))) (fabs (fwide (cls .f32 b)))) = true) (hX0 : fcmp .lss (ford .f32 (cls .f32 b) (some 0)) = true) (hY0 : fcmp .lss (ford .f32 (cls .f32 a) (some 0)) = false) :
    Calls Try.prog 24 #[.float .f32 a, .float .f32 b] w fun e w' => ∃ r R, e = .returned (.float .f32 r) ∧ Is .f32 r R ∧ angleResult (cls .f32 a) (cls .f32 b) R ∧ ∃ m, w' = w.drewN m := by
  have hf := angle_fits hy hx (cls_ok .f32 a) (cls_ok .f32 b) (.inr hZx)
  have e0 : angleW (fwide (cls .f32 a)) (fwide (cls .f32 b)) = (fop .sub .f64 (some 4602678819172646912) (fop .sub .f64 (some 4598175219545276416) (eighthC (fop .quo .f64 (fabs (fwide (cls .f32 b))) (fabs (fwide (cls .f32 a))))))) := by
    simp only [angleW, tangentC, turnC, sideC, downC, ford_wide0 _ (cls_ok .f32 a), ford_wide0 _ (cls_ok .f32 b), hO, hX0, hY0, if_true, Bool.false_eq_true, if_false]
  rw [e0] at hf
  have HF := (show Hid _ from hf)
  have HR : Hid (angleResult (cls .f32 a) (cls .f32 b) (fnar (fop .sub .f64 (some 4602678819172646912) (fop .sub .f64 (some 4598175219545276416) (eighthC (fop .quo .f64 (fabs (fwide (cls .f32 b))) (fabs (fwide (cls .f32 a))))))))) := .inr (.inr ⟨hy, hx, by rw [hZy, hZx]; rfl, by rw [e0]⟩)
  have h1 : Is .f32 a (cls .f32 a) := rfl
  have h2 : Is .f32 b (cls .f32 b) := rfl
  clear hf e0
  go_enter Try.func24, Try.ntmps24
  go_wp2_with (first | (refine wpList_fw rfl rfl Try.underlying22 Try.underlying26 rfl (by assumption) ?_; intro r n hr hrw; have hab := hr.abs) | (refine wpList_fa rfl rfl rfl rfl rfl (by first | assumption | exact is_const (by decide)) (by first | assumption | exact is_const (by decide)) ?_; intro r n hr hrw) | (refine wpList_fcmp rfl rfl rfl rfl rfl (by first | assumption | exact is_const (by decide)) (by first | assumption | exact is_const (by decide)) ?_; try simp only [hZy, hZx, hO, hX0, hY0]) | (go_at_call 41; refine (isFinite_any _ _).mono ?_; rintro e w' ⟨rfl, n, rfl⟩) | (go_at_call 35; refine (notANumber_any _).mono ?_; rintro e w' ⟨rfl, rfl⟩) | (go_at_call 30; refine (abs_any _ (by assumption) _).mono ?_; rintro e w' ⟨rfl, rfl⟩) | (go_at_call 46; refine (eighth_any _ _ (by assumption) _).mono ?_; rintro e w' ⟨r, rfl, hr, n, rfl⟩) | (refine wpList_fn rfl rfl Try.underlying26 Try.underlying22 rfl (by first | assumption | exact Is.neg (by assumption)) HF.out ?_; intro r3 m3 hr3 hrw3))
  go_ret
  exact ⟨_, _, rfl, hr3, HR.out, _, rfl⟩
theorem angleTurns_any (a b : Nat) (w : World) : Calls Try.prog 24 #[.float .f32 a, .float .f32 b] w fun e w' => ∃ r R, e = .returned (.float .f32 r) ∧ Is .f32 r R ∧ angleResult (cls .f32 a) (cls .f32 b) R ∧ ∃ m, w' = w.drewN m := by
  cases hy : fin32 (cls .f32 a) with
  | false => exact angleTurns_wild a b w (by rw [hy]; rfl)
  | true =>
  cases hx : fin32 (cls .f32 b) with
  | false => exact angleTurns_wild a b w (by rw [hy, hx]; rfl)
  | true =>
  cases hZy : fcmp .eql (ford .f32 (cls .f32 a) (some 0)) with
  | false =>
    cases hO : fcmp .gtr (ford .f64 (fabs (fwide (cls .f32 a))) (fabs (fwide (cls .f32 b)))) <;> cases hX0 : fcmp .lss (ford .f32 (cls .f32 b) (some 0)) <;> cases hY0 : fcmp .lss (ford .f32 (cls .f32 a) (some 0))
    · exact angleTurns_ffff a b w hy hx hZy hO hX0 hY0
    · exact angleTurns_ffft a b w hy hx hZy hO hX0 hY0
    · exact angleTurns_fftf a b w hy hx hZy hO hX0 hY0
    · exact angleTurns_fftt a b w hy hx hZy hO hX0 hY0
    · exact angleTurns_ftff a b w hy hx hZy hO hX0 hY0
    · exact angleTurns_ftft a b w hy hx hZy hO hX0 hY0
    · exact angleTurns_fttf a b w hy hx hZy hO hX0 hY0
    · exact angleTurns_fttt a b w hy hx hZy hO hX0 hY0
  | true =>
    cases hZx : fcmp .eql (ford .f32 (cls .f32 b) (some 0)) with
    | true => exact angleTurns_zero a b w hy hx hZy hZx
    | false =>
      have hY0 := lss_of_eql hZy
      cases hO : fcmp .gtr (ford .f64 (fabs (fwide (cls .f32 a))) (fabs (fwide (cls .f32 b)))) <;> cases hX0 : fcmp .lss (ford .f32 (cls .f32 b) (some 0))
      · exact angleTurns_tfff a b w hy hx hZy hZx hO hX0 hY0
      · exact angleTurns_tftf a b w hy hx hZy hZx hO hX0 hY0
      · exact angleTurns_ttff a b w hy hx hZy hZx hO hX0 hY0
      · exact angleTurns_tttf a b w hy hx hZy hZx hO hX0 hY0
theorem l01Angle_any (a b : Nat) (w : World) : Calls Try.prog 45 #[.float .f32 a, .float .f32 b] w fun e w' => ∃ r R, e = .returned (.float .f32 r) ∧ Is .f32 r R ∧ angleResult (cls .f32 a) (cls .f32 b) R ∧ ∃ m, w' = w.drewN m := by
  have h1 : Is .f32 a (cls .f32 a) := rfl
  have h2 : Is .f32 b (cls .f32 b) := rfl
  cases hfin : (fin32 (cls .f32 a) && fin32 (cls .f32 b)) with
  | false =>
    have HR : Hid (angleResult (cls .f32 a) (cls .f32 b) (fnar none)) := .inl ⟨hfin, rfl⟩
    have HF : Hid (fits none) := fits_none
    have HN : Hid (fcmp .neq (ford .f64 (fop .sub .f64 (fwide (cls .f32 a)) (fwide (cls .f32 a))) (some 0)) = true ∨ fcmp .neq (ford .f64 (fop .sub .f64 (fwide (cls .f32 b)) (fwide (cls .f32 b))) (some 0)) = true) := by
      cases hy : fin32 (cls .f32 a) with
      | false => exact .inl (wide_wild hy (cls_ok .f32 a))
      | true => exact .inr (wide_wild (by rw [hy] at hfin; simpa using hfin) (cls_ok .f32 b))
    clear hfin
    go_enter Try.func45, Try.ntmps45
    go_wp2_with (first | (refine wpList_fw rfl rfl Try.underlying22 Try.underlying26 rfl (by assumption) ?_; intro r n hr hrw) | (go_at_call 64; refine (angleWide_wild _ _ _ _ (by assumption) (by assumption) HN.out _).mono ?_; rintro e w' ⟨r2, rfl, hr2, m2, rfl⟩) | (go_at_call 54; refine (narrow_any _ _ (by assumption) HF _).mono ?_; rintro e w' ⟨r3, rfl, hr3, m3, rfl⟩))
    go_ret
    exact ⟨_, _, rfl, hr3, HR.out, _, rfl⟩
  | true =>
    obtain ⟨hy, hx⟩ : fin32 (cls .f32 a) = true ∧ fin32 (cls .f32 b) = true := by simpa using hfin
    have n1 := wide_fin hy (cls_ok .f32 a)
    have n2 := wide_fin hx (cls_ok .f32 b)
    have ey := ford_wide0 _ (cls_ok .f32 a)
    have ex := ford_wide0 _ (cls_ok .f32 b)
    cases hz : (fcmp .eql (ford .f32 (cls .f32 a) (some 0)) && fcmp .eql (ford .f32 (cls .f32 b) (some 0))) with
    | true =>
      obtain ⟨z1, z2⟩ : fcmp .eql (ford .f32 (cls .f32 a) (some 0)) = true ∧ fcmp .eql (ford .f32 (cls .f32 b) (some 0)) = true := by simpa using hz
      rw [← ey] at z1
      rw [← ex] at z2
      have e0 : fnar (some 0) = some 0 := by decide
      have HR : Hid (angleResult (cls .f32 a) (cls .f32 b) (fnar (some 0))) := .inr (.inl ⟨hy, hx, hz, e0⟩)
      have HF : Hid (fits (some 0)) := fits_of_mag (e := 0) ⟨0, false, 0, -1074, rfl, by decide, by omega, .inl rfl⟩ (by omega)
      clear hz hfin hy hx ey ex e0
      go_enter Try.func45, Try.ntmps45
      go_wp2_with (first | (refine wpList_fw rfl rfl Try.underlying22 Try.underlying26 rfl (by assumption) ?_; intro r n hr hrw) | (go_at_call 64; refine (angleWide_zero _ _ _ _ (by assumption) (by assumption) n1 n2 z2 z1 _).mono ?_; rintro e w' ⟨r2, rfl, hr2, m2, rfl⟩) | (go_at_call 54; refine (narrow_any _ _ (by assumption) HF _).mono ?_; rintro e w' ⟨r3, rfl, hr3, m3, rfl⟩))
      go_ret
      exact ⟨_, _, rfl, hr3, HR.out, _, rfl⟩
    | false =>
      have hz' : fcmp .eql (ford .f32 (cls .f32 a) (some 0)) = false ∨ fcmp .eql (ford .f32 (cls .f32 b) (some 0)) = false := Bool.and_eq_false_iff.mp hz
      have HF : Hid (fits (angleW (fwide (cls .f32 a)) (fwide (cls .f32 b)))) := angle_fits hy hx (cls_ok .f32 a) (cls_ok .f32 b) hz'
      have HR : Hid (angleResult (cls .f32 a) (cls .f32 b) (fnar (angleW (fwide (cls .f32 a)) (fwide (cls .f32 b))))) := .inr (.inr ⟨hy, hx, hz, rfl⟩)
      have HZ : Hid (fcmp .eql (ford .f64 (fwide (cls .f32 b)) (some 0)) = false ∨ fcmp .eql (ford .f64 (fwide (cls .f32 a)) (some 0)) = false) := by rw [ey, ex]; exact hz'.symm
      clear hz hz' hfin hy hx ey ex
      go_enter Try.func45, Try.ntmps45
      go_wp2_with (first | (refine wpList_fw rfl rfl Try.underlying22 Try.underlying26 rfl (by assumption) ?_; intro r n hr hrw) | (go_at_call 64; refine (angleWide_any _ _ _ _ (by assumption) (by assumption) (by assumption) (by assumption) n1 n2 HZ.out _).mono ?_; rintro e w' ⟨r2, rfl, hr2, m2, rfl⟩) | (go_at_call 54; refine (narrow_any _ _ (by assumption) HF _).mono ?_; rintro e w' ⟨r3, rfl, hr3, m3, rfl⟩))
      go_ret
      exact ⟨_, _, rfl, hr3, HR.out, _, rfl⟩
theorem sAngle_any (a b : Nat) (w : World) : Calls Try.prog 23 #[.float .f32 a, .float .f32 b] w fun e w' => ∃ r R, e = .returned (.float .f32 r) ∧ Is .f32 r R ∧ angleResult (cls .f32 a) (cls .f32 b) R ∧ ∃ m, w' = w.drewN m := by
  go_enter Try.func23, Try.ntmps23
  go_wp2_with (go_at_call 45; refine (l01Angle_any _ _ _).mono ?_; rintro e w' ⟨r, X, rfl, hr, hs, n, rfl⟩; have HS := (show Hid _ from hs); clear hs)
  go_ret
  exact ⟨r, X, rfl, hr, HS.out, _, rfl⟩
theorem FnExactAngleTurns_walk (a0 : Nat) (a1 : Nat) (w : World) (_w0 : (Lit.float .f32 a0).wf = true) (_w1 : (Lit.float .f32 a1).wf = true) :
    Calls Try.prog 8 #[.float .f32 a0, .float .f32 a1] w fun e w' => e = .returned (.bool true) ∧ Below w.heap.size w w' := by
  go_enter Try.func8, Try.ntmps8
  go_wp2_with (first | (go_at_call 23; refine (sAngle_any _ _ _).mono ?_; rintro e w' ⟨r1, X1, rfl, hr1, hs1, n, rfl⟩; have HS1 := (show Hid _ from hs1); clear hs1) | (go_at_call 24; refine (angleTurns_any _ _ _).mono ?_; rintro e w' ⟨r2, X2, rfl, hr2, hs2, n, rfl⟩; obtain rfl := angle_one HS1.out hs2; clear hs2) | (refine wpList_fw rfl rfl Try.underlying22 Try.underlying26 rfl (by assumption) ?_; intro r n hr hrw) | (go_at_call 15; refine (sameFloat_is _ _ _ (by assumption) (by assumption) _).mono ?_; rintro e w' ⟨rfl, n, rfl⟩))
  go_ret
  exact ⟨rfl, below_drewN0 (Below.refl _ _) _⟩
end Go.Proofs.Ytlgamkbonpjchab
