/- The logarithm: the law. -/
import Derived.Test.YtlgamkbonpjchacLog2
namespace Go.Proofs.Ytlgamkbonpjchac
open Go.RowKit Flt

theorem log_nan (a : Nat) (h : (cls .f32 a).isNone = true ∨ fcmp .lss (ford .f32 (cls .f32 a) (some 0)) = true) (w : World) : Calls Try.prog 36 #[.float .f32 a] w fun e w' => ∃ r, e = .returned (.float .f32 r) ∧ Is .f32 r none ∧ ∃ m, w' = w.drewN m := by
  have h0 : Is .f32 a (cls .f32 a) := rfl
  cases hN : (cls .f32 a).isNone with
  | true =>
    go_enter Try.func36, Try.ntmps36
    go_wp2_with (first | (go_at_call 62; refine (isNaN_any _ _).mono ?_; rintro e w' ⟨rfl, n, rfl⟩) | (go_at_call 51; refine (notANumber_any _).mono ?_; rintro e w' ⟨rfl, rfl⟩) | (refine wpList_fcmp rfl rfl rfl rfl rfl (by first | assumption | exact is_const (by decide)) (by first | assumption | exact is_const (by decide)) ?_; try simp only [hN]))
    go_ret
    exact ⟨_, rfl, is_nan32, _, rfl⟩
  | false =>
    have hL : fcmp .lss (ford .f32 (cls .f32 a) (some 0)) = true := by rw [hN] at h; simpa using h
    clear h
    go_enter Try.func36, Try.ntmps36
    go_wp2_with (first | (go_at_call 62; refine (isNaN_any _ _).mono ?_; rintro e w' ⟨rfl, n, rfl⟩) | (go_at_call 51; refine (notANumber_any _).mono ?_; rintro e w' ⟨rfl, rfl⟩) | (refine wpList_fcmp rfl rfl rfl rfl rfl (by first | assumption | exact is_const (by decide)) (by first | assumption | exact is_const (by decide)) ?_; try simp only [hL]))
    go_ret
    exact ⟨_, rfl, is_nan32, _, rfl⟩
theorem log_zero (a : Nat) (hN : (cls .f32 a).isNone = false) (hL : fcmp .lss (ford .f32 (cls .f32 a) (some 0)) = false) (hE : fcmp .eql (ford .f32 (cls .f32 a) (some 0)) = true) (w : World) : Calls Try.prog 36 #[.float .f32 a] w fun e w' => ∃ r, e = .returned (.float .f32 r) ∧ Is .f32 r (fnar (some 18442240474082181120)) ∧ ∃ m, w' = w.drewN m := by
  have h0 : Is .f32 a (cls .f32 a) := rfl
  have HF : Hid (fits (some 18442240474082181120)) := fun b hb => by cases hb; exact .inl ⟨true, by decide⟩
  go_enter Try.func36, Try.ntmps36
  go_wp2_with (first | (go_at_call 62; refine (isNaN_any _ _).mono ?_; rintro e w' ⟨rfl, n, rfl⟩) | (go_at_call 63; refine (mathInf_neg _).mono ?_; rintro e w' ⟨rfl, rfl⟩) | (refine wpList_fn rfl rfl Try.underlying28 Try.underlying23 rfl (by first | assumption | exact is_const (by decide)) HF.out ?_; intro r n hr hrw) | (refine wpList_fcmp rfl rfl rfl rfl rfl (by first | assumption | exact is_const (by decide)) (by first | assumption | exact is_const (by decide)) ?_; try simp only [hL, hE]))
  go_ret
  exact ⟨_, rfl, hr, _, rfl⟩
theorem log_inf (a : Nat) (hN : (cls .f32 a).isNone = false) (hL : fcmp .lss (ford .f32 (cls .f32 a) (some 0)) = false) (hE : fcmp .eql (ford .f32 (cls .f32 a) (some 0)) = false) (hI : fin32 (cls .f32 a) = false) (w : World) : Calls Try.prog 36 #[.float .f32 a] w fun e w' => ∃ r, e = .returned (.float .f32 r) ∧ Is .f32 r (cls .f32 a) ∧ ∃ m, w' = w.drewN m := by
  have h0 : Is .f32 a (cls .f32 a) := rfl
  go_enter Try.func36, Try.ntmps36
  go_wp2_with (first | (go_at_call 62; refine (isNaN_any _ _).mono ?_; rintro e w' ⟨rfl, n, rfl⟩) | (go_at_call 58; refine (isFinite_any _ _).mono ?_; rintro e w' ⟨rfl, n, rfl⟩) | (refine wpList_fcmp rfl rfl rfl rfl rfl (by first | assumption | exact is_const (by decide)) (by first | assumption | exact is_const (by decide)) ?_; try simp only [hL, hE]))
  go_ret
  exact ⟨_, rfl, h0, _, rfl⟩
theorem log_pos (a N M : Nat) (hN : N ≤ 200) (hM : M ≤ 200) (HST : Hid (stops (fwide (cls .f32 a)) N M)) (HF : Hid (fits (logC (fwide (cls .f32 a)) N M))) (hNo : (cls .f32 a).isNone = false) (hL : fcmp .lss (ford .f32 (cls .f32 a) (some 0)) = false) (hE : fcmp .eql (ford .f32 (cls .f32 a) (some 0)) = false) (hI : fin32 (cls .f32 a) = true) (w : World) :
    Calls Try.prog 36 #[.float .f32 a] w fun e w' => ∃ r, e = .returned (.float .f32 r) ∧ Is .f32 r (fnar (logC (fwide (cls .f32 a)) N M)) ∧ ∃ m, w' = w.drewN m := by
  have h0 : Is .f32 a (cls .f32 a) := rfl
  go_enter Try.func36, Try.ntmps36
  go_wp2_with (first | (go_at_call 62; refine (isNaN_any _ _).mono ?_; rintro e w' ⟨rfl, n, rfl⟩) | (go_at_call 58; refine (isFinite_any _ _).mono ?_; rintro e w' ⟨rfl, n, rfl⟩) | (refine wpList_fw rfl rfl Try.underlying23 Try.underlying28 rfl (by assumption) ?_; intro r n hr hrw) | (go_at_call 59; refine (wideLog_any _ _ N M (by assumption) HST hN hM _).mono ?_; rintro e w' ⟨r2, rfl, hr2, m2, rfl⟩) | (refine wpList_fn rfl rfl Try.underlying28 Try.underlying23 rfl (by first | assumption | exact is_const (by decide)) HF.out ?_; intro r n hr hrw) | (refine wpList_fcmp rfl rfl rfl rfl rfl (by first | assumption | exact is_const (by decide)) (by first | assumption | exact is_const (by decide)) ?_; try simp only [hL, hE]))
  go_ret
  exact ⟨_, rfl, hr, _, rfl⟩
end Go.Proofs.Ytlgamkbonpjchac
