/- The logarithm: the law. -/
import Derived.Test.YtlgamkbonpjchabLog2
namespace Go.Proofs.Ytlgamkbonpjchab
open Go.RowKit Flt

theorem l01Log_of (a : Nat) (R : Option Nat) (hf : fits R) (HW : ∀ r w, Is .f64 r (fwide (cls .f32 a)) → Calls Try.prog 61 #[.float .f64 r] w fun e w' => ∃ r2, e = .returned (.float .f64 r2) ∧ Is .f64 r2 R ∧ ∃ m, w' = w.drewN m) (w : World) :
    Calls Try.prog 50 #[.float .f32 a] w fun e w' => ∃ r, e = .returned (.float .f32 r) ∧ Is .f32 r (fnar R) ∧ ∃ m, w' = w.drewN m := by
  have h0 : Is .f32 a (cls .f32 a) := rfl
  have HF : Hid (fits R) := hf
  go_enter Try.func50, Try.ntmps50
  go_wp2_with (first | (refine wpList_fw rfl rfl Try.underlying22 Try.underlying26 rfl (by assumption) ?_; intro r n hr hrw) | (go_at_call 61; refine (HW _ _ (by assumption)).mono ?_; rintro e w' ⟨r2, rfl, hr2, m2, rfl⟩) | (go_at_call 54; refine (narrow_any _ _ (by assumption) HF _).mono ?_; rintro e w' ⟨r3, rfl, hr3, m3, rfl⟩))
  go_ret
  exact ⟨_, rfl, hr3, _, rfl⟩
theorem sLog_of (a : Nat) (R : Option Nat) (hf : fits R) (HW : ∀ r w, Is .f64 r (fwide (cls .f32 a)) → Calls Try.prog 61 #[.float .f64 r] w fun e w' => ∃ r2, e = .returned (.float .f64 r2) ∧ Is .f64 r2 R ∧ ∃ m, w' = w.drewN m) (w : World) :
    Calls Try.prog 27 #[.float .f32 a] w fun e w' => ∃ r, e = .returned (.float .f32 r) ∧ Is .f32 r (fnar R) ∧ ∃ m, w' = w.drewN m := by
  go_enter Try.func27, Try.ntmps27
  go_wp2_with (go_at_call 50; refine (l01Log_of a R hf HW _).mono ?_; rintro e w' ⟨r2, rfl, hr2, m2, rfl⟩)
  go_ret
  exact ⟨_, rfl, hr2, _, rfl⟩
theorem log_nan (a : Nat) (h : (cls .f32 a).isNone = true ∨ fcmp .lss (ford .f32 (cls .f32 a) (some 0)) = true) (w : World) : Calls Try.prog 28 #[.float .f32 a] w fun e w' => ∃ r, e = .returned (.float .f32 r) ∧ Is .f32 r none ∧ ∃ m, w' = w.drewN m := by
  have h0 : Is .f32 a (cls .f32 a) := rfl
  cases hN : (cls .f32 a).isNone with
  | true =>
    go_enter Try.func28, Try.ntmps28
    go_wp2_with (first | (go_at_call 48; refine (isNaN_any _ _).mono ?_; rintro e w' ⟨rfl, n, rfl⟩) | (go_at_call 35; refine (notANumber_any _).mono ?_; rintro e w' ⟨rfl, rfl⟩) | (refine wpList_fcmp rfl rfl rfl rfl rfl (by first | assumption | exact is_const (by decide)) (by first | assumption | exact is_const (by decide)) ?_; try simp only [hN]))
    go_ret
    exact ⟨_, rfl, is_nan32, _, rfl⟩
  | false =>
    have hL : fcmp .lss (ford .f32 (cls .f32 a) (some 0)) = true := by rw [hN] at h; simpa using h
    clear h
    go_enter Try.func28, Try.ntmps28
    go_wp2_with (first | (go_at_call 48; refine (isNaN_any _ _).mono ?_; rintro e w' ⟨rfl, n, rfl⟩) | (go_at_call 35; refine (notANumber_any _).mono ?_; rintro e w' ⟨rfl, rfl⟩) | (refine wpList_fcmp rfl rfl rfl rfl rfl (by first | assumption | exact is_const (by decide)) (by first | assumption | exact is_const (by decide)) ?_; try simp only [hL]))
    go_ret
    exact ⟨_, rfl, is_nan32, _, rfl⟩
theorem log_zero (a : Nat) (hN : (cls .f32 a).isNone = false) (hL : fcmp .lss (ford .f32 (cls .f32 a) (some 0)) = false) (hE : fcmp .eql (ford .f32 (cls .f32 a) (some 0)) = true) (w : World) : Calls Try.prog 28 #[.float .f32 a] w fun e w' => ∃ r, e = .returned (.float .f32 r) ∧ Is .f32 r (fnar (some 18442240474082181120)) ∧ ∃ m, w' = w.drewN m := by
  have h0 : Is .f32 a (cls .f32 a) := rfl
  have HF : Hid (fits (some 18442240474082181120)) := fun b hb => by cases hb; exact .inl ⟨true, by decide⟩
  go_enter Try.func28, Try.ntmps28
  go_wp2_with (first | (go_at_call 48; refine (isNaN_any _ _).mono ?_; rintro e w' ⟨rfl, n, rfl⟩) | (go_at_call 49; refine (mathInf_neg _).mono ?_; rintro e w' ⟨rfl, rfl⟩) | (refine wpList_fn rfl rfl Try.underlying26 Try.underlying22 rfl (by first | assumption | exact is_const (by decide)) HF.out ?_; intro r n hr hrw) | (refine wpList_fcmp rfl rfl rfl rfl rfl (by first | assumption | exact is_const (by decide)) (by first | assumption | exact is_const (by decide)) ?_; try simp only [hL, hE]))
  go_ret
  exact ⟨_, rfl, hr, _, rfl⟩
theorem log_inf (a : Nat) (hN : (cls .f32 a).isNone = false) (hL : fcmp .lss (ford .f32 (cls .f32 a) (some 0)) = false) (hE : fcmp .eql (ford .f32 (cls .f32 a) (some 0)) = false) (hI : fin32 (cls .f32 a) = false) (w : World) : Calls Try.prog 28 #[.float .f32 a] w fun e w' => ∃ r, e = .returned (.float .f32 r) ∧ Is .f32 r (cls .f32 a) ∧ ∃ m, w' = w.drewN m := by
  have h0 : Is .f32 a (cls .f32 a) := rfl
  go_enter Try.func28, Try.ntmps28
  go_wp2_with (first | (go_at_call 48; refine (isNaN_any _ _).mono ?_; rintro e w' ⟨rfl, n, rfl⟩) | (go_at_call 41; refine (isFinite_any _ _).mono ?_; rintro e w' ⟨rfl, n, rfl⟩) | (refine wpList_fcmp rfl rfl rfl rfl rfl (by first | assumption | exact is_const (by decide)) (by first | assumption | exact is_const (by decide)) ?_; try simp only [hL, hE]))
  go_ret
  exact ⟨_, rfl, h0, _, rfl⟩
theorem log_pos (a N M : Nat) (hN : N ≤ 200) (hM : M ≤ 200) (HST : Hid (stops (fwide (cls .f32 a)) N M)) (HF : Hid (fits (logC (fwide (cls .f32 a)) N M))) (hNo : (cls .f32 a).isNone = false) (hL : fcmp .lss (ford .f32 (cls .f32 a) (some 0)) = false) (hE : fcmp .eql (ford .f32 (cls .f32 a) (some 0)) = false) (hI : fin32 (cls .f32 a) = true) (w : World) :
    Calls Try.prog 28 #[.float .f32 a] w fun e w' => ∃ r, e = .returned (.float .f32 r) ∧ Is .f32 r (fnar (logC (fwide (cls .f32 a)) N M)) ∧ ∃ m, w' = w.drewN m := by
  have h0 : Is .f32 a (cls .f32 a) := rfl
  go_enter Try.func28, Try.ntmps28
  go_wp2_with (first | (go_at_call 48; refine (isNaN_any _ _).mono ?_; rintro e w' ⟨rfl, n, rfl⟩) | (go_at_call 41; refine (isFinite_any _ _).mono ?_; rintro e w' ⟨rfl, n, rfl⟩) | (refine wpList_fw rfl rfl Try.underlying22 Try.underlying26 rfl (by assumption) ?_; intro r n hr hrw) | (go_at_call 42; refine (wideLog_any _ _ N M (by assumption) HST hN hM _).mono ?_; rintro e w' ⟨r2, rfl, hr2, m2, rfl⟩) | (refine wpList_fn rfl rfl Try.underlying26 Try.underlying22 rfl (by first | assumption | exact is_const (by decide)) HF.out ?_; intro r n hr hrw) | (refine wpList_fcmp rfl rfl rfl rfl rfl (by first | assumption | exact is_const (by decide)) (by first | assumption | exact is_const (by decide)) ?_; try simp only [hL, hE]))
  go_ret
  exact ⟨_, rfl, hr, _, rfl⟩
theorem log_both (a : Nat) (ha : a < 4294967296) : ∃ R, (∀ w, Calls Try.prog 28 #[.float .f32 a] w fun e w' => ∃ r, e = .returned (.float .f32 r) ∧ Is .f32 r R ∧ ∃ m, w' = w.drewN m) ∧
    (∀ w, Calls Try.prog 27 #[.float .f32 a] w fun e w' => ∃ r, e = .returned (.float .f32 r) ∧ Is .f32 r R ∧ ∃ m, w' = w.drewN m) := by
  have ef := ford_wide0 (cls .f32 a) (cls_ok .f32 a)
  have hn : Is .f64 9221120237041090561 none := by show cls .f64 9221120237041090561 = none; decide
  have wild : (cls .f32 a).isNone = true ∨ fcmp .lss (ford .f32 (cls .f32 a) (some 0)) = true → ∃ R, (∀ w, Calls Try.prog 28 #[.float .f32 a] w fun e w' => ∃ r, e = .returned (.float .f32 r) ∧ Is .f32 r R ∧ ∃ m, w' = w.drewN m) ∧
    (∀ w, Calls Try.prog 27 #[.float .f32 a] w fun e w' => ∃ r, e = .returned (.float .f32 r) ∧ Is .f32 r R ∧ ∃ m, w' = w.drewN m) := fun h => by
    refine ⟨none, log_nan a h, sLog_of a none fits_none fun r w hr => ?_⟩
    refine (l01LogWide_nan r _ hr ?_ w).mono fun e w' hh => ?_
    · rcases h with h | h
      · left
        have e1 : cls .f32 a = none := by simpa using h
        rw [e1]; rfl
      · right; rw [ef]; exact h
    · obtain ⟨rfl, rfl⟩ := hh
      exact ⟨_, rfl, hn, 0, rfl⟩
  cases hN : (cls .f32 a).isNone with
  | true => exact wild (.inl hN)
  | false =>
    cases hL : fcmp .lss (ford .f32 (cls .f32 a) (some 0)) with
    | true => exact wild (.inr hL)
    | false =>
      clear wild
      cases hI : fin32 (cls .f32 a) with
      | false =>
        have hb : ∃ b, cls .f32 a = some b ∧ b = a := by
          unfold cls at hN ⊢
          cases hw : nanW .f32 a with
          | true => rw [hw] at hN; cases hN
          | false => exact ⟨a, by simp, rfl⟩
        obtain ⟨b, hb, rfl⟩ := hb
        rw [hb] at hI
        have hinf : ∃ s, FloatKind.f32.format.read b = .infinity s := by
          cases hr : FloatKind.f32.format.read b with
          | infinity s => exact ⟨s, rfl⟩
          | number s m i => simp [fin32, hr, Ieee.Datum.isInfinity] at hI
          | nan s t => simp [fin32, hr, Ieee.Datum.isInfinity] at hI
        obtain ⟨s, hs⟩ := hinf
        rcases inf_word b ha s hs with rfl | rfl
        · refine ⟨_, log_inf _ hN hL (by decide) (by decide), ?_⟩
          have e : cls .f32 2139095040 = fnar (fwide (cls .f32 2139095040)) := by decide
          rw [e]
          refine sLog_of _ _ (fun c hc => ?_) fun r w hr => ?_
          · have e2 : fwide (cls .f32 2139095040) = some 9218868437227405312 := by decide
            rw [e2] at hc; cases hc; exact .inl ⟨false, by decide⟩
          · refine (l01LogWide_inf r _ hr (by decide) (by decide) (by decide) (by decide) w).mono fun e w' hh => ?_
            obtain ⟨rfl, rfl⟩ := hh
            exact ⟨_, rfl, hr, 0, rfl⟩
        · exfalso; revert hL; decide
      | true =>
        have hnum := isNum_wide hI (cls_ok .f32 a)
        have hself := self_eq hnum
        cases hE : fcmp .eql (ford .f32 (cls .f32 a) (some 0)) with
        | true =>
          refine ⟨_, log_zero a hN hL hE, sLog_of a _ (fun b hb => by cases hb; exact .inl ⟨true, by decide⟩) fun r w hr => ?_⟩
          refine (l01LogWide_zero r _ hr hself (by rw [ef]; exact hL) (by rw [ef]; exact hE) w).mono fun e w' hh => ?_
          obtain ⟨rfl, rfl⟩ := hh
          exact ⟨_, rfl, is_const (by decide), 0, rfl⟩
        | false =>
          have hrg := pos_rg hI (cls_ok .f32 a) (by rw [ef]; exact hL) (by rw [ef]; exact hE)
          obtain ⟨N, M, h1, h2, h3, h4⟩ := stops_ex _ hrg
          have hfit : fits (logC (fwide (cls .f32 a)) N M) := fits_of_mag (mag_logTail h4 _ (by omega)) (by omega)
          refine ⟨_, log_pos a N M h1 (by omega) h3 hfit hN hL hE hI, sLog_of a _ hfit fun r w hr => ?_⟩
          exact l01LogWide_any r _ N M hr h3 h1 (by omega) hself (by rw [ef]; exact hL) (by rw [ef]; exact hE) (rg_max hrg) w
theorem FnExactLogNumber_walk (a0 : Nat) (w : World) (w0 : (Lit.float .f32 a0).wf = true) :
    Calls Try.prog 10 #[.float .f32 a0] w fun e w' => e = .returned (.bool true) ∧ Below w.heap.size w w' := by
  have ha : a0 < 4294967296 := by simpa [Lit.wf] using w0
  obtain ⟨R, HI, HS⟩ := log_both a0 ha
  go_enter Try.func10, Try.ntmps10
  go_wp2_with (first | (go_at_call 27; refine (HS _).mono ?_; rintro e w' ⟨r1, rfl, hr1, m1, rfl⟩) | (go_at_call 28; refine (HI _).mono ?_; rintro e w' ⟨r2, rfl, hr2, m2, rfl⟩) | (refine wpList_fw rfl rfl Try.underlying22 Try.underlying26 rfl (by assumption) ?_; intro r n hr hrw) | (go_at_call 15; refine (sameFloat_is _ _ _ (by assumption) (by assumption) _).mono ?_; rintro e w' ⟨rfl, n, rfl⟩))
  go_ret
  exact ⟨rfl, below_drewN0 (Below.refl _ _) _⟩
end Go.Proofs.Ytlgamkbonpjchab
