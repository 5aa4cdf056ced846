/- The sine of a 32-bit number of turns. -/
import Derived.Test.YtpmjiabllmomjaaSineS
namespace Go.Proofs.Ytpmjiabllmomjaa
open Go.RowKit Flt

/-- the class of the sine -/
def sineResult (x : Option Nat) (r : Option Nat) : Prop :=
  (fin32 x = false ∧ r = none) ∨ (fin32 x = true ∧ fcmp .geq (ford .f64 (fabs (fwide x)) (some 4841369599423283200)) = true ∧ r = some 0) ∨
  (fin32 x = true ∧ fcmp .geq (ford .f64 (fabs (fwide x)) (some 4841369599423283200)) = false ∧ ∃ n : Int, (∀ b, fwide x = some b → floatToIntVal .f64 b .i64 = some n) ∧ r = fnar (sineC (fracC (fwide x) n)))

theorem conv_fact {b : Nat} {X : Option Nat} (hX : Is .f64 b X) (hs : ∃ c, X = some c) {n : Int} (h : ∀ c, X = some c → floatToIntVal .f64 c .i64 = some n) (w : World) :
    (convert 41 2 (.float .f64 b)).run Try.prog w = .ok (.int .i64 n) w := by
  obtain ⟨c, rfl⟩ := hs
  have e := cls_word hX.out
  subst e
  exact run_convert_float_int w 41 2 .f64 .i64 _ n (by rw [Try.underlying41]; rfl) Try.underlying2 (h _ rfl)

theorem notANumber_any (w : World) : Calls Try.prog 88 #[] w fun e w' => e = .returned (.float .f32 2143289344) ∧ w = w' := by
  go_enter Try.func88, Try.ntmps88
  go_wp2
  go_ret
  exact ⟨rfl, rfl⟩
theorem is_nan32 : Is .f32 2143289344 none := by show cls .f32 2143289344 = none; decide
theorem some_wide {x : Option Nat} (h : fin32 x = true) : ∃ c, fwide x = some c := by
  cases x with
  | none => cases h
  | some b => exact ⟨_, rfl⟩
set_option maxRecDepth 100000 in
theorem sineTurns_any (b : Nat) (w : World) : Calls Try.prog 80 #[.float .f32 b] w fun e w' => ∃ r X, e = .returned (.float .f32 r) ∧ Is .f32 r X ∧ sineResult (cls .f32 b) X ∧ ∃ m, w' = w.drewN m := by
  have h0 : Is .f32 b (cls .f32 b) := rfl
  have hfw := (show Hid _ from finW_wide b)
  rcases turns_wide (cls .f32 b) (cls_ok .f32 b) with ⟨hf, hN⟩ | ⟨hf, ht⟩
  · have HR : Hid (sineResult (cls .f32 b) none) := .inl ⟨hf, rfl⟩
    clear hN
    go_enter Try.func80, Try.ntmps80
    go_wp2_with (first | (refine wpList_fw rfl rfl Try.underlying33 Try.underlying41 rfl h0 ?_; intro r n hr hrw; have hfin := (hfw.out r hr.out).trans hf) | (go_at_call 83; refine (isFinite64_any _ (by assumption) _).mono ?_; rintro e w' ⟨rfl, rfl⟩) | (go_at_call 88; refine (notANumber_any _).mono ?_; rintro e w' ⟨rfl, rfl⟩))
    go_ret
    exact ⟨_, none, rfl, is_nan32, HR.out, _, rfl⟩
  · cases ht with
    | wild h =>
      exfalso
      cases hx : cls .f32 b with
      | none => rw [hx] at hf; cases hf
      | some c =>
        rw [hx] at h hf
        rcases wide_read c (cls_ok .f32 b c hx) with ⟨s, h1, h2⟩ | ⟨s, m, e, m', e', h1, h2, _⟩
        · simp only [fin32, h1] at hf; cases hf
        · have := sub_self64 _ s m' e' h2
          rw [show fwide (some c) = some (wide c) from rfl] at h
          rw [this] at h; cases h
    | great h1 h2 h3 =>
      have HR : Hid (sineResult (cls .f32 b) (some 0)) := .inr (.inl ⟨hf, h2, rfl⟩)
      clear h1 h3
      go_enter Try.func80, Try.ntmps80
      go_wp2_with (first | (refine wpList_fw rfl rfl Try.underlying33 Try.underlying41 rfl h0 ?_; intro r n hr hrw; have hfin := (hfw.out r hr.out).trans hf; have hab := hr.abs) | (go_at_call 83; refine (isFinite64_any _ (by assumption) _).mono ?_; rintro e w' ⟨rfl, rfl⟩) | (go_at_call 89; refine (abs_any _ (by assumption) _).mono ?_; rintro e w' ⟨rfl, rfl⟩) | (refine wpList_fcmp rfl rfl rfl rfl rfl (by assumption) (is_const (by decide)) ?_; simp only [h2]))
      go_ret
      exact ⟨_, some 0, rfl, is_const (by decide), HR.out, _, rfl⟩
    | small h1 h2 h3 h4 n h5 h6 =>
      have HR : Hid (sineResult (cls .f32 b) (fnar (sineC (fracC (fwide (cls .f32 b)) n)))) := .inr (.inr ⟨hf, h2, n, h5, rfl⟩)
      have HF : Hid (fits (sineC (fracC (fwide (cls .f32 b)) n))) := fits_of_mag (mag_sine (mag_frac h6)) (by omega)
      have H5 := (show Hid _ from h5)
      have HS := (show Hid _ from some_wide hf)
      clear h1 h3 h4 h6 h5
      go_enter Try.func80, Try.ntmps80
      go_wp2_with (first | (refine wpList_fw rfl rfl Try.underlying33 Try.underlying41 rfl h0 ?_; intro r m hr hrw; have hfin := (hfw.out r hr.out).trans hf; have hab := hr.abs) | (go_at_call 83; refine (isFinite64_any _ (by assumption) _).mono ?_; rintro e w' ⟨rfl, rfl⟩) | (go_at_call 89; refine (abs_any _ (by assumption) _).mono ?_; rintro e w' ⟨rfl, rfl⟩) | (refine wpList_fcmp rfl rfl rfl rfl rfl (by assumption) (is_const (by decide)) ?_; simp only [h2]) | (go_at_call 90; refine (wideSine_any _ _ n (by assumption) (conv_fact (by assumption) HS.out H5.out) _).mono ?_; rintro e w' ⟨r2, rfl, hr2, _, m2, rfl⟩) | (refine wpList_fn rfl rfl Try.underlying41 Try.underlying33 rfl (by assumption) HF.out ?_; intro r3 m3 hr3 hrw3))
      go_ret
      exact ⟨_, _, rfl, hr3, HR.out, _, rfl⟩
set_option maxRecDepth 100000 in
theorem l01Sine_any (b : Nat) (w : World) : Calls Try.prog 79 #[.float .f32 b] w fun e w' => ∃ r X, e = .returned (.float .f32 r) ∧ Is .f32 r X ∧ sineResult (cls .f32 b) X ∧ ∃ m, w' = w.drewN m := by
  have h0 : Is .f32 b (cls .f32 b) := rfl
  rcases turns_wide (cls .f32 b) (cls_ok .f32 b) with ⟨hf, hN⟩ | ⟨hf, ht⟩
  · have HR : Hid (sineResult (cls .f32 b) (fnar none)) := .inl ⟨hf, rfl⟩
    have HF : Hid (fits none) := fits_none
    clear hf
    go_enter Try.func79, Try.ntmps79
    go_wp2_with (first | (refine wpList_fw rfl rfl Try.underlying33 Try.underlying41 rfl h0 ?_; intro r n hr hrw) | (go_at_call 87; refine (l01SineWide_wild _ _ (by assumption) hN _).mono ?_; rintro e w' ⟨r2, rfl, hr2, m2, rfl⟩) | (go_at_call 86; refine (narrow_any _ _ (by assumption) HF _).mono ?_; rintro e w' ⟨r3, rfl, hr3, m3, rfl⟩))
    go_ret
    exact ⟨_, _, rfl, hr3, HR.out, _, rfl⟩
  · cases ht with
    | wild h =>
      exfalso
      cases hx : cls .f32 b with
      | none => rw [hx] at hf; cases hf
      | some c =>
        rw [hx] at h hf
        rcases wide_read c (cls_ok .f32 b c hx) with ⟨s, h1, h2⟩ | ⟨s, m, e, m', e', h1, h2, _⟩
        · simp only [fin32, h1] at hf; cases hf
        · have := sub_self64 _ s m' e' h2
          rw [show fwide (some c) = some (wide c) from rfl] at h
          rw [this] at h; cases h
    | great h1 h2 h3 =>
      have e0 : fnar (some 0) = some 0 := by decide
      have HR : Hid (sineResult (cls .f32 b) (fnar (some 0))) := .inr (.inl ⟨hf, h2, e0⟩)
      have HF : Hid (fits (some 0)) := fits_of_mag (e := 0) ⟨0, false, 0, -1074, rfl, by decide, by omega, .inl rfl⟩ (by omega)
      have H3 := (show Hid _ from h3)
      clear h2 h3 hf e0
      go_enter Try.func79, Try.ntmps79
      go_wp2_with (first | (refine wpList_fw rfl rfl Try.underlying33 Try.underlying41 rfl h0 ?_; intro r n hr hrw) | (go_at_call 87; refine (l01SineWide_great _ _ (by assumption) h1 H3.out _).mono ?_; rintro e w' ⟨r2, rfl, hr2, m2, rfl⟩) | (go_at_call 86; refine (narrow_any _ _ (by assumption) HF _).mono ?_; rintro e w' ⟨r3, rfl, hr3, m3, rfl⟩))
      go_ret
      exact ⟨_, _, rfl, hr3, HR.out, _, rfl⟩
    | small h1 h2 h3 h4 n h5 h6 =>
      have HR : Hid (sineResult (cls .f32 b) (fnar (sineC (fracC (fwide (cls .f32 b)) n)))) := .inr (.inr ⟨hf, h2, n, h5, rfl⟩)
      have HF : Hid (fits (sineC (fracC (fwide (cls .f32 b)) n))) := fits_of_mag (mag_sine (mag_frac h6)) (by omega)
      have H5 := (show Hid _ from h5)
      have HS := (show Hid _ from some_wide hf)
      clear h2 h6 h5 hf
      go_enter Try.func79, Try.ntmps79
      go_wp2_with (first | (refine wpList_fw rfl rfl Try.underlying33 Try.underlying41 rfl h0 ?_; intro r m hr hrw) | (go_at_call 87; refine (l01SineWide_small _ _ n (by assumption) (conv_fact (by assumption) HS.out H5.out) h1 h3 h4 _).mono ?_; rintro e w' ⟨r2, rfl, hr2, m2, rfl⟩) | (go_at_call 86; refine (narrow_any _ _ (by assumption) HF _).mono ?_; rintro e w' ⟨r3, rfl, hr3, m3, rfl⟩))
      go_ret
      exact ⟨_, _, rfl, hr3, HR.out, _, rfl⟩
theorem sine_one {x r r' : Option Nat} (h : sineResult x r) (h' : sineResult x r') : r = r' := by
  rcases h with ⟨a, b⟩ | ⟨a, b, c⟩ | ⟨a, b, n, c, d⟩ <;> rcases h' with ⟨a', b'⟩ | ⟨a', b', c'⟩ | ⟨a', b', n', c', d'⟩
  · rw [b, b']
  · rw [a] at a'; cases a'
  · rw [a] at a'; cases a'
  · rw [a] at a'; cases a'
  · rw [c, c']
  · rw [b] at b'; cases b'
  · rw [a] at a'; cases a'
  · rw [b] at b'; cases b'
  · obtain ⟨k, hk⟩ := some_wide a
    have e1 := c k hk
    have e2 := c' k hk
    rw [e1] at e2; cases e2
    rw [d, d']
end Go.Proofs.Ytpmjiabllmomjaa
