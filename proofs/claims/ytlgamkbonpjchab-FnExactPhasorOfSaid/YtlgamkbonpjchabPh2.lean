/- The points of the unit circle: the other package, and the law. -/
import Derived.Test.YtlgamkbonpjchabPh
import Derived.Test.YtlgamkbonpjchabNum2
import Derived.Test.YtlgamkbonpjchabRoot
namespace Go.Proofs.Ytlgamkbonpjchab
open Go.RowKit Flt

theorem from_nan : Is .f32 (Int.toNat 2143289344) none := is_nan32
theorem l01Phasor_wild (b : Nat) (X : Option Nat) (hX : Is .f64 b X) (hN : fcmp .neq (ford .f64 (fop .sub .f64 X X) (some 0)) = true) (w : World) :
    Calls Try.prog 33 #[.float .f64 b] w fun e w' => ∃ r t, e = .returned (.complex .f32 r t) ∧ Is .f32 r none ∧ Is .f32 t none ∧ ∃ m, w' = w.drewN m := by
  go_enter Try.func33, Try.ntmps33
  go_wp2_with (first | (go_at_call 56; refine (l01From_any _ (by omega) (by omega) _).mono ?_; rintro e w' ⟨rfl, rfl⟩) | (refine wpList_fa rfl rfl rfl rfl rfl (by first | assumption | exact is_const (by decide)) (by first | assumption | exact is_const (by decide) | exact is_int _) ?_; intro r n hr hrw) | (refine wpList_fcmp rfl rfl rfl rfl rfl (by first | assumption | exact is_const (by decide)) (by first | assumption | exact is_const (by decide)) ?_; try simp only [hN]))
  go_ret
  exact ⟨_, _, rfl, from_nan, from_nan, _, rfl⟩
theorem l01Phasor_great (b : Nat) (X : Option Nat) (hX : Is .f64 b X) (hN : fcmp .neq (ford .f64 (fop .sub .f64 X X) (some 0)) = false) (h3 : fcmp .geq (ford .f64 X (some 4841369599423283200)) = true ∨ fcmp .leq (ford .f64 X (some 14064741636278059008)) = true) (w : World) :
    Calls Try.prog 33 #[.float .f64 b] w fun e w' => ∃ r t, e = .returned (.complex .f32 r t) ∧ Is .f32 r (some 1065353216) ∧ Is .f32 t (some 0) ∧ ∃ m, w' = w.drewN m := by
  cases hG : fcmp .geq (ford .f64 X (some 4841369599423283200)) with
  | true =>
    clear h3
    go_enter Try.func33, Try.ntmps33
    go_wp2_with (first | (refine wpList_fa rfl rfl rfl rfl rfl (by first | assumption | exact is_const (by decide)) (by first | assumption | exact is_const (by decide) | exact is_int _) ?_; intro r n hr hrw) | (refine wpList_fcmp rfl rfl rfl rfl rfl (by first | assumption | exact is_const (by decide)) (by first | assumption | exact is_const (by decide)) ?_; try simp only [hN, hG]))
    go_ret
    exact ⟨_, _, rfl, is_const (by decide), is_const (by decide), _, rfl⟩
  | false =>
    have hL : fcmp .leq (ford .f64 X (some 14064741636278059008)) = true := by rw [hG] at h3; simpa using h3
    clear h3
    go_enter Try.func33, Try.ntmps33
    go_wp2_with (first | (refine wpList_fa rfl rfl rfl rfl rfl (by first | assumption | exact is_const (by decide)) (by first | assumption | exact is_const (by decide) | exact is_int _) ?_; intro r n hr hrw) | (refine wpList_fcmp rfl rfl rfl rfl rfl (by first | assumption | exact is_const (by decide)) (by first | assumption | exact is_const (by decide)) ?_; try simp only [hN, hG, hL]))
    go_ret
    exact ⟨_, _, rfl, is_const (by decide), is_const (by decide), _, rfl⟩
set_option maxRecDepth 100000 in
set_option maxHeartbeats 1000000 in
theorem l01Phasor_up (b N : Nat) (X : Option Nat) (n0 n1 n2 : Int) (hX : Is .f64 b X) (hc : ∀ w, (convert 26 2 (.float .f64 b)).run Try.prog w = .ok (.int .i64 n0) w)
    (hN : fcmp .neq (ford .f64 (fop .sub .f64 X X) (some 0)) = false) (hG : fcmp .geq (ford .f64 X (some 4841369599423283200)) = false) (hL : fcmp .leq (ford .f64 X (some 14064741636278059008)) = false) (hT : fcmp .lss (ford .f64 (fop .sub .f64 X (some (floatOfInt .f64 n0))) (some 0)) = true)
    (F : Option Nat) (hF : fracC X n0 = F) (hq : Hid (quarters F N)) (hN8 : N ≤ 8) (H1 : Hid (SmallF (fop .sub .f64 (some 4598175219545276416) (itC qrtC N F)) n1)) (H2 : Hid (SmallF (itC qrtC N F) n2))
    (C S : Option Nat) (hC : sineC (fracC (fop .sub .f64 (some 4598175219545276416) (itC qrtC N F)) n1) = C) (hS : sineC (fracC (itC qrtC N F) n2) = S)
    (G1 : Hid (fits C)) (G2 : Hid (fits S)) (G3 : Hid (fits (fop .sub .f64 (some 0) C))) (G4 : Hid (fits (fop .sub .f64 (some 0) S))) (w : World) :
    Calls Try.prog 33 #[.float .f64 b] w fun e w' => ∃ r t, e = .returned (.complex .f32 r t) ∧ Is .f32 r (fnar (phR N C S)) ∧ Is .f32 t (fnar (phI N C S)) ∧ ∃ m, w' = w.drewN m := by
  go_enter Try.func33, Try.ntmps33
  go_wp2_with (first | (refine wpList_fa rfl rfl rfl rfl rfl (by first | assumption | exact is_const (by decide)) (by first | assumption | exact is_const (by decide) | exact is_int _) ?_; intro r n hr hrw) | (refine wpList_fcmp rfl rfl rfl rfl rfl (by first | assumption | exact is_const (by decide)) (by first | assumption | exact is_const (by decide)) ?_; try simp only [hN, hG, hL, hT]))
  go_loopw [3, 4] (fun x i wr => ∃ k r : Nat, k ≤ N ∧ i = .int .i64 k ∧ x = .float .f64 r ∧ Is .f64 r (itC qrtC k F) ∧ Hid (∃ m, wr = w.drewN m)) (fun _ i _ => N - (intOf i).toNat)
  case atStart => exact ⟨0, _, Nat.zero_le _, rfl, rfl, (by rw [← hF]; simp only [fracC, hT, if_true]; assumption), _, rfl⟩
  case round =>
    obtain ⟨k, s, hk, rfl, rfl, hs, hw⟩ := hrel
    by_cases hlt : k < N
    · have hgo := hq.out.1 k hlt
      go_wp2_with (first | (refine wpList_fa rfl rfl rfl rfl rfl (by first | assumption | exact is_const (by decide)) (by first | assumption | exact is_const (by decide) | exact is_int _) ?_; intro r n hr hrw) | (refine wpList_fcmp rfl rfl rfl rfl rfl (by first | assumption | exact is_const (by decide)) (by first | assumption | exact is_const (by decide)) ?_; try simp only [hgo]))
      go_roundw
      case rel => exact ⟨k + 1, r, by omega, by go_num, rfl, by assumption, by obtain ⟨m, hm⟩ := hw.out; exact ⟨m + n, by rw [hm, World.drewN_drewN]⟩⟩
      case measure => simp [intOf]; omega
    · have hkn : k = N := by omega
      subst hkn
      have hgo := hq.out.2
      obtain ⟨m0, hw⟩ := hw.out
      subst hw
      generalize itC qrtC k F = Z at hs hgo H1 H2 hC hS
      have hk9 : k = 0 ∨ k = 1 ∨ k = 2 ∨ k = 3 ∨ k = 4 ∨ k = 5 ∨ k = 6 ∨ k = 7 ∨ k = 8 := by omega
      clear hq
      subst hC hS
      rcases hk9 with rfl | rfl | rfl | rfl | rfl | rfl | rfl | rfl | rfl
      all_goals
        go_wp2_with (first | (refine wpList_fa rfl rfl rfl rfl rfl (by first | assumption | exact is_const (by decide)) (by first | assumption | exact is_const (by decide) | exact is_int _) ?_; intro r n hr hrw) | (go_at_call 57; first | (refine (sineS_is _ _ n1 (by assumption) H1.out _).mono ?_; rintro e w' ⟨r, rfl, hr, n, rfl⟩) | (refine (sineS_is _ _ n2 (by assumption) H2.out _).mono ?_; rintro e w' ⟨r, rfl, hr, n, rfl⟩)) | (go_at_call 54; refine (narrow_any _ _ (by assumption) (by first | exact G1 | exact G2 | exact G3 | exact G4) _).mono ?_; rintro e w' ⟨r, rfl, hr, n, rfl⟩) | (refine wpList_fcmp rfl rfl rfl rfl rfl (by first | assumption | exact is_const (by decide)) (by first | assumption | exact is_const (by decide)) ?_; try simp only [hgo]))
        go_ret
        exact ⟨_, _, rfl, by assumption, by assumption, _, rfl⟩
set_option maxRecDepth 100000 in
set_option maxHeartbeats 1000000 in
theorem l01Phasor_down (b N : Nat) (X : Option Nat) (n0 n1 n2 : Int) (hX : Is .f64 b X) (hc : ∀ w, (convert 26 2 (.float .f64 b)).run Try.prog w = .ok (.int .i64 n0) w)
    (hN : fcmp .neq (ford .f64 (fop .sub .f64 X X) (some 0)) = false) (hG : fcmp .geq (ford .f64 X (some 4841369599423283200)) = false) (hL : fcmp .leq (ford .f64 X (some 14064741636278059008)) = false) (hT : fcmp .lss (ford .f64 (fop .sub .f64 X (some (floatOfInt .f64 n0))) (some 0)) = false)
    (F : Option Nat) (hF : fracC X n0 = F) (hq : Hid (quarters F N)) (hN8 : N ≤ 8) (H1 : Hid (SmallF (fop .sub .f64 (some 4598175219545276416) (itC qrtC N F)) n1)) (H2 : Hid (SmallF (itC qrtC N F) n2))
    (C S : Option Nat) (hC : sineC (fracC (fop .sub .f64 (some 4598175219545276416) (itC qrtC N F)) n1) = C) (hS : sineC (fracC (itC qrtC N F) n2) = S)
    (G1 : Hid (fits C)) (G2 : Hid (fits S)) (G3 : Hid (fits (fop .sub .f64 (some 0) C))) (G4 : Hid (fits (fop .sub .f64 (some 0) S))) (w : World) :
    Calls Try.prog 33 #[.float .f64 b] w fun e w' => ∃ r t, e = .returned (.complex .f32 r t) ∧ Is .f32 r (fnar (phR N C S)) ∧ Is .f32 t (fnar (phI N C S)) ∧ ∃ m, w' = w.drewN m := by
  go_enter Try.func33, Try.ntmps33
  go_wp2_with (first | (refine wpList_fa rfl rfl rfl rfl rfl (by first | assumption | exact is_const (by decide)) (by first | assumption | exact is_const (by decide) | exact is_int _) ?_; intro r n hr hrw) | (refine wpList_fcmp rfl rfl rfl rfl rfl (by first | assumption | exact is_const (by decide)) (by first | assumption | exact is_const (by decide)) ?_; try simp only [hN, hG, hL, hT]))
  go_loopw [3, 4] (fun x i wr => ∃ k r : Nat, k ≤ N ∧ i = .int .i64 k ∧ x = .float .f64 r ∧ Is .f64 r (itC qrtC k F) ∧ Hid (∃ m, wr = w.drewN m)) (fun _ i _ => N - (intOf i).toNat)
  case atStart => exact ⟨0, _, Nat.zero_le _, rfl, rfl, (by rw [← hF]; simp only [fracC, hT, Bool.false_eq_true, if_false]; assumption), _, rfl⟩
  case round =>
    obtain ⟨k, s, hk, rfl, rfl, hs, hw⟩ := hrel
    by_cases hlt : k < N
    · have hgo := hq.out.1 k hlt
      go_wp2_with (first | (refine wpList_fa rfl rfl rfl rfl rfl (by first | assumption | exact is_const (by decide)) (by first | assumption | exact is_const (by decide) | exact is_int _) ?_; intro r n hr hrw) | (refine wpList_fcmp rfl rfl rfl rfl rfl (by first | assumption | exact is_const (by decide)) (by first | assumption | exact is_const (by decide)) ?_; try simp only [hgo]))
      go_roundw
      case rel => exact ⟨k + 1, r, by omega, by go_num, rfl, by assumption, by obtain ⟨m, hm⟩ := hw.out; exact ⟨m + n, by rw [hm, World.drewN_drewN]⟩⟩
      case measure => simp [intOf]; omega
    · have hkn : k = N := by omega
      subst hkn
      have hgo := hq.out.2
      obtain ⟨m0, hw⟩ := hw.out
      subst hw
      generalize itC qrtC k F = Z at hs hgo H1 H2 hC hS
      have hk9 : k = 0 ∨ k = 1 ∨ k = 2 ∨ k = 3 ∨ k = 4 ∨ k = 5 ∨ k = 6 ∨ k = 7 ∨ k = 8 := by omega
      clear hq
      subst hC hS
      rcases hk9 with rfl | rfl | rfl | rfl | rfl | rfl | rfl | rfl | rfl
      all_goals
        go_wp2_with (first | (refine wpList_fa rfl rfl rfl rfl rfl (by first | assumption | exact is_const (by decide)) (by first | assumption | exact is_const (by decide) | exact is_int _) ?_; intro r n hr hrw) | (go_at_call 57; first | (refine (sineS_is _ _ n1 (by assumption) H1.out _).mono ?_; rintro e w' ⟨r, rfl, hr, n, rfl⟩) | (refine (sineS_is _ _ n2 (by assumption) H2.out _).mono ?_; rintro e w' ⟨r, rfl, hr, n, rfl⟩)) | (go_at_call 54; refine (narrow_any _ _ (by assumption) (by first | exact G1 | exact G2 | exact G3 | exact G4) _).mono ?_; rintro e w' ⟨r, rfl, hr, n, rfl⟩) | (refine wpList_fcmp rfl rfl rfl rfl rfl (by first | assumption | exact is_const (by decide)) (by first | assumption | exact is_const (by decide)) ?_; try simp only [hgo]))
        go_ret
        exact ⟨_, _, rfl, by assumption, by assumption, _, rfl⟩
theorem sPhasor_of (b : Nat) (R I : Option Nat) (HP : ∀ w, Calls Try.prog 33 #[.float .f64 b] w fun e w' => ∃ r t, e = .returned (.complex .f32 r t) ∧ Is .f32 r R ∧ Is .f32 t I ∧ ∃ m, w' = w.drewN m) (w : World) :
    Calls Try.prog 16 #[.float .f64 b] w fun e w' => ∃ r t, e = .returned (.complex .f32 r t) ∧ Is .f32 r R ∧ Is .f32 t I ∧ ∃ m, w' = w.drewN m := by
  go_enter Try.func16, Try.ntmps16
  go_wp2_with (go_at_call 33; refine (HP _).mono ?_; rintro e w' ⟨r, t, rfl, hr, ht, n, rfl⟩)
  go_ret
  exact ⟨_, _, rfl, hr, ht, _, rfl⟩
theorem phasor_wild (b : Nat) (HB : Hid (b < 18446744073709551616)) (hfin : finW b = false) (w : World) : Calls Try.prog 17 #[.float .f64 b] w fun e w' => ∃ r t, e = .returned (.complex .f32 r t) ∧ Is .f32 r none ∧ Is .f32 t none ∧ ∃ m, w' = w.drewN m := by
  go_enter Try.func17, Try.ntmps17
  go_wp2_with (first | (go_at_call 34; refine (isFinite64_any _ HB _).mono ?_; rintro e w' ⟨rfl, rfl⟩) | (go_at_call 35; refine (notANumber_any _).mono ?_; rintro e w' ⟨rfl, rfl⟩))
  go_ret
  exact ⟨_, _, rfl, is_nan32, is_nan32, 0, rfl⟩
theorem phasor_great (b : Nat) (X : Option Nat) (hX : Is .f64 b X) (HB : Hid (b < 18446744073709551616)) (hfin : finW b = true) (hbig : fcmp .geq (ford .f64 (fabs X) (some 4841369599423283200)) = true) (w : World) : Calls Try.prog 17 #[.float .f64 b] w fun e w' => ∃ r t, e = .returned (.complex .f32 r t) ∧ Is .f32 r (some 1065353216) ∧ Is .f32 t (some 0) ∧ ∃ m, w' = w.drewN m := by
  have habs := hX.abs
  go_enter Try.func17, Try.ntmps17
  go_wp2_with (first | (go_at_call 34; refine (isFinite64_any _ HB _).mono ?_; rintro e w' ⟨rfl, rfl⟩) | (go_at_call 30; refine (abs_any _ HB _).mono ?_; rintro e w' ⟨rfl, rfl⟩) | (refine wpList_fcmp rfl rfl rfl rfl rfl (by first | assumption | exact is_const (by decide)) (by first | assumption | exact is_const (by decide)) ?_; try simp only [hbig]))
  go_ret
  exact ⟨_, _, rfl, is_const (by decide), is_const (by decide), 0, rfl⟩

theorem read_top (b : Nat) (s : Bool) (m : Nat) (i : Int) (h : FloatKind.f64.format.read b = .number s m i) : m < 2 ^ 53 ∧ -1074 ≤ i ∧ i ≤ 971 := by
  have hB : FloatKind.f64.format.binade = 4503599627370496 := by decide
  have hS : FloatKind.f64.format.signWeight = 9223372036854775808 := by decide
  have hI : FloatKind.f64.format.infRung = 9218868437227405312 := by decide
  unfold Ieee.Format.read at h
  dsimp only at h
  rw [hB, hS, hI, f64_lp] at h
  split at h
  · rename_i hlt
    simp only [Ieee.Datum.number.injEq] at h
    omega
  · split at h
    · rename_i h1 h2
      simp only [Ieee.Datum.number.injEq] at h
      omega
    · split at h <;> cases h
theorem fin_num (b : Nat) (s : Bool) (m : Nat) (i : Int) (h : FloatKind.f64.format.read b = .number s m i) : finW b = true := by
  obtain ⟨h1, h2, h3⟩ := read_top b s m i h
  obtain ⟨B, hB⟩ := base_ex
  have hn : nanW .f64 b = false := by rw [← read_nan, h]; rfl
  have hm : FloatKind.f64.format.read max64 = .number false (2 ^ 53 - 1) 971 := by decide
  have ho : (FloatKind.f64.format.order (absW b) max64 == some .gt) = false := by
    unfold Ieee.Format.order
    rw [read_abs, h, hm]
    simp only [posD]
    rw [order_num false false m (2 ^ 53 - 1) i 971 B (by omega) (by omega)]
    have es : ∀ a u, Ieee.signed false a u = ((a * 2 ^ u : Nat) : Int) := fun a u => by unfold Ieee.signed; rw [Nat.shiftLeft_eq]; rfl
    rw [es, es]
    have hle : m * 2 ^ (i - B).toNat ≤ (2 ^ 53 - 1) * 2 ^ (971 - B).toNat := Nat.mul_le_mul (by omega) (Nat.pow_le_pow_right (by omega) (by omega))
    generalize m * 2 ^ (i - B).toNat = A at hle
    generalize (2 ^ 53 - 1) * 2 ^ (971 - B).toNat = D at hle
    rcases Nat.lt_or_eq_of_le hle with h5 | h5
    · rw [compare_lt (by omega)]; rfl
    · rw [compare_eq (by omega)]; rfl
  unfold finW
  rw [cls_num hn, ho]; rfl
theorem fin_inf (b : Nat) (s : Bool) (h : FloatKind.f64.format.read b = .infinity s) : finW b = false := by
  have hm : FloatKind.f64.format.read max64 = .number false (2 ^ 53 - 1) 971 := by decide
  have ho : (FloatKind.f64.format.order (absW b) max64 == some .gt) = true := by
    unfold Ieee.Format.order
    rw [read_abs, h, hm]; rfl
  unfold finW
  rw [ho]; simp

theorem phasor_both (b : Nat) (hb : b < 18446744073709551616) : ∃ R I, (∀ w, Calls Try.prog 17 #[.float .f64 b] w fun e w' => ∃ r t, e = .returned (.complex .f32 r t) ∧ Is .f32 r R ∧ Is .f32 t I ∧ ∃ m, w' = w.drewN m) ∧
    (∀ w, Calls Try.prog 16 #[.float .f64 b] w fun e w' => ∃ r t, e = .returned (.complex .f32 r t) ∧ Is .f32 r R ∧ Is .f32 t I ∧ ∃ m, w' = w.drewN m) := by
  cases hr : FloatKind.f64.format.read b with
  | nan s t =>
    have hn : nanW .f64 b = true := by rw [← read_nan, hr]; rfl
    have hX : Is .f64 b none := cls_nan hn
    have hf : finW b = false := by unfold finW; rw [cls_nan hn]; rfl
    exact ⟨none, none, phasor_wild b hb hf, sPhasor_of b _ _ (l01Phasor_wild b none hX (by decide))⟩
  | infinity s =>
    have hn : nanW .f64 b = false := by rw [← read_nan, hr]; rfl
    have hX : Is .f64 b (some b) := cls_num hn
    exact ⟨none, none, phasor_wild b hb (fin_inf b s hr), sPhasor_of b _ _ (l01Phasor_wild b _ hX (sub_self_inf b s hr))⟩
  | number s m i =>
    have hn : nanW .f64 b = false := by rw [← read_nan, hr]; rfl
    have hX : Is .f64 b (some b) := cls_num hn
    have hfin := fin_num b s m i hr
    cases turns_num b s m i hr (read_top b s m i hr).2.1 with
    | wild h => exfalso; rw [sub_self64 b s m i hr] at h; cases h
    | great h1 h2 h3 => exact ⟨_, _, phasor_great b _ hX hb hfin h2, sPhasor_of b _ _ (l01Phasor_great b _ hX h1 h3)⟩
    | small h1 h2 h3 h4 n0 h5 h6 =>
      have hc := conv_fact hX ⟨b, rfl⟩ h5
      obtain ⟨N, hN8, hq, hz⟩ := quarters_ex (mag_frac h6)
      have hquarter : magC (some 4598175219545276416) 0 := mag_num _ false (2 ^ 52) (-54) 0 (by decide) (by omega) (by decide)
      obtain ⟨n1, s1, m1⟩ := small_ex (magC_mono (mag_sub hquarter hz (by omega) (by omega)) (by omega))
      obtain ⟨n2, s2, m2⟩ := small_ex (magC_mono hz (by omega))
      have g1 := fits_of_mag m1 (by omega)
      have g2 := fits_of_mag m2 (by omega)
      have g3 := fits_of_mag (zero_sub m1 (by omega) (by omega)) (by omega)
      have g4 := fits_of_mag (zero_sub m2 (by omega) (by omega)) (by omega)
      refine ⟨_, _, phasor_small b N _ n0 n1 n2 hX hb hc hfin h2 _ rfl hq hN8 s1 s2 _ _ rfl rfl g1 g2 g3 g4, sPhasor_of b _ _ ?_⟩
      cases hT : fcmp .lss (ford .f64 (fop .sub .f64 (some b) (some (floatOfInt .f64 n0))) (some 0)) with
      | true => exact l01Phasor_up b N _ n0 n1 n2 hX hc h1 h3 h4 hT _ rfl hq hN8 s1 s2 _ _ rfl rfl g1 g2 g3 g4
      | false => exact l01Phasor_down b N _ n0 n1 n2 hX hc h1 h3 h4 hT _ rfl hq hN8 s1 s2 _ _ rfl rfl g1 g2 g3 g4
theorem sameComplex_is (a b c d : Nat) (X Y : Option Nat) (ha : Is .f64 a X) (hb : Is .f64 b Y) (hc : Is .f64 c X) (hd : Is .f64 d Y) (w : World) : Calls Try.prog 18 #[.complex .f64 a b, .complex .f64 c d] w fun e w' => e = .returned (.bool true) ∧ ∃ n, w' = w.drewN n := by
  go_enter Try.func18, Try.ntmps18
  go_wp2_with (go_at_call 15; refine (sameFloat_is _ _ _ (by assumption) (by assumption) _).mono ?_; rintro e w' ⟨rfl, n, rfl⟩)
  go_ret
  exact ⟨rfl, _, rfl⟩
theorem FnExactPhasorOf_walk (a0 : Nat) (w : World) (w0 : (Lit.float .f64 a0).wf = true) :
    Calls Try.prog 5 #[.float .f64 a0] w fun e w' => e = .returned (.bool true) ∧ Below w.heap.size w w' := by
  have ha : a0 < 18446744073709551616 := by simpa [Lit.wf] using w0
  obtain ⟨R, I, HI, HS⟩ := phasor_both a0 ha
  go_enter Try.func5, Try.ntmps5
  go_wp2_with (first | (go_at_call 16; refine (HS _).mono ?_; rintro e w' ⟨r1, t1, rfl, hr1, ht1, m1, rfl⟩) | (go_at_call 17; refine (HI _).mono ?_; rintro e w' ⟨r2, t2, rfl, hr2, ht2, m2, rfl⟩) | (refine wpList_cw rfl rfl Try.underlying27 Try.underlying30 22 26 Try.underlying22 Try.underlying26 rfl (by assumption) (by assumption) ?_; intro r t n hr ht) | (go_at_call 18; refine (sameComplex_is _ _ _ _ _ _ (by assumption) (by assumption) (by assumption) (by assumption) _).mono ?_; rintro e w' ⟨rfl, n, rfl⟩))
  go_ret
  exact ⟨rfl, below_drewN0 (Below.refl _ _) _⟩
end Go.Proofs.Ytlgamkbonpjchab
