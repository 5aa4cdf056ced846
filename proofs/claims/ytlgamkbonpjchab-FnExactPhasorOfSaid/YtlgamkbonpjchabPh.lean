/- The points of the unit circle: the walks. -/
import Derived.Test.YtlgamkbonpjchabPhC
import Derived.Test.YtlgamkbonpjchabCx
import Derived.Test.YtlgamkbonpjchabSineT
namespace Go.Proofs.Ytlgamkbonpjchab
open Go.RowKit Flt

def phR (N : Nat) (C S : Option Nat) : Option Nat := if N = 1 then fop .sub .f64 (some 0) S else if N = 2 then fop .sub .f64 (some 0) C else if N = 3 then S else C
def phI (N : Nat) (C S : Option Nat) : Option Nat := if N = 1 then C else if N = 2 then fop .sub .f64 (some 0) S else if N = 3 then fop .sub .f64 (some 0) C else S
theorem sineI_is (b : Nat) (Z : Option Nat) (n : Int) (hZ : Is .f64 b Z) (h : SmallF Z n) (w : World) : Calls Try.prog 37 #[.float .f64 b] w fun e w' => ∃ r, e = .returned (.float .f64 r) ∧ Is .f64 r (sineC (fracC Z n)) ∧ ∃ m, w' = w.drewN m :=
  (wideSine_any b Z n hZ (conv_fact hZ h.hs h.hi) w).mono fun e w' hh => by
    obtain ⟨r, h1, h2, _, h3⟩ := hh
    exact ⟨r, h1, h2, h3⟩
theorem sineS_is (b : Nat) (Z : Option Nat) (n : Int) (hZ : Is .f64 b Z) (h : SmallF Z n) (w : World) : Calls Try.prog 57 #[.float .f64 b] w fun e w' => ∃ r, e = .returned (.float .f64 r) ∧ Is .f64 r (sineC (fracC Z n)) ∧ ∃ m, w' = w.drewN m :=
  l01SineWide_small b Z n hZ (conv_fact hZ h.hs h.hi) h.hN h.hG h.hL w
theorem narrowComplex_any (a b : Nat) (A B : Option Nat) (hA : Is .f64 a A) (hB : Is .f64 b B) (fA : fits A) (fB : fits B) (w : World) : Calls Try.prog 38 #[.complex .f64 a b] w fun e w' => ∃ r t, e = .returned (.complex .f32 r t) ∧ Is .f32 r (fnar A) ∧ Is .f32 t (fnar B) ∧ ∃ m, w' = w.drewN m := by
  go_enter Try.func38, Try.ntmps38
  go_wp2_with (refine wpList_fn rfl rfl Try.underlying26 Try.underlying22 rfl (by assumption) (by assumption) ?_; intro r n hr hrw)
  go_ret
  exact ⟨_, _, rfl, by assumption, by assumption, _, rfl⟩
set_option maxRecDepth 100000 in
set_option maxHeartbeats 1000000 in
theorem phasor_small (b N : Nat) (X : Option Nat) (n0 n1 n2 : Int) (hX : Is .f64 b X) (HB : Hid (b < 18446744073709551616)) (hc : ∀ w, (convert 26 2 (.float .f64 b)).run Try.prog w = .ok (.int .i64 n0) w)
    (hfin : finW b = true) (hbig : fcmp .geq (ford .f64 (fabs X) (some 4841369599423283200)) = false)
    (F : Option Nat) (hF : fracC X n0 = F) (hq : Hid (quarters F N)) (hN8 : N ≤ 8) (H1 : Hid (SmallF (fop .sub .f64 (some 4598175219545276416) (itC qrtC N F)) n1)) (H2 : Hid (SmallF (itC qrtC N F) n2))
    (C S : Option Nat) (hC : sineC (fracC (fop .sub .f64 (some 4598175219545276416) (itC qrtC N F)) n1) = C) (hS : sineC (fracC (itC qrtC N F) n2) = S)
    (G1 : Hid (fits C)) (G2 : Hid (fits S)) (G3 : Hid (fits (fop .sub .f64 (some 0) C))) (G4 : Hid (fits (fop .sub .f64 (some 0) S))) (w : World) :
    Calls Try.prog 17 #[.float .f64 b] w fun e w' => ∃ r t, e = .returned (.complex .f32 r t) ∧ Is .f32 r (fnar (phR N C S)) ∧ Is .f32 t (fnar (phI N C S)) ∧ ∃ m, w' = w.drewN m := by
  have habs := hX.abs
  go_enter Try.func17, Try.ntmps17
  go_wp2_with (first | (go_at_call 34; refine (isFinite64_any _ HB _).mono ?_; rintro e w' ⟨rfl, rfl⟩) | (go_at_call 30; refine (abs_any _ HB _).mono ?_; rintro e w' ⟨rfl, rfl⟩) | (go_at_call 36; refine (partOfTurn_any _ X n0 hX hc _).mono ?_; rintro e w' ⟨r, rfl, hr, hrw, n, rfl⟩) | (refine wpList_fa rfl rfl rfl rfl rfl (by first | assumption | exact is_const (by decide)) (by first | assumption | exact is_const (by decide) | exact is_int _) ?_; intro r n hr hrw) | (refine wpList_fcmp rfl rfl rfl rfl rfl (by first | assumption | exact is_const (by decide)) (by first | assumption | exact is_const (by decide)) ?_; try simp only [hbig]))
  rw [hF] at hr
  go_loopw [3, 4] (fun x i wr => ∃ k r : Nat, k ≤ N ∧ i = .int .i64 k ∧ x = .float .f64 r ∧ Is .f64 r (itC qrtC k F) ∧ Hid (∃ m, wr = w.drewN m)) (fun _ i _ => N - (intOf i).toNat)
  case atStart => exact ⟨0, _, Nat.zero_le _, rfl, rfl, hr, _, rfl⟩
  case round =>
    obtain ⟨k, s, hk, rfl, rfl, hs, hw⟩ := hrel
    by_cases hlt : k < N
    · have hgo := hq.out.1 k hlt
      go_wp2_with (first | (refine wpList_fa rfl rfl rfl rfl rfl (by first | assumption | exact is_const (by decide)) (by first | assumption | exact is_const (by decide) | exact is_int _) ?_; intro r n hr hrw) | (refine wpList_fcmp rfl rfl rfl rfl rfl (by first | assumption | exact is_const (by decide)) (by first | assumption | exact is_const (by decide)) ?_; try simp only [hgo]))
      go_roundw
      case rel => exact ⟨k + 1, r, by omega, by go_num, rfl, by assumption, by obtain ⟨m, hm⟩ := hw.out; exact ⟨m + n, by rw [hm, World.drewN_drewN]⟩⟩
      case measure => simp [intOf]; omega
    · have hkn : k = N := by omega
      subst hkn
      have hgo := hq.out.2
      obtain ⟨m0, hw⟩ := hw.out
      subst hw
      generalize itC qrtC k F = Z at hs hgo H1 H2 hC hS
      have hk9 : k = 0 ∨ k = 1 ∨ k = 2 ∨ k = 3 ∨ k = 4 ∨ k = 5 ∨ k = 6 ∨ k = 7 ∨ k = 8 := by omega
      clear hq
      subst hC hS
      rcases hk9 with rfl | rfl | rfl | rfl | rfl | rfl | rfl | rfl | rfl
      all_goals
        go_wp2_with (first | (refine wpList_fa rfl rfl rfl rfl rfl (by first | assumption | exact is_const (by decide)) (by first | assumption | exact is_const (by decide) | exact is_int _) ?_; intro r n hr hrw) | (go_at_call 37; first | (refine (sineI_is _ _ n1 (by assumption) H1.out _).mono ?_; rintro e w' ⟨r, rfl, hr, n, rfl⟩) | (refine (sineI_is _ _ n2 (by assumption) H2.out _).mono ?_; rintro e w' ⟨r, rfl, hr, n, rfl⟩)) | (go_at_call 38; refine (narrowComplex_any _ _ _ _ (by assumption) (by assumption) (by first | exact G1.out | exact G2.out | exact G3.out | exact G4.out) (by first | exact G1.out | exact G2.out | exact G3.out | exact G4.out) _).mono ?_; rintro e w' ⟨r, t, rfl, hr, ht, n, rfl⟩) | (refine wpList_fcmp rfl rfl rfl rfl rfl (by first | assumption | exact is_const (by decide)) (by first | assumption | exact is_const (by decide)) ?_; try simp only [hgo]))
        go_ret
        exact ⟨_, _, rfl, by assumption, by assumption, _, rfl⟩
end Go.Proofs.Ytlgamkbonpjchab
