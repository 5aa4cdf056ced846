/- The flow of a throat at a phase: both contracts. -/
import Derived.Test.YtkmgkcbbbaioiabV7
namespace Go.Proofs.Ytkmgkcbbbaioiab
open Go.RowKit Flt
set_option linter.unusedVariables false

noncomputable def flowC (o c p : Option Nat) : Option Nat :=
  if fcmp .lss (ford .f32 p o) then fop .mul .f32 (some 1056964608) (fop .sub .f32 (some 1065353216) (sineF (fop .add .f32 (fop .mul .f32 (some 1056964608) (fop .quo .f32 p o)) (some 1048576000))))
  else if fcmp .lss (ford .f32 p (fop .add .f32 o c)) then sineF (fop .add .f32 (fop .mul .f32 (some 1048576000) (fop .quo .f32 (fop .sub .f32 p o) c)) (some 1048576000))
  else some 0
set_option maxHeartbeats 4000000 in
set_option maxRecDepth 100000 in
theorem flowAt_any (t o c b s p : Nat) (w : World) :
    Calls Try.prog 88 #[.agg #[.float .f32 t, .float .f32 o, .float .f32 c, .float .f32 b, .float .f32 s], .float .f32 p] w fun e w' => ∃ r, e = .returned (.float .f32 r) ∧ cls .f32 r = flowC (cls .f32 o) (cls .f32 c) (cls .f32 p) ∧ Ext w w' := by
  have HP := is_self .f32 p
  have HO := is_self .f32 o
  have HC := is_self .f32 c
  unfold flowC
  cases h1 : fcmp .lss (ford .f32 (cls .f32 p) (cls .f32 o))
  rotate_left
  · rw [if_pos rfl]
    go_enter Try.func88, Try.ntmps88
    go_wp2_with (first | (refine wpList_fcmp rfl rfl rfl rfl rfl (by assumption) (by assumption) ?_; rw [h1]) | (refine wpList_fa rfl rfl rfl rfl rfl (by first | assumption | exact is_const (by decide)) (by first | assumption | exact is_const (by decide)) ?_; intro r m hr hrw) | (go_at_call 75; refine (sine_is _ _ (by assumption) _).mono ?_; rintro e w' ⟨r, rfl, hr, m, rfl⟩))
    go_ret
    refine ⟨_, rfl, Is.out (by assumption), ?_⟩
    (repeat with_reducible (first | exact Ext.refl _ | exact ext_alloc _ _ | refine Ext.drewN ?_ _ | refine Ext.drew1 ?_ | refine Ext.set ?_ (by dsimp only; omega) _ | refine Ext.alloc ?_ _))
  rw [if_neg (by simp)]
  cases h2 : fcmp .lss (ford .f32 (cls .f32 p) (fop .add .f32 (cls .f32 o) (cls .f32 c)))
  rotate_left
  · rw [if_pos rfl]
    go_enter Try.func88, Try.ntmps88
    go_wp2_with (first | (refine wpList_fcmp rfl rfl rfl rfl rfl (by assumption) (by assumption) ?_; rw [h1]) | (refine wpList_fcmp rfl rfl rfl rfl rfl (by assumption) (by assumption) ?_; rw [h2]) | (refine wpList_fa rfl rfl rfl rfl rfl (by first | assumption | exact is_const (by decide)) (by first | assumption | exact is_const (by decide)) ?_; intro r m hr hrw) | (go_at_call 75; refine (sine_is _ _ (by assumption) _).mono ?_; rintro e w' ⟨r, rfl, hr, m, rfl⟩))
    go_ret
    refine ⟨_, rfl, Is.out (by assumption), ?_⟩
    (repeat with_reducible (first | exact Ext.refl _ | exact ext_alloc _ _ | refine Ext.drewN ?_ _ | refine Ext.drew1 ?_ | refine Ext.set ?_ (by dsimp only; omega) _ | refine Ext.alloc ?_ _))
  rw [if_neg (by simp)]
  go_enter Try.func88, Try.ntmps88
  go_wp2_with (first | (refine wpList_fcmp rfl rfl rfl rfl rfl (by assumption) (by assumption) ?_; rw [h1]) | (refine wpList_fcmp rfl rfl rfl rfl rfl (by assumption) (by assumption) ?_; rw [h2]) | (refine wpList_fa rfl rfl rfl rfl rfl (by first | assumption | exact is_const (by decide)) (by first | assumption | exact is_const (by decide)) ?_; intro r m hr hrw) | (go_at_call 75; refine (sine_is _ _ (by assumption) _).mono ?_; rintro e w' ⟨r, rfl, hr, m, rfl⟩))
  go_ret
  refine ⟨_, rfl, by decide, ?_⟩
  (repeat with_reducible (first | exact Ext.refl _ | exact ext_alloc _ _ | refine Ext.drewN ?_ _ | refine Ext.drew1 ?_ | refine Ext.set ?_ (by dsimp only; omega) _ | refine Ext.alloc ?_ _))
set_option maxHeartbeats 4000000 in
set_option maxRecDepth 100000 in
theorem l03Pulse_any (bx t o c b s p : Nat) (w : World) (hb : Box w bx #[.float .f32 t, .float .f32 o, .float .f32 c, .float .f32 b, .float .f32 s]) :
    Calls Try.prog 85 #[.pointer (some ⟨bx, 0, none⟩), .float .f32 p] w fun e w' => ∃ r, e = .returned (.float .f32 r) ∧ cls .f32 r = flowC (cls .f32 o) (cls .f32 c) (cls .f32 p) ∧ Ext w w' := by
  obtain ⟨d0, d1, d2, d3, d4, dl⟩ := Box.cells5 hb
  clear hb
  have HP := is_self .f32 p
  have HO := is_self .f32 o
  have HC := is_self .f32 c
  unfold flowC
  cases h1 : fcmp .lss (ford .f32 (cls .f32 p) (cls .f32 o))
  rotate_left
  · rw [if_pos rfl]
    go_enter Try.func85, Try.ntmps85
    go_wp2_with (first | (refine wpList_fcmp rfl rfl rfl rfl rfl (by assumption) (by assumption) ?_; rw [h1]) | (refine wpList_fa rfl rfl rfl rfl rfl (by first | assumption | exact is_const (by decide)) (by first | assumption | exact is_const (by decide)) ?_; intro r m hr hrw) | (go_at_call 73; refine (l01Sine_is _ _ (by assumption) _).mono ?_; rintro e w' ⟨r, rfl, hr, m, rfl⟩))
    go_ret
    refine ⟨_, rfl, Is.out (by assumption), ?_⟩
    (repeat with_reducible (first | exact Ext.refl _ | exact ext_alloc _ _ | refine Ext.drewN ?_ _ | refine Ext.drew1 ?_ | refine Ext.set ?_ (by dsimp only; omega) _ | refine Ext.alloc ?_ _))
  rw [if_neg (by simp)]
  cases h2 : fcmp .lss (ford .f32 (cls .f32 p) (fop .add .f32 (cls .f32 o) (cls .f32 c)))
  rotate_left
  · rw [if_pos rfl]
    go_enter Try.func85, Try.ntmps85
    go_wp2_with (first | (refine wpList_fcmp rfl rfl rfl rfl rfl (by assumption) (by assumption) ?_; rw [h1]) | (refine wpList_fa rfl rfl rfl rfl rfl (by first | assumption | exact is_const (by decide)) (by first | assumption | exact is_const (by decide)) ?_; intro r m hr hrw) | (go_at_call 73; refine (l01Sine_is _ _ (by assumption) _).mono ?_; rintro e w' ⟨r, rfl, hr, m, rfl⟩))
    refine wp_region_many (by kernel_rfl) (by kernel_rfl) (by kernel_rfl) ?_
    repeat (with_reducible refine wpM_cons ?_; first
      | (refine wpM_fa rfl rfl rfl rfl rfl (by assumption) (by assumption) ?_; intro r hr hrw)
      | (refine wpM_fcmp rfl rfl rfl rfl rfl (by assumption) (by assumption) ?_; rw [h2])
      | (refine wpM_quiet rfl (fun K hK => ?_); go_simp; refine hK _ ?_; clear hK K))
    with_reducible refine wpM_nil ?_
    intro _ hw'
    obtain ⟨nq, hw''⟩ := hw'
    subst hw''
    go_wp2_with (first | (refine wpList_fa rfl rfl rfl rfl rfl (by first | assumption | exact is_const (by decide)) (by first | assumption | exact is_const (by decide)) ?_; intro r m hr hrw) | (go_at_call 73; refine (l01Sine_is _ _ (by assumption) _).mono ?_; rintro e w' ⟨r, rfl, hr, m, rfl⟩))
    refine wp_region_many (by kernel_rfl) (by kernel_rfl) (by kernel_rfl) ?_
    repeat (with_reducible refine wpM_cons ?_; first
      | (refine wpM_fa rfl rfl rfl rfl rfl (by assumption) (by assumption) ?_; intro r hr hrw)
      | (refine wpM_quiet rfl (fun K hK => ?_); go_simp; refine hK _ ?_; clear hK K))
    with_reducible refine wpM_nil ?_
    intro _ hw'
    obtain ⟨nq, hw''⟩ := hw'
    subst hw''
    go_wp2_with (first | (refine wpList_fa rfl rfl rfl rfl rfl (by first | assumption | exact is_const (by decide)) (by first | assumption | exact is_const (by decide)) ?_; intro r m hr hrw) | (go_at_call 73; refine (l01Sine_is _ _ (by assumption) _).mono ?_; rintro e w' ⟨r, rfl, hr, m, rfl⟩))
    go_ret
    refine ⟨_, rfl, Is.out (by assumption), ?_⟩
    (repeat with_reducible (first | exact Ext.refl _ | exact ext_alloc _ _ | refine Ext.drewN ?_ _ | refine Ext.drew1 ?_ | refine Ext.set ?_ (by dsimp only; omega) _ | refine Ext.alloc ?_ _))
  rw [if_neg (by simp)]
  go_enter Try.func85, Try.ntmps85
  go_wp2_with (first | (refine wpList_fcmp rfl rfl rfl rfl rfl (by assumption) (by assumption) ?_; rw [h1]) | (refine wpList_fa rfl rfl rfl rfl rfl (by first | assumption | exact is_const (by decide)) (by first | assumption | exact is_const (by decide)) ?_; intro r m hr hrw) | (go_at_call 73; refine (l01Sine_is _ _ (by assumption) _).mono ?_; rintro e w' ⟨r, rfl, hr, m, rfl⟩))
  refine wp_region_many (by kernel_rfl) (by kernel_rfl) (by kernel_rfl) ?_
  repeat (with_reducible refine wpM_cons ?_; first
    | (refine wpM_fa rfl rfl rfl rfl rfl (by assumption) (by assumption) ?_; intro r hr hrw)
    | (refine wpM_fcmp rfl rfl rfl rfl rfl (by assumption) (by assumption) ?_; rw [h2])
    | (refine wpM_quiet rfl (fun K hK => ?_); go_simp; refine hK _ ?_; clear hK K))
  with_reducible refine wpM_nil ?_
  intro _ hw'
  obtain ⟨nq, hw''⟩ := hw'
  subst hw''
  go_wp2_with (first | (refine wpList_fa rfl rfl rfl rfl rfl (by first | assumption | exact is_const (by decide)) (by first | assumption | exact is_const (by decide)) ?_; intro r m hr hrw) | (go_at_call 73; refine (l01Sine_is _ _ (by assumption) _).mono ?_; rintro e w' ⟨r, rfl, hr, m, rfl⟩))
  go_ret
  refine ⟨_, rfl, by decide, ?_⟩
  (repeat with_reducible (first | exact Ext.refl _ | exact ext_alloc _ _ | refine Ext.drewN ?_ _ | refine Ext.drew1 ?_ | refine Ext.set ?_ (by dsimp only; omega) _ | refine Ext.alloc ?_ _))
end Go.Proofs.Ytkmgkcbbbaioiab
