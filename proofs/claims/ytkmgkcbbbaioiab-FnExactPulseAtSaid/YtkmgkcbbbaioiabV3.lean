/- Valid voices, new ones. -/
import Derived.Test.YtkmgkcbbbaioiabV2
namespace Go.Proofs.Ytkmgkcbbbaioiab
open Go.RowKit Flt
set_option linter.unusedVariables false

theorem validVoice_any (p n : Nat) (s : Int) (w : World) :
    Calls Try.prog 93 #[.agg #[.float .f32 p, .float .f32 n, .int .i64 s]] w fun e w' => e = .returned (.bool (voiceC (cls .f32 p) (cls .f32 n) s)) ∧ Ext w w' := by
  unfold voiceC
  cases h1 : phaseC (cls .f32 p)
  · go_enter Try.func93, Try.ntmps93
    go_wp2_with (first | (refine wpList_fcmp rfl rfl rfl rfl rfl (by first | exact is_const (by decide) | assumption | exact is_self _ _) (by first | exact is_const (by decide) | exact is_self _ _) ?_; (first | simp only [h1])) | (go_at_call 87; refine (isPhase_any _ _).mono ?_; rintro e w' ⟨rfl, rfl⟩; simp only [h1]) | (go_at_call 119; refine (isSeed_any _ _).mono ?_; rintro e w' ⟨rfl, rfl⟩; simp only [h4]) | (go_at_call 96; refine (isFinite_any _ _).mono ?_; rintro e w' ⟨rfl, m, rfl⟩; simp only [h3]))
    go_ret
    refine ⟨rfl, ?_⟩
    (repeat with_reducible (first | exact Ext.refl _ | exact ext_alloc _ _ | refine Ext.drewN ?_ _ | refine Ext.drew1 ?_ | refine Ext.set ?_ (by dsimp only; omega) _ | refine Ext.alloc ?_ _))
  cases h2 : fcmp .geq (ford .f32 (cls .f32 n) (some 1065353216))
  · go_enter Try.func93, Try.ntmps93
    go_wp2_with (first | (refine wpList_fcmp rfl rfl rfl rfl rfl (by first | exact is_const (by decide) | assumption | exact is_self _ _) (by first | exact is_const (by decide) | exact is_self _ _) ?_; (first | simp only [h1] | simp only [h2])) | (go_at_call 87; refine (isPhase_any _ _).mono ?_; rintro e w' ⟨rfl, rfl⟩; simp only [h1]) | (go_at_call 119; refine (isSeed_any _ _).mono ?_; rintro e w' ⟨rfl, rfl⟩; simp only [h4]) | (go_at_call 96; refine (isFinite_any _ _).mono ?_; rintro e w' ⟨rfl, m, rfl⟩; simp only [h3]))
    go_ret
    refine ⟨rfl, ?_⟩
    (repeat with_reducible (first | exact Ext.refl _ | exact ext_alloc _ _ | refine Ext.drewN ?_ _ | refine Ext.drew1 ?_ | refine Ext.set ?_ (by dsimp only; omega) _ | refine Ext.alloc ?_ _))
  cases h3 : fin32 (cls .f32 n)
  · go_enter Try.func93, Try.ntmps93
    go_wp2_with (first | (refine wpList_fcmp rfl rfl rfl rfl rfl (by first | exact is_const (by decide) | assumption | exact is_self _ _) (by first | exact is_const (by decide) | exact is_self _ _) ?_; (first | simp only [h1] | simp only [h2] | simp only [h3])) | (go_at_call 87; refine (isPhase_any _ _).mono ?_; rintro e w' ⟨rfl, rfl⟩; simp only [h1]) | (go_at_call 119; refine (isSeed_any _ _).mono ?_; rintro e w' ⟨rfl, rfl⟩; simp only [h4]) | (go_at_call 96; refine (isFinite_any _ _).mono ?_; rintro e w' ⟨rfl, m, rfl⟩; simp only [h3]))
    go_ret
    refine ⟨rfl, ?_⟩
    (repeat with_reducible (first | exact Ext.refl _ | exact ext_alloc _ _ | refine Ext.drewN ?_ _ | refine Ext.drew1 ?_ | refine Ext.set ?_ (by dsimp only; omega) _ | refine Ext.alloc ?_ _))
  cases h4 : seedB s
  · go_enter Try.func93, Try.ntmps93
    go_wp2_with (first | (refine wpList_fcmp rfl rfl rfl rfl rfl (by first | exact is_const (by decide) | assumption | exact is_self _ _) (by first | exact is_const (by decide) | exact is_self _ _) ?_; (first | simp only [h1] | simp only [h2] | simp only [h3] | simp only [h4])) | (go_at_call 87; refine (isPhase_any _ _).mono ?_; rintro e w' ⟨rfl, rfl⟩; simp only [h1]) | (go_at_call 119; refine (isSeed_any _ _).mono ?_; rintro e w' ⟨rfl, rfl⟩; simp only [h4]) | (go_at_call 96; refine (isFinite_any _ _).mono ?_; rintro e w' ⟨rfl, m, rfl⟩; simp only [h3]))
    go_ret
    refine ⟨rfl, ?_⟩
    (repeat with_reducible (first | exact Ext.refl _ | exact ext_alloc _ _ | refine Ext.drewN ?_ _ | refine Ext.drew1 ?_ | refine Ext.set ?_ (by dsimp only; omega) _ | refine Ext.alloc ?_ _))
  go_enter Try.func93, Try.ntmps93
  go_wp2_with (first | (refine wpList_fcmp rfl rfl rfl rfl rfl (by first | exact is_const (by decide) | assumption | exact is_self _ _) (by first | exact is_const (by decide) | exact is_self _ _) ?_; (first | simp only [h1] | simp only [h2] | simp only [h3] | simp only [h4])) | (go_at_call 87; refine (isPhase_any _ _).mono ?_; rintro e w' ⟨rfl, rfl⟩; simp only [h1]) | (go_at_call 119; refine (isSeed_any _ _).mono ?_; rintro e w' ⟨rfl, rfl⟩; simp only [h4]) | (go_at_call 96; refine (isFinite_any _ _).mono ?_; rintro e w' ⟨rfl, m, rfl⟩; simp only [h3]))
  go_ret
  refine ⟨rfl, ?_⟩
  (repeat with_reducible (first | exact Ext.refl _ | exact ext_alloc _ _ | refine Ext.drewN ?_ _ | refine Ext.drew1 ?_ | refine Ext.set ?_ (by dsimp only; omega) _ | refine Ext.alloc ?_ _))
theorem voice_eq (p n : Option Nat) (s : Int) : voiceC p n s = (phaseC p && (fin32 n && (fcmp .geq (ford .f32 n (some 1065353216)) && seedB s))) := by
  unfold voiceC
  cases phaseC p <;> cases fin32 n <;> cases fcmp .geq (ford .f32 n (some 1065353216)) <;> rfl
theorem l03Voice_any (x p n : Nat) (s : Int) (w : World) (hb : Box w x #[.float .f32 p, .float .f32 n, .int .i64 s]) :
    Calls Try.prog 91 #[.pointer (some ⟨x, 0, none⟩)] w fun e w' => e = .returned (.bool (voiceC (cls .f32 p) (cls .f32 n) s)) ∧ Ext w w' := by
  obtain ⟨c0, c1, c2, hlt⟩ := Box.cells3 hb
  clear hb
  rw [voice_eq]
  cases h1 : phaseC (cls .f32 p)
  · go_enter Try.func91, Try.ntmps91
    go_wp2_with (first | (refine wpList_fcmp rfl rfl rfl rfl rfl (by first | exact is_const (by decide) | assumption | exact is_self _ _) (by first | exact is_const (by decide) | exact is_self _ _) ?_; (first | simp only [h1])) | (go_at_call 84; refine (l03Phase_any _ _).mono ?_; rintro e w' ⟨rfl, rfl⟩; simp only [h1]) | (go_at_call 117; refine (l03Seed_any _ _).mono ?_; rintro e w' ⟨rfl, rfl⟩; simp only [h4]) | (go_at_call 66; refine (l01Finite_any _ _).mono ?_; rintro e w' ⟨rfl, m, rfl⟩; simp only [h3]))
    go_ret
    refine ⟨rfl, ?_⟩
    (repeat with_reducible (first | exact Ext.refl _ | exact ext_alloc _ _ | refine Ext.drewN ?_ _ | refine Ext.drew1 ?_ | refine Ext.set ?_ (by dsimp only; omega) _ | refine Ext.alloc ?_ _))
  cases h3 : fin32 (cls .f32 n)
  · go_enter Try.func91, Try.ntmps91
    go_wp2_with (first | (refine wpList_fcmp rfl rfl rfl rfl rfl (by first | exact is_const (by decide) | assumption | exact is_self _ _) (by first | exact is_const (by decide) | exact is_self _ _) ?_; (first | simp only [h1] | simp only [h3])) | (go_at_call 84; refine (l03Phase_any _ _).mono ?_; rintro e w' ⟨rfl, rfl⟩; simp only [h1]) | (go_at_call 117; refine (l03Seed_any _ _).mono ?_; rintro e w' ⟨rfl, rfl⟩; simp only [h4]) | (go_at_call 66; refine (l01Finite_any _ _).mono ?_; rintro e w' ⟨rfl, m, rfl⟩; simp only [h3]))
    go_ret
    refine ⟨rfl, ?_⟩
    (repeat with_reducible (first | exact Ext.refl _ | exact ext_alloc _ _ | refine Ext.drewN ?_ _ | refine Ext.drew1 ?_ | refine Ext.set ?_ (by dsimp only; omega) _ | refine Ext.alloc ?_ _))
  cases h2 : fcmp .geq (ford .f32 (cls .f32 n) (some 1065353216))
  · go_enter Try.func91, Try.ntmps91
    go_wp2_with (first | (refine wpList_fcmp rfl rfl rfl rfl rfl (by first | exact is_const (by decide) | assumption | exact is_self _ _) (by first | exact is_const (by decide) | exact is_self _ _) ?_; (first | simp only [h1] | simp only [h3] | simp only [h2])) | (go_at_call 84; refine (l03Phase_any _ _).mono ?_; rintro e w' ⟨rfl, rfl⟩; simp only [h1]) | (go_at_call 117; refine (l03Seed_any _ _).mono ?_; rintro e w' ⟨rfl, rfl⟩; simp only [h4]) | (go_at_call 66; refine (l01Finite_any _ _).mono ?_; rintro e w' ⟨rfl, m, rfl⟩; simp only [h3]))
    go_ret
    refine ⟨rfl, ?_⟩
    (repeat with_reducible (first | exact Ext.refl _ | exact ext_alloc _ _ | refine Ext.drewN ?_ _ | refine Ext.drew1 ?_ | refine Ext.set ?_ (by dsimp only; omega) _ | refine Ext.alloc ?_ _))
  cases h4 : seedB s
  · go_enter Try.func91, Try.ntmps91
    go_wp2_with (first | (refine wpList_fcmp rfl rfl rfl rfl rfl (by first | exact is_const (by decide) | assumption | exact is_self _ _) (by first | exact is_const (by decide) | exact is_self _ _) ?_; (first | simp only [h1] | simp only [h3] | simp only [h2] | simp only [h4])) | (go_at_call 84; refine (l03Phase_any _ _).mono ?_; rintro e w' ⟨rfl, rfl⟩; simp only [h1]) | (go_at_call 117; refine (l03Seed_any _ _).mono ?_; rintro e w' ⟨rfl, rfl⟩; simp only [h4]) | (go_at_call 66; refine (l01Finite_any _ _).mono ?_; rintro e w' ⟨rfl, m, rfl⟩; simp only [h3]))
    go_ret
    refine ⟨rfl, ?_⟩
    (repeat with_reducible (first | exact Ext.refl _ | exact ext_alloc _ _ | refine Ext.drewN ?_ _ | refine Ext.drew1 ?_ | refine Ext.set ?_ (by dsimp only; omega) _ | refine Ext.alloc ?_ _))
  go_enter Try.func91, Try.ntmps91
  go_wp2_with (first | (refine wpList_fcmp rfl rfl rfl rfl rfl (by first | exact is_const (by decide) | assumption | exact is_self _ _) (by first | exact is_const (by decide) | exact is_self _ _) ?_; (first | simp only [h1] | simp only [h3] | simp only [h2] | simp only [h4])) | (go_at_call 84; refine (l03Phase_any _ _).mono ?_; rintro e w' ⟨rfl, rfl⟩; simp only [h1]) | (go_at_call 117; refine (l03Seed_any _ _).mono ?_; rintro e w' ⟨rfl, rfl⟩; simp only [h4]) | (go_at_call 66; refine (l01Finite_any _ _).mono ?_; rintro e w' ⟨rfl, m, rfl⟩; simp only [h3]))
  go_ret
  refine ⟨rfl, ?_⟩
  (repeat with_reducible (first | exact Ext.refl _ | exact ext_alloc _ _ | refine Ext.drewN ?_ _ | refine Ext.drew1 ?_ | refine Ext.set ?_ (by dsimp only; omega) _ | refine Ext.alloc ?_ _))
def newV (p o c b s : Option Nat) (q : Int) : Bool × VR := if throatC p o c b s && seedB q then (true, ⟨some 0, p, q⟩) else (false, zeroV)
theorem Box.set3 {w : World} {b : Nat} {v0 v1 v2 : Value} (h : Box w b #[v0, v1, v2]) (u0 u1 u2 : Value) : Box (((w.setCell ⟨b, 0, none⟩ u0).setCell ⟨b, 1, none⟩ u1).setCell ⟨b, 2, none⟩ u2) b #[u0, u1, u2] := Box.eqv (box_set (j := 2) (box_set (j := 1) (box_set (j := 0) h u0) u1) u2) (by rfl)
theorem Box.all3 {w : World} {b : Nat} {v0 v1 v2 : Value} (h : Box w b #[v0, v1, v2]) :
    w.cell? ⟨b, 0, none⟩ = some v0 ∧ w.cell? ⟨b, 1, none⟩ = some v1 ∧ w.cell? ⟨b, 2, none⟩ = some v2 ∧ w.frozen? ⟨b, 0, none⟩ = false ∧ w.frozen? ⟨b, 1, none⟩ = false ∧ w.frozen? ⟨b, 2, none⟩ = false ∧ b < w.heap.size := ⟨h.cell 0, h.cell 1, h.cell 2, h.frozen 0, h.frozen 1, h.frozen 2, h.lt⟩
theorem ext_set3 {a w : World} {b : Nat} (h : Ext a w) (hb : a.heap.size ≤ b) (u0 u1 u2 : Value) : Ext a (((w.setCell ⟨b, 0, none⟩ u0).setCell ⟨b, 1, none⟩ u1).setCell ⟨b, 2, none⟩ u2) := Ext.set (Ext.set (Ext.set h hb _) hb _) hb _
theorem infoVoice : (Try.prog.info? 63).map (·.size) = some 3 := by kernel_rfl
theorem l03Throat_drewE (x p o c b s : Nat) (w : World) (hb : Box w x #[.float .f32 p, .float .f32 o, .float .f32 c, .float .f32 b, .float .f32 s]) :
    Calls Try.prog 83 #[.pointer (some ⟨x, 0, none⟩)] w fun e w' => e = .returned (.bool (throatC (cls .f32 p) (cls .f32 o) (cls .f32 c) (cls .f32 b) (cls .f32 s))) ∧ Ext w w' := by
  refine (l03Throat_drew _ _ _ _ _ _ _ hb).mono ?_
  rintro e w' ⟨rfl, m, rfl⟩
  exact ⟨rfl, Ext.drewN (Ext.refl _) _⟩
end Go.Proofs.Ytkmgkcbbbaioiab
