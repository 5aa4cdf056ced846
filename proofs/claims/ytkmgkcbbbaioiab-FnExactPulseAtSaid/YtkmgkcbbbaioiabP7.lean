/- The flow at a phase: the contracts of PulseAt. -/
import Derived.Test.YtkmgkcbbbaioiabP6
import Derived.Test.YtkmgkcbbbaioiabV3
import Derived.Test.YtkmgkcbbbaioiabV2
namespace Go.Proofs.Ytkmgkcbbbaioiab
open Go.RowKit Flt Ieee
set_option linter.unusedVariables false

noncomputable def pulseR (t o c b s p : Option Nat) : Option Nat × Bool := if throatC t o c b s && phaseC p then (flowC o c p, true) else (some 0, false)
theorem pulse_fin {t o c b s p : Nat} (hV : throatC (cls .f32 t) (cls .f32 o) (cls .f32 c) (cls .f32 b) (cls .f32 s) = true) (hp : phaseC (cls .f32 p) = true) : fin32 (flowC (cls .f32 o) (cls .f32 c) (cls .f32 p)) = true := by
  unfold throatC at hV
  simp only [Bool.and_eq_true] at hV
  exact flow_fin hV.2.1 hp
set_option maxHeartbeats 4000000 in
set_option maxRecDepth 100000 in
theorem pulseAt_any (t o c b s p : Nat) (R : Option Nat) (O : Bool) (w : World) (hR : pulseR (cls .f32 t) (cls .f32 o) (cls .f32 c) (cls .f32 b) (cls .f32 s) (cls .f32 p) = (R, O)) :
    Calls Try.prog 40 #[.agg #[.float .f32 t, .float .f32 o, .float .f32 c, .float .f32 b, .float .f32 s], .float .f32 p] w fun e w' => ∃ r, e = .returned (.tuple #[.float .f32 r, .bool O]) ∧ Is .f32 r R ∧ Ext w w' := by
  have HR := hid hR
  clear hR
  cases hV : throatC (cls .f32 t) (cls .f32 o) (cls .f32 c) (cls .f32 b) (cls .f32 s)
  · have e : O = false ∧ R = some 0 := by have := HR.out; unfold pulseR at this; rw [if_neg (by rw [hV]; simp)] at this; simpa [eq_comm, and_comm] using this
    obtain ⟨rfl, rfl⟩ := e
    go_enter Try.func40, Try.ntmps40
    go_wp2_with fail
    refine (validThroat_any t o c b s _).mono ?_
    rintro e w1 ⟨rfl, E1⟩
    rw [hV]
    go_wp2_with fail
    go_returns
    exact ⟨_, rfl, is_const (by decide), Ext.trans (by (repeat with_reducible (first | exact Ext.refl _ | exact ext_alloc _ _ | refine Ext.drewN ?_ _ | refine Ext.drew1 ?_ | refine Ext.set ?_ (by dsimp only; omega) _ | refine Ext.alloc ?_ _))) E1⟩
  cases hP : phaseC (cls .f32 p)
  · have e : O = false ∧ R = some 0 := by have := HR.out; unfold pulseR at this; rw [if_neg (by rw [hV, hP]; simp)] at this; simpa [eq_comm, and_comm] using this
    obtain ⟨rfl, rfl⟩ := e
    go_enter Try.func40, Try.ntmps40
    go_wp2_with fail
    refine (validThroat_any t o c b s _).mono ?_
    rintro e w1 ⟨rfl, E1⟩
    rw [hV]
    go_wp2_with (go_at_call 87; refine (isPhase_any _ _).mono ?_; rintro e w' ⟨rfl, rfl⟩; rw [hP])
    go_returns
    exact ⟨_, rfl, is_const (by decide), Ext.trans (by (repeat with_reducible (first | exact Ext.refl _ | exact ext_alloc _ _ | refine Ext.drewN ?_ _ | refine Ext.drew1 ?_ | refine Ext.set ?_ (by dsimp only; omega) _ | refine Ext.alloc ?_ _))) E1⟩
  have e : R = flowC (cls .f32 o) (cls .f32 c) (cls .f32 p) ∧ O = true := by have := HR.out; unfold pulseR at this; rw [if_pos (by rw [hV, hP]; rfl)] at this; simpa [eq_comm] using this
  obtain ⟨rfl, rfl⟩ := e
  have HF := hid (pulse_fin hV hP)
  go_enter Try.func40, Try.ntmps40
  go_wp2_with fail
  refine (validThroat_any t o c b s _).mono ?_
  rintro e w1 ⟨rfl, E1⟩
  have HB := hid (Box.ext (box_new (w := w) #[.float .f32 t, .float .f32 o, .float .f32 c, .float .f32 b, .float .f32 s] 55) E1)
  have EX := hid (show Ext w w1 from Ext.trans (by (repeat with_reducible (first | exact Ext.refl _ | exact ext_alloc _ _ | refine Ext.drewN ?_ _ | refine Ext.drew1 ?_ | refine Ext.set ?_ (by dsimp only; omega) _ | refine Ext.alloc ?_ _))) E1)
  clear E1
  rw [hV]
  obtain ⟨d0, d1, d2, d3, d4, dl⟩ := Box.cells5 HB.out
  go_wp2_with (first | (go_at_call 87; refine (isPhase_any _ _).mono ?_; rintro e w' ⟨rfl, rfl⟩; rw [hP]) | (go_at_call 88; with_reducible refine (flowAt_any t o c b s _ _).mono ?_; rintro e w2 ⟨r5, rfl, hr5, E5⟩))
  go_returns
  exact ⟨_, rfl, hr5, Ext.trans EX.out (Ext.trans (by (repeat with_reducible (first | exact Ext.refl _ | exact ext_alloc _ _ | refine Ext.drewN ?_ _ | refine Ext.drew1 ?_ | refine Ext.set ?_ (by dsimp only; omega) _ | refine Ext.alloc ?_ _))) E5)⟩
set_option maxHeartbeats 4000000 in
set_option maxRecDepth 100000 in
theorem sPulseAt_any (t o c b s p : Nat) (R : Option Nat) (O : Bool) (w : World) (hR : pulseR (cls .f32 t) (cls .f32 o) (cls .f32 c) (cls .f32 b) (cls .f32 s) (cls .f32 p) = (R, O)) :
    Calls Try.prog 38 #[.agg #[.float .f32 t, .float .f32 o, .float .f32 c, .float .f32 b, .float .f32 s], .float .f32 p] w fun e w' => ∃ r, e = .returned (.tuple #[.float .f32 r, .bool O]) ∧ Is .f32 r R ∧ Ext w w' := by
  have HR := hid hR
  clear hR
  cases hV : throatC (cls .f32 t) (cls .f32 o) (cls .f32 c) (cls .f32 b) (cls .f32 s)
  · have e : O = false ∧ R = some 0 := by have := HR.out; unfold pulseR at this; rw [if_neg (by rw [hV]; simp)] at this; simpa [eq_comm, and_comm] using this
    obtain ⟨rfl, rfl⟩ := e
    go_enter Try.func38, Try.ntmps38
    go_wp2_with fail
    refine (l03Throat_drew _ t o c b s _ (box_new _ _)).mono ?_
    rintro e w1 ⟨rfl, mq, hmq⟩
    have E1 : Ext (w.alloc (.cells #[.float .f32 t, .float .f32 o, .float .f32 c, .float .f32 b, .float .f32 s] 55)) w1 := by rw [hmq]; exact Ext.drewN (Ext.refl _) _
    clear hmq
    rw [hV]
    go_wp2_with fail
    go_returns
    exact ⟨_, rfl, is_const (by decide), Ext.trans (by (repeat with_reducible (first | exact Ext.refl _ | exact ext_alloc _ _ | refine Ext.drewN ?_ _ | refine Ext.drew1 ?_ | refine Ext.set ?_ (by dsimp only; omega) _ | refine Ext.alloc ?_ _))) E1⟩
  cases hP : phaseC (cls .f32 p)
  · have e : O = false ∧ R = some 0 := by have := HR.out; unfold pulseR at this; rw [if_neg (by rw [hV, hP]; simp)] at this; simpa [eq_comm, and_comm] using this
    obtain ⟨rfl, rfl⟩ := e
    go_enter Try.func38, Try.ntmps38
    go_wp2_with fail
    refine (l03Throat_drew _ t o c b s _ (box_new _ _)).mono ?_
    rintro e w1 ⟨rfl, mq, hmq⟩
    have E1 : Ext (w.alloc (.cells #[.float .f32 t, .float .f32 o, .float .f32 c, .float .f32 b, .float .f32 s] 55)) w1 := by rw [hmq]; exact Ext.drewN (Ext.refl _) _
    clear hmq
    rw [hV]
    go_wp2_with (go_at_call 84; refine (l03Phase_any _ _).mono ?_; rintro e w' ⟨rfl, rfl⟩; rw [hP])
    go_returns
    exact ⟨_, rfl, is_const (by decide), Ext.trans (by (repeat with_reducible (first | exact Ext.refl _ | exact ext_alloc _ _ | refine Ext.drewN ?_ _ | refine Ext.drew1 ?_ | refine Ext.set ?_ (by dsimp only; omega) _ | refine Ext.alloc ?_ _))) E1⟩
  have e : R = flowC (cls .f32 o) (cls .f32 c) (cls .f32 p) ∧ O = true := by have := HR.out; unfold pulseR at this; rw [if_pos (by rw [hV, hP]; rfl)] at this; simpa [eq_comm] using this
  obtain ⟨rfl, rfl⟩ := e
  have HF := hid (pulse_fin hV hP)
  go_enter Try.func38, Try.ntmps38
  go_wp2_with fail
  refine (l03Throat_drew _ t o c b s _ (box_new _ _)).mono ?_
  rintro e w1 ⟨rfl, mq, hmq⟩
  have E1 : Ext (w.alloc (.cells #[.float .f32 t, .float .f32 o, .float .f32 c, .float .f32 b, .float .f32 s] 55)) w1 := by rw [hmq]; exact Ext.drewN (Ext.refl _) _
  clear hmq
  have HB := hid (Box.ext (box_new (w := w) #[.float .f32 t, .float .f32 o, .float .f32 c, .float .f32 b, .float .f32 s] 55) E1)
  have EX := hid (show Ext w w1 from Ext.trans (by (repeat with_reducible (first | exact Ext.refl _ | exact ext_alloc _ _ | refine Ext.drewN ?_ _ | refine Ext.drew1 ?_ | refine Ext.set ?_ (by dsimp only; omega) _ | refine Ext.alloc ?_ _))) E1)
  clear E1
  rw [hV]
  obtain ⟨d0, d1, d2, d3, d4, dl⟩ := Box.cells5 HB.out
  go_wp2_with (first | (go_at_call 84; refine (l03Phase_any _ _).mono ?_; rintro e w' ⟨rfl, rfl⟩; rw [hP]) | (go_at_call 85; with_reducible refine (l03Pulse_any _ t o c b s _ _ (Box.ext HB.out (by (repeat with_reducible (first | exact Ext.refl _ | exact ext_alloc _ _ | refine Ext.drewN ?_ _ | refine Ext.drew1 ?_ | refine Ext.set ?_ (by dsimp only; omega) _ | refine Ext.alloc ?_ _))))).mono ?_; rintro e w2 ⟨r5, rfl, hr5, E5⟩) | (go_at_call 61; refine (l02Number_any _ _ hr5 _).mono ?_; rintro e w3 ⟨r6, rfl, hr6, m6, rfl⟩; rw [HF.out]))
  go_returns
  refine ⟨_, rfl, ?_, Ext.trans EX.out (Ext.trans (Ext.trans (by (repeat with_reducible (first | exact Ext.refl _ | exact ext_alloc _ _ | refine Ext.drewN ?_ _ | refine Ext.drew1 ?_ | refine Ext.set ?_ (by dsimp only; omega) _ | refine Ext.alloc ?_ _))) E5) (Ext.drewN (Ext.refl _) _))⟩
  unfold finR at hr6
  rw [HF.out] at hr6
  exact hr6
end Go.Proofs.Ytkmgkcbbbaioiab
