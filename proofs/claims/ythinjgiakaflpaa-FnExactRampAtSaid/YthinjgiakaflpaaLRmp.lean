/- The law on soft ramps. -/
import Derived.Test.YthinjgiakaflpaaR1
import Derived.Test.YthinjgiakaflpaaV4
import Derived.Deep.RegionHeld3
namespace Go.Proofs.Ythinjgiakaflpaa
open Go.RowKit Flt
set_option linter.unusedVariables false

set_option maxHeartbeats 8000000 in
set_option maxRecDepth 100000 in
theorem FnExactRampAt_walk (x0 : Nat) (w : World) (wx0 : (Lit.float .f32 x0).wf = true) :
    Calls Try.prog 3 #[.float .f32 x0] w fun e w' => e = .returned (.bool true) ∧ Below w.heap.size w w' := by
  obtain ⟨R, O, hR⟩ : ∃ R O, rampR (cls .f32 x0) = (R, O) := ⟨_, _, rfl⟩
  have HR := hid hR
  clear hR
  have KF := hid (wf32 wx0)
  clear wx0
  go_enter Try.func3, Try.ntmps3
  go_wp2_with fail
  have EX := hid (Ext.refl w)
  refine (sRamp_any x0 R O _ HR.out).mono ?_
  rintro e w1 ⟨Sv0, rfl, ST0, E0⟩
  have EK : Ext w w1 := Ext.trans (by (repeat with_reducible (first | exact Ext.refl _ | exact ext_alloc _ _ | refine Ext.drewN ?_ _ | refine Ext.drew1 ?_ | refine Ext.set ?_ (by dsimp only; omega) _ | refine Ext.alloc ?_ _))) E0
  have Z1 := hid (show w.heap.size ≤ w1.heap.size from Ext.size EK)
  replace EX := hid (Ext.trans EX.out EK)
  clear EK E0
  go_wp2_with fail
  refine (ramp_any x0 R O _ KF.out HR.out).mono ?_
  rintro e w2 ⟨Gv0, rfl, GT0, E0⟩
  have EK : Ext w1 w2 := Ext.trans (by (repeat with_reducible (first | exact Ext.refl _ | exact ext_alloc _ _ | refine Ext.drewN ?_ _ | refine Ext.drew1 ?_ | refine Ext.set ?_ (by dsimp only; omega) _ | refine Ext.alloc ?_ _))) E0
  have Z2 := hid (show w1.heap.size ≤ w2.heap.size from Ext.size EK)
  replace EX := hid (Ext.trans EX.out EK)
  clear EK E0
  go_wp2_with (first | (refine wpList_fw rfl rfl Try.underlying22 Try.underlying26 rfl (by assumption) ?_; intro r m hr hrw) | (go_at_call 17; refine (sameFloat_is _ _ _ (by assumption) (by assumption) _).mono ?_; rintro e w' ⟨rfl, m, rfl⟩))
  go_ret
  refine ⟨rfl, ?_⟩
  exact (show Ext w _ from Ext.trans EX.out (by (repeat with_reducible (first | exact Ext.refl _ | exact ext_alloc _ _ | refine Ext.drewN ?_ _ | refine Ext.drew1 ?_ | refine Ext.set ?_ (by dsimp only; omega) _ | refine Ext.alloc ?_ _))))
end Go.Proofs.Ythinjgiakaflpaa
