/- The law on codes of numbers. -/
import Derived.Test.YtpmjiabllmomjabKCod
import Derived.Test.YtpmjiabllmomjabV4
import Derived.Deep.RegionHeld3
namespace Go.Proofs.Ytpmjiabllmomjab
open Go.RowKit Flt
set_option linter.unusedVariables false

set_option maxHeartbeats 8000000 in
set_option maxRecDepth 100000 in
theorem FnExactCodeOf_walk (x0 : Nat) (w : World) (wx0 : (Lit.float .f32 x0).wf = true) :
    Calls Try.prog 3 #[.float .f32 x0] w fun e w' => e = .returned (.bool true) ∧ Below w.heap.size w w' := by
  obtain ⟨R, O, hR⟩ : ∃ R O, codeR x0 = (R, O) := ⟨_, _, rfl⟩
  have HR := hid hR
  clear hR
  have KF := hid (wf32 wx0)
  clear wx0
  go_enter Try.func3, Try.ntmps3
  go_wp2_with fail
  have EX := hid (Ext.refl w)
  refine (sCodeOf_any x0 R O _ KF.out HR.out).mono ?_
  rintro e w1 ⟨rfl, E0⟩
  have EK : Ext w w1 := Ext.trans (by (repeat with_reducible (first | exact Ext.refl _ | exact ext_alloc _ _ | refine Ext.drewN ?_ _ | refine Ext.drew1 ?_ | refine Ext.set ?_ (by dsimp only; omega) _ | refine Ext.alloc ?_ _))) E0
  have Z1 := hid (show w.heap.size ≤ w1.heap.size from Ext.size EK)
  replace EX := hid (Ext.trans EX.out EK)
  clear EK E0
  go_wp2_with fail
  refine (codeOf_any x0 R O _ KF.out HR.out).mono ?_
  rintro e w2 ⟨rfl, E0⟩
  have EK : Ext w1 w2 := Ext.trans (by (repeat with_reducible (first | exact Ext.refl _ | exact ext_alloc _ _ | refine Ext.drewN ?_ _ | refine Ext.drew1 ?_ | refine Ext.set ?_ (by dsimp only; omega) _ | refine Ext.alloc ?_ _))) E0
  have Z2 := hid (show w1.heap.size ≤ w2.heap.size from Ext.size EK)
  replace EX := hid (Ext.trans EX.out EK)
  clear EK E0
  go_wp2_with fail
  go_ret
  refine ⟨rfl, ?_⟩
  exact (show Ext w _ from Ext.trans EX.out (by (repeat with_reducible (first | exact Ext.refl _ | exact ext_alloc _ _ | refine Ext.drewN ?_ _ | refine Ext.drew1 ?_ | refine Ext.set ?_ (by dsimp only; omega) _ | refine Ext.alloc ?_ _))))
end Go.Proofs.Ytpmjiabllmomjab
