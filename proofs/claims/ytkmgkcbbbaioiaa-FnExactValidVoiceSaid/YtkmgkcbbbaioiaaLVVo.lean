/- Valid voices. -/
import Derived.Test.YtkmgkcbbbaioiaaV4
import Derived.Deep.RegionHeld3
namespace Go.Proofs.Ytkmgkcbbbaioiaa
open Go.RowKit Flt
set_option linter.unusedVariables false

set_option maxHeartbeats 8000000 in
set_option maxRecDepth 100000 in
theorem FnExactValidVoice_walk (vp0 vn0 : Nat) (vs0 : Int) (w : World) (wvp0 : (Lit.float .f32 vp0).wf = true) (wvn0 : (Lit.float .f32 vn0).wf = true) (wvs0 : (Lit.int .i64 vs0).wf = true) :
    Calls Try.prog 6 #[.agg #[.float .f32 vp0, .float .f32 vn0, .int .i64 vs0]] w fun e w' => e = .returned (.bool true) ∧ Below w.heap.size w w' := by
  obtain ⟨V, hV⟩ : ∃ V, voiceC (cls .f32 vp0) (cls .f32 vn0) vs0 = V := ⟨_, rfl⟩
  have HV := hid hV
  clear hV
  clear wvp0 wvn0 wvs0
  go_enter Try.func6, Try.ntmps6
  go_wp2_with fail
  obtain ⟨w0, hw0⟩ : ∃ u, u = (w.alloc (.cells #[.float .f32 vp0, .float .f32 vn0, .int .i64 vs0] 37)) := ⟨_, rfl⟩
  rw [← hw0]
  have EX := hid (show Ext w w0 from by rw [hw0]; (repeat with_reducible (first | exact Ext.refl _ | exact ext_alloc _ _ | refine Ext.drewN ?_ _ | refine Ext.drew1 ?_ | refine Ext.set ?_ (by dsimp only; omega) _ | refine Ext.alloc ?_ _)))
  have A0 : Hid (Box w0 (w.heap.size) #[.float .f32 vp0, .float .f32 vn0, .int .i64 vs0]) := by rw [hw0]; exact hid (Box.cast' (box_new (w := w) #[.float .f32 vp0, .float .f32 vn0, .int .i64 vs0] 37) (by simp))
  have Z0 := hid (show w.heap.size + 1 ≤ w0.heap.size from by rw [hw0]; simp)
  clear hw0
  refine (toVoice_any _ _ _ _).mono ?_
  rintro e w1 ⟨rfl, E0⟩
  have EK : Ext w0 w1 := Ext.trans (by (repeat with_reducible (first | exact Ext.refl _ | exact ext_alloc _ _ | refine Ext.drewN ?_ _ | refine Ext.drew1 ?_ | refine Ext.set ?_ (by dsimp only; omega) _ | refine Ext.alloc ?_ _))) E0
  have Z1 := hid (show w0.heap.size ≤ w1.heap.size from Ext.size EK)
  replace A0 := hid (Box.ext A0.out EK)
  replace EX := hid (Ext.trans EX.out EK)
  clear EK E0
  obtain ⟨A00, A01, A02, A0l⟩ := Box.cells3 A0.out
  go_wp2_with fail
  refine (sValidVoice_is vp0 vn0 vs0 V _ HV.out).mono ?_
  rintro e w2 ⟨rfl, E0⟩
  clear A00 A01 A02 A0l
  have EK : Ext w1 w2 := Ext.trans (by (repeat with_reducible (first | exact Ext.refl _ | exact ext_alloc _ _ | refine Ext.drewN ?_ _ | refine Ext.drew1 ?_ | refine Ext.set ?_ (by dsimp only; omega) _ | refine Ext.alloc ?_ _))) E0
  have Z2 := hid (show w1.heap.size ≤ w2.heap.size from Ext.size EK)
  replace A0 := hid (Box.ext A0.out EK)
  replace EX := hid (Ext.trans EX.out EK)
  clear EK E0
  obtain ⟨A00, A01, A02, A0l⟩ := Box.cells3 A0.out
  go_wp2_with fail
  refine (toVoice_any _ _ _ _).mono ?_
  rintro e w3 ⟨rfl, E0⟩
  clear A00 A01 A02 A0l
  have EK : Ext w2 w3 := Ext.trans (by (repeat with_reducible (first | exact Ext.refl _ | exact ext_alloc _ _ | refine Ext.drewN ?_ _ | refine Ext.drew1 ?_ | refine Ext.set ?_ (by dsimp only; omega) _ | refine Ext.alloc ?_ _))) E0
  have Z3 := hid (show w2.heap.size ≤ w3.heap.size from Ext.size EK)
  replace A0 := hid (Box.ext A0.out EK)
  replace EX := hid (Ext.trans EX.out EK)
  clear EK E0
  obtain ⟨A00, A01, A02, A0l⟩ := Box.cells3 A0.out
  go_wp2_with fail
  refine (validVoice_is vp0 vn0 vs0 V _ HV.out).mono ?_
  rintro e w4 ⟨rfl, E0⟩
  clear A00 A01 A02 A0l
  have EK : Ext w3 w4 := Ext.trans (by (repeat with_reducible (first | exact Ext.refl _ | exact ext_alloc _ _ | refine Ext.drewN ?_ _ | refine Ext.drew1 ?_ | refine Ext.set ?_ (by dsimp only; omega) _ | refine Ext.alloc ?_ _))) E0
  have Z4 := hid (show w3.heap.size ≤ w4.heap.size from Ext.size EK)
  replace A0 := hid (Box.ext A0.out EK)
  replace EX := hid (Ext.trans EX.out EK)
  clear EK E0
  obtain ⟨A00, A01, A02, A0l⟩ := Box.cells3 A0.out
  go_wp2_with fail
  go_ret
  refine ⟨rfl, ?_⟩
  exact (show Ext w _ from Ext.trans EX.out (by (repeat with_reducible (first | exact Ext.refl _ | exact ext_alloc _ _ | refine Ext.drewN ?_ _ | refine Ext.drew1 ?_ | refine Ext.set ?_ (by dsimp only; omega) _ | refine Ext.alloc ?_ _))))
end Go.Proofs.Ytkmgkcbbbaioiaa
