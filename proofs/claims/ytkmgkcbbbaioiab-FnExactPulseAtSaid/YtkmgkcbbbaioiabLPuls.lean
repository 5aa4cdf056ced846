/- The law on the flow at a phase. -/
import Derived.Test.YtkmgkcbbbaioiabP7
import Derived.Test.YtkmgkcbbbaioiabV4
import Derived.Deep.RegionHeld3
namespace Go.Proofs.Ytkmgkcbbbaioiab
open Go.RowKit Flt
set_option linter.unusedVariables false

set_option maxHeartbeats 8000000 in
set_option maxRecDepth 100000 in
theorem FnExactPulseAt_walk (tp0 to0 tc0 tb0 ts0 : Nat) (x1 : Nat) (w : World) (wtp0 : (Lit.float .f32 tp0).wf = true) (wto0 : (Lit.float .f32 to0).wf = true) (wtc0 : (Lit.float .f32 tc0).wf = true) (wtb0 : (Lit.float .f32 tb0).wf = true) (wts0 : (Lit.float .f32 ts0).wf = true) (wx1 : (Lit.float .f32 x1).wf = true) :
    Calls Try.prog 10 #[.agg #[.float .f32 tp0, .float .f32 to0, .float .f32 tc0, .float .f32 tb0, .float .f32 ts0], .float .f32 x1] w fun e w' => e = .returned (.bool true) ∧ Below w.heap.size w w' := by
  obtain ⟨O, R, hR⟩ : ∃ O R, pulseR (cls .f32 tp0) (cls .f32 to0) (cls .f32 tc0) (cls .f32 tb0) (cls .f32 ts0) (cls .f32 x1) = (R, O) := ⟨_, _, rfl⟩
  have HR := hid hR
  clear hR
  clear wtp0 wto0 wtc0 wtb0 wts0 wx1
  go_enter Try.func10, Try.ntmps10
  go_wp2_with fail
  obtain ⟨w0, hw0⟩ : ∃ u, u = (w.alloc (.cells #[.float .f32 tp0, .float .f32 to0, .float .f32 tc0, .float .f32 tb0, .float .f32 ts0] 53)) := ⟨_, rfl⟩
  rw [← hw0]
  have EX := hid (show Ext w w0 from by rw [hw0]; (repeat with_reducible (first | exact Ext.refl _ | exact ext_alloc _ _ | refine Ext.drewN ?_ _ | refine Ext.drew1 ?_ | refine Ext.set ?_ (by dsimp only; omega) _ | refine Ext.alloc ?_ _)))
  have A0 : Hid (Box w0 (w.heap.size) #[.float .f32 tp0, .float .f32 to0, .float .f32 tc0, .float .f32 tb0, .float .f32 ts0]) := by rw [hw0]; exact hid (Box.cast' (box_new (w := w) #[.float .f32 tp0, .float .f32 to0, .float .f32 tc0, .float .f32 tb0, .float .f32 ts0] 53) (by simp))
  have Z0 := hid (show w.heap.size + 1 ≤ w0.heap.size from by rw [hw0]; simp)
  clear hw0
  refine (toThroat_any _ _ _ _ _ _).mono ?_
  rintro e w1 ⟨rfl, E0⟩
  have EK : Ext w0 w1 := Ext.trans (by (repeat with_reducible (first | exact Ext.refl _ | exact ext_alloc _ _ | refine Ext.drewN ?_ _ | refine Ext.drew1 ?_ | refine Ext.set ?_ (by dsimp only; omega) _ | refine Ext.alloc ?_ _))) E0
  have Z1 := hid (show w0.heap.size ≤ w1.heap.size from Ext.size EK)
  replace A0 := hid (Box.ext A0.out EK)
  replace EX := hid (Ext.trans EX.out EK)
  clear EK E0
  obtain ⟨A00, A01, A02, A03, A04, A0l⟩ := Box.cells5 A0.out
  go_wp2_with fail
  refine (sPulseAt_any tp0 to0 tc0 tb0 ts0 x1 R O _ HR.out).mono ?_
  rintro e w2 ⟨Sv0, rfl, ST0, E0⟩
  clear A00 A01 A02 A03 A04 A0l
  have EK : Ext w1 w2 := Ext.trans (by (repeat with_reducible (first | exact Ext.refl _ | exact ext_alloc _ _ | refine Ext.drewN ?_ _ | refine Ext.drew1 ?_ | refine Ext.set ?_ (by dsimp only; omega) _ | refine Ext.alloc ?_ _))) E0
  have Z2 := hid (show w1.heap.size ≤ w2.heap.size from Ext.size EK)
  replace A0 := hid (Box.ext A0.out EK)
  replace EX := hid (Ext.trans EX.out EK)
  clear EK E0
  obtain ⟨A00, A01, A02, A03, A04, A0l⟩ := Box.cells5 A0.out
  go_wp2_with fail
  refine (toThroat_any _ _ _ _ _ _).mono ?_
  rintro e w3 ⟨rfl, E0⟩
  clear A00 A01 A02 A03 A04 A0l
  have EK : Ext w2 w3 := Ext.trans (by (repeat with_reducible (first | exact Ext.refl _ | exact ext_alloc _ _ | refine Ext.drewN ?_ _ | refine Ext.drew1 ?_ | refine Ext.set ?_ (by dsimp only; omega) _ | refine Ext.alloc ?_ _))) E0
  have Z3 := hid (show w2.heap.size ≤ w3.heap.size from Ext.size EK)
  replace A0 := hid (Box.ext A0.out EK)
  replace EX := hid (Ext.trans EX.out EK)
  clear EK E0
  obtain ⟨A00, A01, A02, A03, A04, A0l⟩ := Box.cells5 A0.out
  go_wp2_with fail
  refine (pulseAt_any tp0 to0 tc0 tb0 ts0 x1 R O _ HR.out).mono ?_
  rintro e w4 ⟨Gv0, rfl, GT0, E0⟩
  clear A00 A01 A02 A03 A04 A0l
  have EK : Ext w3 w4 := Ext.trans (by (repeat with_reducible (first | exact Ext.refl _ | exact ext_alloc _ _ | refine Ext.drewN ?_ _ | refine Ext.drew1 ?_ | refine Ext.set ?_ (by dsimp only; omega) _ | refine Ext.alloc ?_ _))) E0
  have Z4 := hid (show w3.heap.size ≤ w4.heap.size from Ext.size EK)
  replace A0 := hid (Box.ext A0.out EK)
  replace EX := hid (Ext.trans EX.out EK)
  clear EK E0
  obtain ⟨A00, A01, A02, A03, A04, A0l⟩ := Box.cells5 A0.out
  go_wp2_with (first | (refine wpList_fw rfl rfl Try.underlying33 Try.underlying37 rfl (by assumption) ?_; intro r m hr hrw) | (go_at_call 24; refine (sameFloat_is _ _ _ (by assumption) (by assumption) _).mono ?_; rintro e w' ⟨rfl, m, rfl⟩))
  go_ret
  refine ⟨rfl, ?_⟩
  exact (show Ext w _ from Ext.trans EX.out (by (repeat with_reducible (first | exact Ext.refl _ | exact ext_alloc _ _ | refine Ext.drewN ?_ _ | refine Ext.drew1 ?_ | refine Ext.set ?_ (by dsimp only; omega) _ | refine Ext.alloc ?_ _))))
end Go.Proofs.Ytkmgkcbbbaioiab
