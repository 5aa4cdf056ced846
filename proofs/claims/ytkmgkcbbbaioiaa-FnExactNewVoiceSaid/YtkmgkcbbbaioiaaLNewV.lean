/- New voices. -/
import Derived.Test.YtkmgkcbbbaioiaaV4
import Derived.Deep.RegionHeld3
namespace Go.Proofs.Ytkmgkcbbbaioiaa
open Go.RowKit Flt
set_option linter.unusedVariables false

set_option maxHeartbeats 8000000 in
set_option maxRecDepth 100000 in
theorem FnExactNewVoice_walk (tp0 to0 tc0 tb0 ts0 : Nat) (x1 : Int) (w : World) (wtp0 : (Lit.float .f32 tp0).wf = true) (wto0 : (Lit.float .f32 to0).wf = true) (wtc0 : (Lit.float .f32 tc0).wf = true) (wtb0 : (Lit.float .f32 tb0).wf = true) (wts0 : (Lit.float .f32 ts0).wf = true) (wx1 : (Lit.int .i64 x1).wf = true) :
    Calls Try.prog 5 #[.agg #[.float .f32 tp0, .float .f32 to0, .float .f32 tc0, .float .f32 tb0, .float .f32 ts0], .int .i64 x1] w fun e w' => e = .returned (.bool true) ∧ Below w.heap.size w w' := by
  obtain ⟨O, R, hR⟩ : ∃ O R, newV (cls .f32 tp0) (cls .f32 to0) (cls .f32 tc0) (cls .f32 tb0) (cls .f32 ts0) x1 = (O, R) := ⟨_, _, rfl⟩
  have HR := hid hR
  clear hR
  clear wtp0 wto0 wtc0 wtb0 wts0 wx1
  go_enter Try.func5, Try.ntmps5
  go_wp2_with fail
  obtain ⟨w0, hw0⟩ : ∃ u, u = (w.alloc (.cells #[.float .f32 tp0, .float .f32 to0, .float .f32 tc0, .float .f32 tb0, .float .f32 ts0] 24)) := ⟨_, rfl⟩
  rw [← hw0]
  have EX := hid (show Ext w w0 from by rw [hw0]; (repeat with_reducible (first | exact Ext.refl _ | exact ext_alloc _ _ | refine Ext.drewN ?_ _ | refine Ext.drew1 ?_ | refine Ext.set ?_ (by dsimp only; omega) _ | refine Ext.alloc ?_ _)))
  have A0 : Hid (Box w0 (w.heap.size) #[.float .f32 tp0, .float .f32 to0, .float .f32 tc0, .float .f32 tb0, .float .f32 ts0]) := by rw [hw0]; exact hid (Box.cast' (box_new (w := w) #[.float .f32 tp0, .float .f32 to0, .float .f32 tc0, .float .f32 tb0, .float .f32 ts0] 24) (by simp))
  have Z0 := hid (show w.heap.size + 1 ≤ w0.heap.size from by rw [hw0]; simp)
  clear hw0
  refine (toThroat_any _ _ _ _ _ _).mono ?_
  rintro e w1 ⟨rfl, E0⟩
  have EK : Ext w0 w1 := Ext.trans (by (repeat with_reducible (first | exact Ext.refl _ | exact ext_alloc _ _ | refine Ext.drewN ?_ _ | refine Ext.drew1 ?_ | refine Ext.set ?_ (by dsimp only; omega) _ | refine Ext.alloc ?_ _))) E0
  have Z1 := hid (show w0.heap.size ≤ w1.heap.size from Ext.size EK)
  replace A0 := hid (Box.ext A0.out EK)
  replace EX := hid (Ext.trans EX.out EK)
  clear EK E0
  obtain ⟨A00, A01, A02, A03, A04, A0l⟩ := Box.cells5 A0.out
  go_wp2_with fail
  refine (sNewVoice_any tp0 to0 tc0 tb0 ts0 x1 R O _ HR.out).mono ?_
  rintro e w2 ⟨Sv0, rfl, ST0, E0⟩
  clear A00 A01 A02 A03 A04 A0l
  have EK : Ext w1 w2 := Ext.trans (by (repeat with_reducible (first | exact Ext.refl _ | exact ext_alloc _ _ | refine Ext.drewN ?_ _ | refine Ext.drew1 ?_ | refine Ext.set ?_ (by dsimp only; omega) _ | refine Ext.alloc ?_ _))) E0
  have Z2 := hid (show w1.heap.size ≤ w2.heap.size from Ext.size EK)
  replace A0 := hid (Box.ext A0.out EK)
  replace EX := hid (Ext.trans EX.out EK)
  clear EK E0
  obtain ⟨S0a, S0b, rfl, S0e, S0g⟩ := ST0
  replace S0e := hid S0e
  replace S0g := hid S0g
  obtain ⟨A00, A01, A02, A03, A04, A0l⟩ := Box.cells5 A0.out
  go_wp2_with fail
  refine (toThroat_any _ _ _ _ _ _).mono ?_
  rintro e w3 ⟨rfl, E0⟩
  clear A00 A01 A02 A03 A04 A0l
  have EK : Ext w2 w3 := Ext.trans (by (repeat with_reducible (first | exact Ext.refl _ | exact ext_alloc _ _ | refine Ext.drewN ?_ _ | refine Ext.drew1 ?_ | refine Ext.set ?_ (by dsimp only; omega) _ | refine Ext.alloc ?_ _))) E0
  have S0B := hid (Box.ext (box_new (w := w2) #[.float .f32 S0a, .float .f32 S0b, .int .i64 R.s] 32) E0)
  have Z3 := hid (show w2.heap.size + 1 ≤ w3.heap.size from by have := Ext.size E0; first | exact this | simpa using this)
  replace A0 := hid (Box.ext A0.out EK)
  replace EX := hid (Ext.trans EX.out EK)
  clear EK E0
  obtain ⟨A00, A01, A02, A03, A04, A0l⟩ := Box.cells5 A0.out
  obtain ⟨S0B0, S0B1, S0B2, S0Bl⟩ := Box.cells3 S0B.out
  go_wp2_with fail
  refine (newVoice_any tp0 to0 tc0 tb0 ts0 x1 R O _ HR.out).mono ?_
  rintro e w4 ⟨Gv0, rfl, GT0, E0⟩
  clear A00 A01 A02 A03 A04 A0l S0B0 S0B1 S0B2 S0Bl
  have EK : Ext w3 w4 := Ext.trans (by (repeat with_reducible (first | exact Ext.refl _ | exact ext_alloc _ _ | refine Ext.drewN ?_ _ | refine Ext.drew1 ?_ | refine Ext.set ?_ (by dsimp only; omega) _ | refine Ext.alloc ?_ _))) E0
  have Z4 := hid (show w3.heap.size ≤ w4.heap.size from Ext.size EK)
  replace A0 := hid (Box.ext A0.out EK)
  replace S0B := hid (Box.ext S0B.out EK)
  replace EX := hid (Ext.trans EX.out EK)
  clear EK E0
  obtain ⟨G0a, G0b, rfl, G0e, G0g⟩ := GT0
  replace G0e := hid G0e
  replace G0g := hid G0g
  obtain ⟨A00, A01, A02, A03, A04, A0l⟩ := Box.cells5 A0.out
  obtain ⟨S0B0, S0B1, S0B2, S0Bl⟩ := Box.cells3 S0B.out
  go_wp2_with fail
  refine (eqVoice_yes _ _ _ _ _ (by rw [G0e.out, S0e.out]) (by rw [G0g.out, S0g.out]) _).mono ?_
  rintro e w5 ⟨rfl, E0⟩
  clear A00 A01 A02 A03 A04 A0l S0B0 S0B1 S0B2 S0Bl
  have EK : Ext w4 w5 := Ext.trans (by (repeat with_reducible (first | exact Ext.refl _ | exact ext_alloc _ _ | refine Ext.drewN ?_ _ | refine Ext.drew1 ?_ | refine Ext.set ?_ (by dsimp only; omega) _ | refine Ext.alloc ?_ _))) E0
  have G0B := hid (Box.ext (box_new (w := w4) #[.float .f32 G0a, .float .f32 G0b, .int .i64 R.s] 32) E0)
  have Z5 := hid (show w4.heap.size + 1 ≤ w5.heap.size from by have := Ext.size E0; first | exact this | simpa using this)
  replace A0 := hid (Box.ext A0.out EK)
  replace S0B := hid (Box.ext S0B.out EK)
  replace EX := hid (Ext.trans EX.out EK)
  clear EK E0
  obtain ⟨A00, A01, A02, A03, A04, A0l⟩ := Box.cells5 A0.out
  obtain ⟨S0B0, S0B1, S0B2, S0Bl⟩ := Box.cells3 S0B.out
  obtain ⟨G0B0, G0B1, G0B2, G0Bl⟩ := Box.cells3 G0B.out
  go_wp2_with fail
  go_ret
  refine ⟨rfl, ?_⟩
  exact (show Ext w _ from Ext.trans EX.out (by (repeat with_reducible (first | exact Ext.refl _ | exact ext_alloc _ _ | refine Ext.drewN ?_ _ | refine Ext.drew1 ?_ | refine Ext.set ?_ (by dsimp only; omega) _ | refine Ext.alloc ?_ _))))
end Go.Proofs.Ytkmgkcbbbaioiaa
