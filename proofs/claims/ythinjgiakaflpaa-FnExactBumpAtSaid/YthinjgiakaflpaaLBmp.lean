/- The law on bumps. -/
import Derived.Test.YthinjgiakaflpaaR2
import Derived.Test.YthinjgiakaflpaaV4
import Derived.Deep.RegionHeld3
namespace Go.Proofs.Ythinjgiakaflpaa
open Go.RowKit Flt
set_option linter.unusedVariables false

set_option maxHeartbeats 8000000 in
set_option maxRecDepth 100000 in
theorem FnExactBumpAt_walk (aa0 as0 ad0 : Nat) (x1 : Nat) (w : World) (waa0 : (Lit.float .f32 aa0).wf = true) (was0 : (Lit.float .f32 as0).wf = true) (wad0 : (Lit.float .f32 ad0).wf = true) (wx1 : (Lit.float .f32 x1).wf = true) :
    Calls Try.prog 4 #[.agg #[.float .f32 aa0, .float .f32 as0, .float .f32 ad0], .float .f32 x1] w fun e w' => e = .returned (.bool true) ∧ Below w.heap.size w w' := by
  obtain ⟨R, O, hR⟩ : ∃ R O, bumpR (cls .f32 aa0) (cls .f32 as0) (cls .f32 ad0) (cls .f32 x1) = (R, O) := ⟨_, _, rfl⟩
  have HR := hid hR
  clear hR
  clear waa0 was0 wad0 wx1
  go_enter Try.func4, Try.ntmps4
  go_wp2_with fail
  obtain ⟨w0, hw0⟩ : ∃ u, u = (w.alloc (.cells #[.float .f32 aa0, .float .f32 as0, .float .f32 ad0] 29)) := ⟨_, rfl⟩
  rw [← hw0]
  have EX := hid (show Ext w w0 from by rw [hw0]; (repeat with_reducible (first | exact Ext.refl _ | exact ext_alloc _ _ | refine Ext.drewN ?_ _ | refine Ext.drew1 ?_ | refine Ext.set ?_ (by dsimp only; omega) _ | refine Ext.alloc ?_ _)))
  have A0 : Hid (Box w0 (w.heap.size) #[.float .f32 aa0, .float .f32 as0, .float .f32 ad0]) := by rw [hw0]; exact hid (Box.cast' (box_new (w := w) #[.float .f32 aa0, .float .f32 as0, .float .f32 ad0] 29) (by simp))
  have Z0 := hid (show w.heap.size + 1 ≤ w0.heap.size from by rw [hw0]; simp)
  clear hw0
  refine (toAccent_any _ _ _ _).mono ?_
  rintro e w1 ⟨rfl, E0⟩
  have EK : Ext w0 w1 := Ext.trans (by (repeat with_reducible (first | exact Ext.refl _ | exact ext_alloc _ _ | refine Ext.drewN ?_ _ | refine Ext.drew1 ?_ | refine Ext.set ?_ (by dsimp only; omega) _ | refine Ext.alloc ?_ _))) E0
  have Z1 := hid (show w0.heap.size ≤ w1.heap.size from Ext.size EK)
  replace A0 := hid (Box.ext A0.out EK)
  replace EX := hid (Ext.trans EX.out EK)
  clear EK E0
  obtain ⟨A00, A01, A02, A0l⟩ := Box.cells3 A0.out
  go_wp2_with fail
  refine (sBump_any aa0 as0 ad0 x1 R O _ HR.out).mono ?_
  rintro e w2 ⟨Sv0, rfl, ST0, E0⟩
  clear A00 A01 A02 A0l
  have EK : Ext w1 w2 := Ext.trans (by (repeat with_reducible (first | exact Ext.refl _ | exact ext_alloc _ _ | refine Ext.drewN ?_ _ | refine Ext.drew1 ?_ | refine Ext.set ?_ (by dsimp only; omega) _ | refine Ext.alloc ?_ _))) E0
  have Z2 := hid (show w1.heap.size ≤ w2.heap.size from Ext.size EK)
  replace A0 := hid (Box.ext A0.out EK)
  replace EX := hid (Ext.trans EX.out EK)
  clear EK E0
  obtain ⟨A00, A01, A02, A0l⟩ := Box.cells3 A0.out
  go_wp2_with fail
  refine (toAccent_any _ _ _ _).mono ?_
  rintro e w3 ⟨rfl, E0⟩
  clear A00 A01 A02 A0l
  have EK : Ext w2 w3 := Ext.trans (by (repeat with_reducible (first | exact Ext.refl _ | exact ext_alloc _ _ | refine Ext.drewN ?_ _ | refine Ext.drew1 ?_ | refine Ext.set ?_ (by dsimp only; omega) _ | refine Ext.alloc ?_ _))) E0
  have Z3 := hid (show w2.heap.size ≤ w3.heap.size from Ext.size EK)
  replace A0 := hid (Box.ext A0.out EK)
  replace EX := hid (Ext.trans EX.out EK)
  clear EK E0
  obtain ⟨A00, A01, A02, A0l⟩ := Box.cells3 A0.out
  go_wp2_with fail
  refine (bump_any aa0 as0 ad0 x1 R O _ HR.out).mono ?_
  rintro e w4 ⟨Gv0, rfl, GT0, E0⟩
  clear A00 A01 A02 A0l
  have EK : Ext w3 w4 := Ext.trans (by (repeat with_reducible (first | exact Ext.refl _ | exact ext_alloc _ _ | refine Ext.drewN ?_ _ | refine Ext.drew1 ?_ | refine Ext.set ?_ (by dsimp only; omega) _ | refine Ext.alloc ?_ _))) E0
  have Z4 := hid (show w3.heap.size ≤ w4.heap.size from Ext.size EK)
  replace A0 := hid (Box.ext A0.out EK)
  replace EX := hid (Ext.trans EX.out EK)
  clear EK E0
  obtain ⟨A00, A01, A02, A0l⟩ := Box.cells3 A0.out
  go_wp2_with (first | (refine wpList_fw rfl rfl Try.underlying22 Try.underlying26 rfl (by assumption) ?_; intro r m hr hrw) | (go_at_call 17; refine (sameFloat_is _ _ _ (by assumption) (by assumption) _).mono ?_; rintro e w' ⟨rfl, m, rfl⟩))
  go_ret
  refine ⟨rfl, ?_⟩
  exact (show Ext w _ from Ext.trans EX.out (by (repeat with_reducible (first | exact Ext.refl _ | exact ext_alloc _ _ | refine Ext.drewN ?_ _ | refine Ext.drew1 ?_ | refine Ext.set ?_ (by dsimp only; omega) _ | refine Ext.alloc ?_ _))))
end Go.Proofs.Ythinjgiakaflpaa
