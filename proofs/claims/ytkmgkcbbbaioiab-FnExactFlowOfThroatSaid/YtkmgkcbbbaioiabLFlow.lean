/- The law on the flow of a throat. -/
import Derived.Test.YtkmgkcbbbaioiabP4
import Derived.Test.YtkmgkcbbbaioiabV4
import Derived.Deep.RegionHeld3
namespace Go.Proofs.Ytkmgkcbbbaioiab
open Go.RowKit Flt
set_option linter.unusedVariables false

set_option maxHeartbeats 8000000 in
set_option maxRecDepth 100000 in
theorem FnExactFlowOfThroat_walk (tp0 to0 tc0 tb0 ts0 : Nat) (x1 : Int) (w : World) (wtp0 : (Lit.float .f32 tp0).wf = true) (wto0 : (Lit.float .f32 to0).wf = true) (wtc0 : (Lit.float .f32 tc0).wf = true) (wtb0 : (Lit.float .f32 tb0).wf = true) (wts0 : (Lit.float .f32 ts0).wf = true) (wx1 : (Lit.int .i64 x1).wf = true) :
    Calls Try.prog 11 #[.agg #[.float .f32 tp0, .float .f32 to0, .float .f32 tc0, .float .f32 tb0, .float .f32 ts0], .int .i64 x1] w fun e w' => e = .returned (.bool true) ∧ Below w.heap.size w w' := by
  obtain ⟨O, R, hR⟩ : ∃ O R, flowR (cls .f32 tp0) (cls .f32 to0) (cls .f32 tc0) (cls .f32 tb0) (cls .f32 ts0) x1 = (R, O) := ⟨_, _, rfl⟩
  have hL0 : R.length ≤ 1048576 := by have := flow_len (cls .f32 tp0) (cls .f32 to0) (cls .f32 tc0) (cls .f32 tb0) (cls .f32 ts0) x1; rw [hR] at this; simp at this; omega
  have HR := hid hR
  clear hR
  have hr0 : ¬ (1 + (R.length : Int) < 0) := by omega
  clear wtp0 wto0 wtc0 wtb0 wts0 wx1
  go_enter Try.func11, Try.ntmps11
  go_wp2_with fail
  obtain ⟨w0, hw0⟩ : ∃ u, u = (w.alloc (.cells #[.float .f32 tp0, .float .f32 to0, .float .f32 tc0, .float .f32 tb0, .float .f32 ts0] 53)) := ⟨_, rfl⟩
  rw [← hw0]
  have EX := hid (show Ext w w0 from by rw [hw0]; (repeat with_reducible (first | exact Ext.refl _ | exact ext_alloc _ _ | refine Ext.drewN ?_ _ | refine Ext.drew1 ?_ | refine Ext.set ?_ (by dsimp only; omega) _ | refine Ext.alloc ?_ _)))
  have A0 : Hid (Box w0 (w.heap.size) #[.float .f32 tp0, .float .f32 to0, .float .f32 tc0, .float .f32 tb0, .float .f32 ts0]) := by rw [hw0]; exact hid (Box.cast' (box_new (w := w) #[.float .f32 tp0, .float .f32 to0, .float .f32 tc0, .float .f32 tb0, .float .f32 ts0] 53) (by simp))
  have Z0 := hid (show w.heap.size + 1 ≤ w0.heap.size from by rw [hw0]; simp)
  clear hw0
  refine (toThroat_any _ _ _ _ _ _).mono ?_
  rintro e w1 ⟨rfl, E0⟩
  have EK : Ext w0 w1 := Ext.trans (by (repeat with_reducible (first | exact Ext.refl _ | exact ext_alloc _ _ | refine Ext.drewN ?_ _ | refine Ext.drew1 ?_ | refine Ext.set ?_ (by dsimp only; omega) _ | refine Ext.alloc ?_ _))) E0
  have Z1 := hid (show w0.heap.size ≤ w1.heap.size from Ext.size EK)
  replace A0 := hid (Box.ext A0.out EK)
  replace EX := hid (Ext.trans EX.out EK)
  clear EK E0
  obtain ⟨A00, A01, A02, A03, A04, A0l⟩ := Box.cells5 A0.out
  go_wp2_with fail
  refine (sFlowT_any tp0 to0 tc0 tb0 ts0 x1 R O _ HR.out).mono ?_
  rintro e w2 ⟨Sv0, rfl, ST0, E0⟩
  clear A00 A01 A02 A03 A04 A0l
  have EK : Ext w1 w2 := Ext.trans (by (repeat with_reducible (first | exact Ext.refl _ | exact ext_alloc _ _ | refine Ext.drewN ?_ _ | refine Ext.drew1 ?_ | refine Ext.set ?_ (by dsimp only; omega) _ | refine Ext.alloc ?_ _))) E0
  have Z2 := hid (show w1.heap.size ≤ w2.heap.size from Ext.size EK)
  replace A0 := hid (Box.ext A0.out EK)
  replace EX := hid (Ext.trans EX.out EK)
  clear EK E0
  obtain ⟨S0a, S0c, S0z, rfl, S0F, S0e⟩ := ST0
  have S0F_ := hid (Own.base S0F (B' := w1.heap.size) (by first | exact Nat.le_refl _ | (simp; done) | (simp; omega)))
  have S0F_I := hid (Own.block S0F_.out)
  clear S0F
  replace S0e := hid S0e
  obtain ⟨A00, A01, A02, A03, A04, A0l⟩ := Box.cells5 A0.out
  go_wp2_with fail
  refine (toThroat_any _ _ _ _ _ _).mono ?_
  rintro e w3 ⟨rfl, E0⟩
  clear A00 A01 A02 A03 A04 A0l
  have EK : Ext w2 w3 := Ext.trans (by (repeat with_reducible (first | exact Ext.refl _ | exact ext_alloc _ _ | refine Ext.drewN ?_ _ | refine Ext.drew1 ?_ | refine Ext.set ?_ (by dsimp only; omega) _ | refine Ext.alloc ?_ _))) E0
  have Z3 := hid (show w2.heap.size ≤ w3.heap.size from Ext.size EK)
  replace A0 := hid (Box.ext A0.out EK)
  replace S0F_ := hid (Own.ext S0F_.out EK)
  replace EX := hid (Ext.trans EX.out EK)
  clear EK E0
  obtain ⟨A00, A01, A02, A03, A04, A0l⟩ := Box.cells5 A0.out
  go_wp2_with fail
  refine (flowT_any tp0 to0 tc0 tb0 ts0 x1 R O _ HR.out).mono ?_
  rintro e w4 ⟨Gv0, rfl, GT0, E0⟩
  clear A00 A01 A02 A03 A04 A0l
  have EK : Ext w3 w4 := Ext.trans (by (repeat with_reducible (first | exact Ext.refl _ | exact ext_alloc _ _ | refine Ext.drewN ?_ _ | refine Ext.drew1 ?_ | refine Ext.set ?_ (by dsimp only; omega) _ | refine Ext.alloc ?_ _))) E0
  have Z4 := hid (show w3.heap.size ≤ w4.heap.size from Ext.size EK)
  replace A0 := hid (Box.ext A0.out EK)
  replace S0F_ := hid (Own.ext S0F_.out EK)
  replace EX := hid (Ext.trans EX.out EK)
  clear EK E0
  obtain ⟨G0a, G0c, G0z, rfl, G0F, G0e⟩ := GT0
  have G0F_ := hid (Own.base G0F (B' := w3.heap.size) (by first | exact Nat.le_refl _ | (simp; done) | (simp; omega)))
  have G0F_I := hid (Own.block G0F_.out)
  clear G0F
  replace G0e := hid G0e
  obtain ⟨A00, A01, A02, A03, A04, A0l⟩ := Box.cells5 A0.out
  go_wp2_with fail
  refine (eqList_any _ _ _ _ _ G0z S0z _ (Holds.ext (own_hold G0F_.out) (by (repeat with_reducible (first | exact Ext.refl _ | exact ext_alloc _ _ | refine Ext.drewN ?_ _ | refine Ext.drew1 ?_ | refine Ext.set ?_ (by dsimp only; omega) _ | refine Ext.alloc ?_ _)))) (Holds.ext (own_hold S0F_.out) (by (repeat with_reducible (first | exact Ext.refl _ | exact ext_alloc _ _ | refine Ext.drewN ?_ _ | refine Ext.drew1 ?_ | refine Ext.set ?_ (by dsimp only; omega) _ | refine Ext.alloc ?_ _)))) hL0 (by rw [G0e.out, S0e.out])).mono ?_
  rintro e w5 ⟨rfl, E0⟩
  clear A00 A01 A02 A03 A04 A0l
  have EK : Ext w4 w5 := Ext.trans (by (repeat with_reducible (first | exact Ext.refl _ | exact ext_alloc _ _ | refine Ext.drewN ?_ _ | refine Ext.drew1 ?_ | refine Ext.set ?_ (by dsimp only; omega) _ | refine Ext.alloc ?_ _))) E0
  have Z5 := hid (show w4.heap.size ≤ w5.heap.size from Ext.size EK)
  replace A0 := hid (Box.ext A0.out EK)
  replace S0F_ := hid (Own.ext S0F_.out EK)
  replace G0F_ := hid (Own.ext G0F_.out EK)
  replace EX := hid (Ext.trans EX.out EK)
  clear EK E0
  obtain ⟨A00, A01, A02, A03, A04, A0l⟩ := Box.cells5 A0.out
  go_wp2_with fail
  refine (markF_any _ R.length _ (1) _ G0z _ G0F_.out hL0 (by omega)).mono ?_
  rintro e w6 ⟨rfl, MO, MB⟩
  clear A00 A01 A02 A03 A04 A0l
  have Z6 := hid (show w5.heap.size ≤ w6.heap.size from by have h9 := MB.size; first | exact h9 | (simp at h9; omega))
  replace A0 := hid (But.box MB A0.out (fun hk => by have h1 := G0F_I.out _ hk; have qZ0 := Z0.out; have qZ1 := Z1.out; have qZ2 := Z2.out; have qZ3 := Z3.out; have qZ4 := Z4.out; have qZ5 := Z5.out; omega))
  replace S0F_ := hid (But.own MB S0F_.out (fun k hk hk2 => by have h1 := G0F_I.out _ hk2; have h2 := S0F_I.out _ hk; have qZ0 := Z0.out; have qZ1 := Z1.out; have qZ2 := Z2.out; have qZ3 := Z3.out; have qZ4 := Z4.out; have qZ5 := Z5.out; omega))
  replace EX := hid (But.below MB (Ext.trans EX.out (by (repeat with_reducible (first | exact Ext.refl _ | exact ext_alloc _ _ | refine Ext.drewN ?_ _ | refine Ext.drew1 ?_ | refine Ext.set ?_ (by dsimp only; omega) _ | refine Ext.alloc ?_ _)))) (fun k hk => by have h1 := G0F_I.out _ hk; have qZ0 := Z0.out; have qZ1 := Z1.out; have qZ2 := Z2.out; have qZ3 := Z3.out; have qZ4 := Z4.out; have qZ5 := Z5.out; omega))
  replace G0F_ := hid MO
  clear MO MB
  obtain ⟨A00, A01, A02, A03, A04, A0l⟩ := Box.cells5 A0.out
  go_wp2_with fail
  refine (heldL_any _ _ _ (1) _ _ (Own.ext G0F_.out (by (repeat with_reducible (first | exact Ext.refl _ | exact ext_alloc _ _ | refine Ext.drewN ?_ _ | refine Ext.drew1 ?_ | refine Ext.set ?_ (by dsimp only; omega) _ | refine Ext.alloc ?_ _)))) hL0 (by omega)).mono ?_
  rintro e w7 ⟨rfl, E0⟩
  clear A00 A01 A02 A03 A04 A0l
  have EK : Ext w6 w7 := Ext.trans (by (repeat with_reducible (first | exact Ext.refl _ | exact ext_alloc _ _ | refine Ext.drewN ?_ _ | refine Ext.drew1 ?_ | refine Ext.set ?_ (by dsimp only; omega) _ | refine Ext.alloc ?_ _))) E0
  have Z7 := hid (show w6.heap.size ≤ w7.heap.size from Ext.size EK)
  replace A0 := hid (Box.ext A0.out EK)
  replace S0F_ := hid (Own.ext S0F_.out EK)
  replace G0F_ := hid (Own.ext G0F_.out EK)
  replace EX := hid (Ext.trans EX.out EK)
  clear EK E0
  obtain ⟨A00, A01, A02, A03, A04, A0l⟩ := Box.cells5 A0.out
  go_wp2_with fail
  refine (toThroat_any _ _ _ _ _ _).mono ?_
  rintro e w8 ⟨rfl, E0⟩
  clear A00 A01 A02 A03 A04 A0l
  have EK : Ext w7 w8 := Ext.trans (by (repeat with_reducible (first | exact Ext.refl _ | exact ext_alloc _ _ | refine Ext.drewN ?_ _ | refine Ext.drew1 ?_ | refine Ext.set ?_ (by dsimp only; omega) _ | refine Ext.alloc ?_ _))) E0
  have Z8 := hid (show w7.heap.size ≤ w8.heap.size from Ext.size EK)
  replace A0 := hid (Box.ext A0.out EK)
  replace S0F_ := hid (Own.ext S0F_.out EK)
  replace G0F_ := hid (Own.ext G0F_.out EK)
  replace EX := hid (Ext.trans EX.out EK)
  clear EK E0
  obtain ⟨A00, A01, A02, A03, A04, A0l⟩ := Box.cells5 A0.out
  go_wp2_with fail
  refine (flowT_any tp0 to0 tc0 tb0 ts0 x1 R O _ HR.out).mono ?_
  rintro e w9 ⟨Hv0, rfl, HT0, E0⟩
  clear A00 A01 A02 A03 A04 A0l
  have EK : Ext w8 w9 := Ext.trans (by (repeat with_reducible (first | exact Ext.refl _ | exact ext_alloc _ _ | refine Ext.drewN ?_ _ | refine Ext.drew1 ?_ | refine Ext.set ?_ (by dsimp only; omega) _ | refine Ext.alloc ?_ _))) E0
  have Z9 := hid (show w8.heap.size ≤ w9.heap.size from Ext.size EK)
  replace A0 := hid (Box.ext A0.out EK)
  replace S0F_ := hid (Own.ext S0F_.out EK)
  replace G0F_ := hid (Own.ext G0F_.out EK)
  replace EX := hid (Ext.trans EX.out EK)
  clear EK E0
  obtain ⟨H0a, H0c, H0z, rfl, H0F, H0e⟩ := HT0
  have H0F_ := hid (Own.base H0F (B' := w8.heap.size) (by first | exact Nat.le_refl _ | (simp; done) | (simp; omega)))
  have H0F_I := hid (Own.block H0F_.out)
  clear H0F
  replace H0e := hid H0e
  obtain ⟨A00, A01, A02, A03, A04, A0l⟩ := Box.cells5 A0.out
  go_wp2_with fail
  refine (eqList_any _ _ _ _ _ H0z S0z _ (Holds.ext (own_hold H0F_.out) (by (repeat with_reducible (first | exact Ext.refl _ | exact ext_alloc _ _ | refine Ext.drewN ?_ _ | refine Ext.drew1 ?_ | refine Ext.set ?_ (by dsimp only; omega) _ | refine Ext.alloc ?_ _)))) (Holds.ext (own_hold S0F_.out) (by (repeat with_reducible (first | exact Ext.refl _ | exact ext_alloc _ _ | refine Ext.drewN ?_ _ | refine Ext.drew1 ?_ | refine Ext.set ?_ (by dsimp only; omega) _ | refine Ext.alloc ?_ _)))) hL0 (by rw [H0e.out, S0e.out])).mono ?_
  rintro e w10 ⟨rfl, E0⟩
  clear A00 A01 A02 A03 A04 A0l
  have EK : Ext w9 w10 := Ext.trans (by (repeat with_reducible (first | exact Ext.refl _ | exact ext_alloc _ _ | refine Ext.drewN ?_ _ | refine Ext.drew1 ?_ | refine Ext.set ?_ (by dsimp only; omega) _ | refine Ext.alloc ?_ _))) E0
  have Z10 := hid (show w9.heap.size ≤ w10.heap.size from Ext.size EK)
  replace A0 := hid (Box.ext A0.out EK)
  replace S0F_ := hid (Own.ext S0F_.out EK)
  replace G0F_ := hid (Own.ext G0F_.out EK)
  replace H0F_ := hid (Own.ext H0F_.out EK)
  replace EX := hid (Ext.trans EX.out EK)
  clear EK E0
  obtain ⟨A00, A01, A02, A03, A04, A0l⟩ := Box.cells5 A0.out
  go_wp2_with fail
  refine (heldL_any _ _ _ (1) _ _ (Own.ext G0F_.out (by (repeat with_reducible (first | exact Ext.refl _ | exact ext_alloc _ _ | refine Ext.drewN ?_ _ | refine Ext.drew1 ?_ | refine Ext.set ?_ (by dsimp only; omega) _ | refine Ext.alloc ?_ _)))) hL0 (by omega)).mono ?_
  rintro e w11 ⟨rfl, E0⟩
  clear A00 A01 A02 A03 A04 A0l
  have EK : Ext w10 w11 := Ext.trans (by (repeat with_reducible (first | exact Ext.refl _ | exact ext_alloc _ _ | refine Ext.drewN ?_ _ | refine Ext.drew1 ?_ | refine Ext.set ?_ (by dsimp only; omega) _ | refine Ext.alloc ?_ _))) E0
  have Z11 := hid (show w10.heap.size ≤ w11.heap.size from Ext.size EK)
  replace A0 := hid (Box.ext A0.out EK)
  replace S0F_ := hid (Own.ext S0F_.out EK)
  replace G0F_ := hid (Own.ext G0F_.out EK)
  replace H0F_ := hid (Own.ext H0F_.out EK)
  replace EX := hid (Ext.trans EX.out EK)
  clear EK E0
  obtain ⟨A00, A01, A02, A03, A04, A0l⟩ := Box.cells5 A0.out
  go_wp2_with fail
  go_ret
  refine ⟨rfl, ?_⟩
  exact (show Ext w _ from Ext.trans EX.out (by (repeat with_reducible (first | exact Ext.refl _ | exact ext_alloc _ _ | refine Ext.drewN ?_ _ | refine Ext.drew1 ?_ | refine Ext.set ?_ (by dsimp only; omega) _ | refine Ext.alloc ?_ _))))
end Go.Proofs.Ytkmgkcbbbaioiab
