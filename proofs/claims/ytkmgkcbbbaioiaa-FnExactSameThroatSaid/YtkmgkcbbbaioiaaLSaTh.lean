/- Throats that are the same. -/
import Derived.Test.YtkmgkcbbbaioiaaV6
import Derived.Deep.RegionHeld3
namespace Go.Proofs.Ytkmgkcbbbaioiaa
open Go.RowKit Flt
set_option linter.unusedVariables false

set_option maxHeartbeats 8000000 in
set_option maxRecDepth 100000 in
theorem FnExactSameThroat_walk (tp0 to0 tc0 tb0 ts0 : Nat) (tp1 to1 tc1 tb1 ts1 : Nat) (w : World) (wtp0 : (Lit.float .f32 tp0).wf = true) (wto0 : (Lit.float .f32 to0).wf = true) (wtc0 : (Lit.float .f32 tc0).wf = true) (wtb0 : (Lit.float .f32 tb0).wf = true) (wts0 : (Lit.float .f32 ts0).wf = true) (wtp1 : (Lit.float .f32 tp1).wf = true) (wto1 : (Lit.float .f32 to1).wf = true) (wtc1 : (Lit.float .f32 tc1).wf = true) (wtb1 : (Lit.float .f32 tb1).wf = true) (wts1 : (Lit.float .f32 ts1).wf = true) :
    Calls Try.prog 4 #[.agg #[.float .f32 tp0, .float .f32 to0, .float .f32 tc0, .float .f32 tb0, .float .f32 ts0], .agg #[.float .f32 tp1, .float .f32 to1, .float .f32 tc1, .float .f32 tb1, .float .f32 ts1]] w fun e w' => e = .returned (.bool true) ∧ Below w.heap.size w w' := by
  obtain ⟨V, hV⟩ : ∃ V, sameT tp0 to0 tc0 tb0 ts0 tp1 to1 tc1 tb1 ts1 = V := ⟨_, rfl⟩
  have HV := hid hV
  have Ktp0 := hid (wf32 wtp0)
  have Kto0 := hid (wf32 wto0)
  have Ktc0 := hid (wf32 wtc0)
  have Ktb0 := hid (wf32 wtb0)
  have Kts0 := hid (wf32 wts0)
  have Ktp1 := hid (wf32 wtp1)
  have Kto1 := hid (wf32 wto1)
  have Ktc1 := hid (wf32 wtc1)
  have Ktb1 := hid (wf32 wtb1)
  have Kts1 := hid (wf32 wts1)
  clear hV
  clear wtp0 wto0 wtc0 wtb0 wts0 wtp1 wto1 wtc1 wtb1 wts1
  go_enter Try.func4, Try.ntmps4
  go_wp2_with fail
  obtain ⟨w0, hw0⟩ : ∃ u, u = ((w.alloc (.cells #[.float .f32 tp0, .float .f32 to0, .float .f32 tc0, .float .f32 tb0, .float .f32 ts0] 24)).alloc (.cells #[.float .f32 tp1, .float .f32 to1, .float .f32 tc1, .float .f32 tb1, .float .f32 ts1] 24)) := ⟨_, rfl⟩
  rw [← hw0]
  have EX := hid (show Ext w w0 from by rw [hw0]; (repeat with_reducible (first | exact Ext.refl _ | exact ext_alloc _ _ | refine Ext.drewN ?_ _ | refine Ext.drew1 ?_ | refine Ext.set ?_ (by dsimp only; omega) _ | refine Ext.alloc ?_ _)))
  have A0 : Hid (Box w0 (w.heap.size) #[.float .f32 tp0, .float .f32 to0, .float .f32 tc0, .float .f32 tb0, .float .f32 ts0]) := by rw [hw0]; exact hid (Box.cast' (Box.alloc (box_new (w := w) #[.float .f32 tp0, .float .f32 to0, .float .f32 tc0, .float .f32 tb0, .float .f32 ts0] 24) _) (by simp))
  have A1 : Hid (Box w0 (w.heap.size + 1) #[.float .f32 tp1, .float .f32 to1, .float .f32 tc1, .float .f32 tb1, .float .f32 ts1]) := by rw [hw0]; exact hid (Box.cast' (box_new (w := (w.alloc (.cells #[.float .f32 tp0, .float .f32 to0, .float .f32 tc0, .float .f32 tb0, .float .f32 ts0] 24))) #[.float .f32 tp1, .float .f32 to1, .float .f32 tc1, .float .f32 tb1, .float .f32 ts1] 24) (by simp))
  have Z0 := hid (show w.heap.size + 2 ≤ w0.heap.size from by rw [hw0]; simp)
  clear hw0
  obtain ⟨A00, A01, A02, A03, A04, A0l⟩ := Box.cells5 A0.out
  obtain ⟨A10, A11, A12, A13, A14, A1l⟩ := Box.cells5 A1.out
  go_region_held3 (fun w' => (w'.cell? ⟨w.heap.size, 0, none⟩ = some (.float .f32 tp0) ∧ w'.cell? ⟨w.heap.size, 1, none⟩ = some (.float .f32 to0) ∧ w'.cell? ⟨w.heap.size, 2, none⟩ = some (.float .f32 tc0) ∧ w'.cell? ⟨w.heap.size, 3, none⟩ = some (.float .f32 tb0) ∧ w'.cell? ⟨w.heap.size, 4, none⟩ = some (.float .f32 ts0)) ∧ (w'.cell? ⟨w.heap.size + 1, 0, none⟩ = some (.float .f32 tp1) ∧ w'.cell? ⟨w.heap.size + 1, 1, none⟩ = some (.float .f32 to1) ∧ w'.cell? ⟨w.heap.size + 1, 2, none⟩ = some (.float .f32 tc1) ∧ w'.cell? ⟨w.heap.size + 1, 3, none⟩ = some (.float .f32 tb1) ∧ w'.cell? ⟨w.heap.size + 1, 4, none⟩ = some (.float .f32 ts1)))
    (first | (refine keep_of (c := w0) (S := fun w' => (w'.cell? ⟨w.heap.size, 0, none⟩ = some (.float .f32 tp0) ∧ w'.cell? ⟨w.heap.size, 1, none⟩ = some (.float .f32 to0) ∧ w'.cell? ⟨w.heap.size, 2, none⟩ = some (.float .f32 tc0) ∧ w'.cell? ⟨w.heap.size, 3, none⟩ = some (.float .f32 tb0) ∧ w'.cell? ⟨w.heap.size, 4, none⟩ = some (.float .f32 ts0)) ∧ (w'.cell? ⟨w.heap.size + 1, 0, none⟩ = some (.float .f32 tp1) ∧ w'.cell? ⟨w.heap.size + 1, 1, none⟩ = some (.float .f32 to1) ∧ w'.cell? ⟨w.heap.size + 1, 2, none⟩ = some (.float .f32 tc1) ∧ w'.cell? ⟨w.heap.size + 1, 3, none⟩ = some (.float .f32 tb1) ∧ w'.cell? ⟨w.heap.size + 1, 4, none⟩ = some (.float .f32 ts1))) (fun u hu => ⟨⟨Box.cell (Box.ext A0.out hu) 0, Box.cell (Box.ext A0.out hu) 1, Box.cell (Box.ext A0.out hu) 2, Box.cell (Box.ext A0.out hu) 3, Box.cell (Box.ext A0.out hu) 4⟩, ⟨Box.cell (Box.ext A1.out hu) 0, Box.cell (Box.ext A1.out hu) 1, Box.cell (Box.ext A1.out hu) 2, Box.cell (Box.ext A1.out hu) 3, Box.cell (Box.ext A1.out hu) 4⟩⟩) ?_; (repeat with_reducible (first | exact Ext.refl _ | exact ext_alloc _ _ | refine Ext.trans ?_ EC | refine Ext.trans ?_ ED0 | refine Ext.trans ?_ ED1 | refine Ext.drewN ?_ _ | refine Ext.drew1 ?_ | refine Ext.alloc ?_ _))))
    (first | (go_at_call 16; with_reducible refine (toThroat_any (tp0) (to0) (tc0) (tb0) (ts0) _).mono ?_; rintro e wD0 ⟨rfl, ED0⟩) | (go_at_call 16; with_reducible refine (toThroat_any (tp1) (to1) (tc1) (tb1) (ts1) _).mono ?_; rintro e wD1 ⟨rfl, ED1⟩) | (go_at_call 18; refine (sSameThroat_is tp0 to0 tc0 tb0 ts0 tp1 to1 tc1 tb1 ts1 V _ Ktp0.out Kto0.out Ktc0.out Ktb0.out Kts0.out Ktp1.out Kto1.out Ktc1.out Ktb1.out Kts1.out HV.out).mono ?_; rintro e wC ⟨rfl, EC⟩))
  clear A00 A01 A02 A03 A04 A0l A10 A11 A12 A13 A14 A1l
  all_goals
    have EK : Ext w0 wC := by (repeat with_reducible (first | exact Ext.refl _ | exact ext_alloc _ _ | refine Ext.trans ?_ EC | refine Ext.trans ?_ ED0 | refine Ext.trans ?_ ED1 | refine Ext.drewN ?_ _ | refine Ext.drew1 ?_ | refine Ext.alloc ?_ _))
    have Z1 := hid (show w0.heap.size ≤ wC.heap.size from Ext.size EK)
    obtain ⟨w1, hwS⟩ : ∃ u, u = wC := ⟨_, rfl⟩
    subst hwS
    clear ED0 ED1 EC
    replace A0 := hid (Box.ext A0.out EK)
    replace A1 := hid (Box.ext A1.out EK)
    replace EX := hid (Ext.trans EX.out EK)
    clear EK
    obtain ⟨A00, A01, A02, A03, A04, A0l⟩ := Box.cells5 A0.out
    obtain ⟨A10, A11, A12, A13, A14, A1l⟩ := Box.cells5 A1.out
    go_wp2_with fail
    obtain ⟨A00, A01, A02, A03, A04, A0l⟩ := Box.cells5 A0.out
    obtain ⟨A10, A11, A12, A13, A14, A1l⟩ := Box.cells5 A1.out
    go_region_held3 (fun w' => (w'.cell? ⟨w.heap.size, 0, none⟩ = some (.float .f32 tp0) ∧ w'.cell? ⟨w.heap.size, 1, none⟩ = some (.float .f32 to0) ∧ w'.cell? ⟨w.heap.size, 2, none⟩ = some (.float .f32 tc0) ∧ w'.cell? ⟨w.heap.size, 3, none⟩ = some (.float .f32 tb0) ∧ w'.cell? ⟨w.heap.size, 4, none⟩ = some (.float .f32 ts0)) ∧ (w'.cell? ⟨w.heap.size + 1, 0, none⟩ = some (.float .f32 tp1) ∧ w'.cell? ⟨w.heap.size + 1, 1, none⟩ = some (.float .f32 to1) ∧ w'.cell? ⟨w.heap.size + 1, 2, none⟩ = some (.float .f32 tc1) ∧ w'.cell? ⟨w.heap.size + 1, 3, none⟩ = some (.float .f32 tb1) ∧ w'.cell? ⟨w.heap.size + 1, 4, none⟩ = some (.float .f32 ts1)))
      (first | (refine keep_of (c := w1) (S := fun w' => (w'.cell? ⟨w.heap.size, 0, none⟩ = some (.float .f32 tp0) ∧ w'.cell? ⟨w.heap.size, 1, none⟩ = some (.float .f32 to0) ∧ w'.cell? ⟨w.heap.size, 2, none⟩ = some (.float .f32 tc0) ∧ w'.cell? ⟨w.heap.size, 3, none⟩ = some (.float .f32 tb0) ∧ w'.cell? ⟨w.heap.size, 4, none⟩ = some (.float .f32 ts0)) ∧ (w'.cell? ⟨w.heap.size + 1, 0, none⟩ = some (.float .f32 tp1) ∧ w'.cell? ⟨w.heap.size + 1, 1, none⟩ = some (.float .f32 to1) ∧ w'.cell? ⟨w.heap.size + 1, 2, none⟩ = some (.float .f32 tc1) ∧ w'.cell? ⟨w.heap.size + 1, 3, none⟩ = some (.float .f32 tb1) ∧ w'.cell? ⟨w.heap.size + 1, 4, none⟩ = some (.float .f32 ts1))) (fun u hu => ⟨⟨Box.cell (Box.ext A0.out hu) 0, Box.cell (Box.ext A0.out hu) 1, Box.cell (Box.ext A0.out hu) 2, Box.cell (Box.ext A0.out hu) 3, Box.cell (Box.ext A0.out hu) 4⟩, ⟨Box.cell (Box.ext A1.out hu) 0, Box.cell (Box.ext A1.out hu) 1, Box.cell (Box.ext A1.out hu) 2, Box.cell (Box.ext A1.out hu) 3, Box.cell (Box.ext A1.out hu) 4⟩⟩) ?_; (repeat with_reducible (first | exact Ext.refl _ | exact ext_alloc _ _ | refine Ext.trans ?_ EC | refine Ext.trans ?_ ED0 | refine Ext.trans ?_ ED1 | refine Ext.drewN ?_ _ | refine Ext.drew1 ?_ | refine Ext.alloc ?_ _))))
      (first | (go_at_call 16; with_reducible refine (toThroat_any (tp0) (to0) (tc0) (tb0) (ts0) _).mono ?_; rintro e wD0 ⟨rfl, ED0⟩) | (go_at_call 16; with_reducible refine (toThroat_any (tp1) (to1) (tc1) (tb1) (ts1) _).mono ?_; rintro e wD1 ⟨rfl, ED1⟩) | (go_at_call 19; refine (sameThroat_is tp0 to0 tc0 tb0 ts0 tp1 to1 tc1 tb1 ts1 V _ Ktp0.out Kto0.out Ktc0.out Ktb0.out Kts0.out Ktp1.out Kto1.out Ktc1.out Ktb1.out Kts1.out HV.out).mono ?_; rintro e wC ⟨rfl, EC⟩))
    clear A00 A01 A02 A03 A04 A0l A10 A11 A12 A13 A14 A1l
    all_goals
      have EK : Ext w1 wC := by (repeat with_reducible (first | exact Ext.refl _ | exact ext_alloc _ _ | refine Ext.trans ?_ EC | refine Ext.trans ?_ ED0 | refine Ext.trans ?_ ED1 | refine Ext.drewN ?_ _ | refine Ext.drew1 ?_ | refine Ext.alloc ?_ _))
      have Z2 := hid (show w1.heap.size ≤ wC.heap.size from Ext.size EK)
      obtain ⟨w2, hwS⟩ : ∃ u, u = wC := ⟨_, rfl⟩
      subst hwS
      clear ED0 ED1 EC
      replace A0 := hid (Box.ext A0.out EK)
      replace A1 := hid (Box.ext A1.out EK)
      replace EX := hid (Ext.trans EX.out EK)
      clear EK
      obtain ⟨A00, A01, A02, A03, A04, A0l⟩ := Box.cells5 A0.out
      obtain ⟨A10, A11, A12, A13, A14, A1l⟩ := Box.cells5 A1.out
      go_wp2_with fail
      go_ret
      refine ⟨rfl, ?_⟩
      exact (show Ext w _ from Ext.trans EX.out (by (repeat with_reducible (first | exact Ext.refl _ | exact ext_alloc _ _ | refine Ext.drewN ?_ _ | refine Ext.drew1 ?_ | refine Ext.set ?_ (by dsimp only; omega) _ | refine Ext.alloc ?_ _))))
end Go.Proofs.Ytkmgkcbbbaioiaa
