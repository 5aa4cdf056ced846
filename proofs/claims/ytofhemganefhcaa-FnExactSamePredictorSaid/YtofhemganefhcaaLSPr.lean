/- The law on predictors that are the same. -/
import Derived.Test.YtofhemganefhcaaW20
import Derived.Test.YtofhemganefhcaaW9
import Derived.Test.YtofhemganefhcaaV4
import Derived.Test.YtofhemganefhcaaT18
import Derived.Deep.RegionHeld3
namespace Go.Proofs.Ytofhemganefhcaa
open Go.RowKit Flt
set_option linter.unusedVariables false

set_option maxHeartbeats 8000000 in
set_option maxRecDepth 100000 in
theorem FnExactSamePredictor_walk (a0 : Option Addr) (n0 c0 : Nat) (z0 : List Nat) (g0 : Nat) (a1 : Option Addr) (n1 c1 : Nat) (z1 : List Nat) (g1 : Nat) (w : World) (w0 : IsRowF .f32 w a0 n0 c0 z0) (wg0 : (Lit.float .f32 g0).wf = true) (w1 : IsRowF .f32 w a1 n1 c1 z1) (wg1 : (Lit.float .f32 g1).wf = true) :
    Calls Try.prog 4 #[.agg #[.slice a0 n0 c0, .float .f32 g0], .agg #[.slice a1 n1 c1, .float .f32 g1]] w fun e w' => e = .returned (.bool true) ∧ Below w.heap.size w w' := by
  have hmx0 : n0 ≤ maxLen := row_max w0
  have hmx1 : n1 ≤ maxLen := row_max w1
  by_cases hgn0 : (1048576 : Int) < (n0 : Int)
  · clear wg0 wg1 w0 w1
    go_enter Try.func4, Try.ntmps4
    go_wp2_with fail
    obtain ⟨w0, hw0⟩ : ∃ u, u = ((w.alloc (.cells #[.slice a0 n0 c0, .float .f32 g0] 25)).alloc (.cells #[.slice a1 n1 c1, .float .f32 g1] 25)) := ⟨_, rfl⟩
    rw [← hw0]
    have EX0 := hid (show Ext w w0 from by rw [hw0]; (repeat with_reducible (first | exact Ext.refl _ | exact ext_alloc _ _ | refine Ext.drewN ?_ _ | refine Ext.drew1 ?_ | refine Ext.set ?_ (by dsimp only; omega) _ | refine Ext.alloc ?_ _)))
    have A0 : Hid (Box w0 (w.heap.size) #[.slice a0 n0 c0, .float .f32 g0]) := by rw [hw0]; exact hid (Box.cast' (Box.alloc (box_new (w := w) #[.slice a0 n0 c0, .float .f32 g0] 25) _) (by simp))
    have A1 : Hid (Box w0 (w.heap.size + 1) #[.slice a1 n1 c1, .float .f32 g1]) := by rw [hw0]; exact hid (Box.cast' (box_new (w := (w.alloc (.cells #[.slice a0 n0 c0, .float .f32 g0] 25))) #[.slice a1 n1 c1, .float .f32 g1] 25) (by simp))
    clear hw0
    refine (szPredictor_no _ _ _ _ _ hmx0 (by omega) (by omega) _).mono ?_
    rintro e u0 ⟨rfl, E0⟩
    go_wp2
    go_ret
    refine ⟨rfl, ?_⟩
    exact (show Ext w _ from Ext.trans EX0.out (Ext.trans E0 (by (repeat with_reducible (first | exact Ext.refl _ | exact ext_alloc _ _ | refine Ext.drewN ?_ _ | refine Ext.drew1 ?_ | refine Ext.set ?_ (by dsimp only; omega) _ | refine Ext.alloc ?_ _)))))
  have hs0 : ¬ ((1048576 : Int) - (n0 : Int) < 0) := by omega
  by_cases hgn1 : (1048576 : Int) - (n0 : Int) < (n1 : Int)
  · clear wg0 wg1 w0 w1
    go_enter Try.func4, Try.ntmps4
    go_wp2_with fail
    obtain ⟨w0, hw0⟩ : ∃ u, u = ((w.alloc (.cells #[.slice a0 n0 c0, .float .f32 g0] 25)).alloc (.cells #[.slice a1 n1 c1, .float .f32 g1] 25)) := ⟨_, rfl⟩
    rw [← hw0]
    have EX0 := hid (show Ext w w0 from by rw [hw0]; (repeat with_reducible (first | exact Ext.refl _ | exact ext_alloc _ _ | refine Ext.drewN ?_ _ | refine Ext.drew1 ?_ | refine Ext.set ?_ (by dsimp only; omega) _ | refine Ext.alloc ?_ _)))
    have A0 : Hid (Box w0 (w.heap.size) #[.slice a0 n0 c0, .float .f32 g0]) := by rw [hw0]; exact hid (Box.cast' (Box.alloc (box_new (w := w) #[.slice a0 n0 c0, .float .f32 g0] 25) _) (by simp))
    have A1 : Hid (Box w0 (w.heap.size + 1) #[.slice a1 n1 c1, .float .f32 g1]) := by rw [hw0]; exact hid (Box.cast' (box_new (w := (w.alloc (.cells #[.slice a0 n0 c0, .float .f32 g0] 25))) #[.slice a1 n1 c1, .float .f32 g1] 25) (by simp))
    clear hw0
    refine (szPredictor_yes _ _ _ _ _ (by omega) (by omega) _).mono ?_
    rintro e u0 ⟨rfl, E0⟩
    have EX1 := hid (Ext.trans EX0.out E0)
    replace A0 := hid (Box.ext A0.out E0)
    replace A1 := hid (Box.ext A1.out E0)
    clear E0
    obtain ⟨x00, x01, x0l⟩ := Box.cells2 A0.out
    obtain ⟨x10, x11, x1l⟩ := Box.cells2 A1.out
    go_wp2_with fail
    refine (szPredictor_no _ _ _ _ _ hmx1 (by omega) (by omega) _).mono ?_
    rintro e u1 ⟨rfl, E0⟩
    go_wp2
    go_ret
    refine ⟨rfl, ?_⟩
    exact (show Ext w _ from Ext.trans EX1.out (Ext.trans E0 (by (repeat with_reducible (first | exact Ext.refl _ | exact ext_alloc _ _ | refine Ext.drewN ?_ _ | refine Ext.drew1 ?_ | refine Ext.set ?_ (by dsimp only; omega) _ | refine Ext.alloc ?_ _)))))
  have hs1 : ¬ ((1048576 : Int) - (n0 : Int) - (n1 : Int) < 0) := by omega
  have hn0 : n0 ≤ 1048576 := by omega
  have Rw0 := hid w0
  have hn1 : n1 ≤ 1048576 := by omega
  have Rw1 := hid w1
  have Kw0 := hid (row_words w0)
  have Kw1 := hid (row_words w1)
  obtain ⟨V, hV⟩ : ∃ V, (eqW g0 g1 && sameB (z0.take n0) (z1.take n1)) = V := ⟨_, rfl⟩
  have HV := hid hV
  have KF0 := hid (wf32 wg0)
  have KF1 := hid (wf32 wg1)
  clear hV
  clear wg0 wg1 w0 w1 hmx0 hmx1 hgn0 hgn1
  go_enter Try.func4, Try.ntmps4
  go_wp2_with fail
  obtain ⟨w0, hw0⟩ : ∃ u, u = ((w.alloc (.cells #[.slice a0 n0 c0, .float .f32 g0] 25)).alloc (.cells #[.slice a1 n1 c1, .float .f32 g1] 25)) := ⟨_, rfl⟩
  rw [← hw0]
  have EX := hid (show Ext w w0 from by rw [hw0]; (repeat with_reducible (first | exact Ext.refl _ | exact ext_alloc _ _ | refine Ext.drewN ?_ _ | refine Ext.drew1 ?_ | refine Ext.set ?_ (by dsimp only; omega) _ | refine Ext.alloc ?_ _)))
  have A0 : Hid (Box w0 (w.heap.size) #[.slice a0 n0 c0, .float .f32 g0]) := by rw [hw0]; exact hid (Box.cast' (Box.alloc (box_new (w := w) #[.slice a0 n0 c0, .float .f32 g0] 25) _) (by simp))
  have A1 : Hid (Box w0 (w.heap.size + 1) #[.slice a1 n1 c1, .float .f32 g1]) := by rw [hw0]; exact hid (Box.cast' (box_new (w := (w.alloc (.cells #[.slice a0 n0 c0, .float .f32 g0] 25))) #[.slice a1 n1 c1, .float .f32 g1] 25) (by simp))
  have Z0 := hid (show w.heap.size + 2 ≤ w0.heap.size from by rw [hw0]; simp)
  clear hw0
  refine (szPredictor_yes _ _ _ _ _ (by omega) (by omega) _).mono ?_
  rintro e w1 ⟨rfl, E0⟩
  have EK : Ext w0 w1 := Ext.trans (by (repeat with_reducible (first | exact Ext.refl _ | exact ext_alloc _ _ | refine Ext.drewN ?_ _ | refine Ext.drew1 ?_ | refine Ext.set ?_ (by dsimp only; omega) _ | refine Ext.alloc ?_ _))) E0
  have Z1 := hid (show w0.heap.size ≤ w1.heap.size from Ext.size EK)
  replace A0 := hid (Box.ext A0.out EK)
  replace A1 := hid (Box.ext A1.out EK)
  replace EX := hid (Ext.trans EX.out EK)
  clear EK E0
  obtain ⟨A00, A01, A0l⟩ := Box.cells2 A0.out
  obtain ⟨A10, A11, A1l⟩ := Box.cells2 A1.out
  go_wp2_with fail
  refine (szPredictor_yes _ _ _ _ _ (by omega) (by omega) _).mono ?_
  rintro e w2 ⟨rfl, E0⟩
  clear A00 A01 A0l A10 A11 A1l
  have EK : Ext w1 w2 := Ext.trans (by (repeat with_reducible (first | exact Ext.refl _ | exact ext_alloc _ _ | refine Ext.drewN ?_ _ | refine Ext.drew1 ?_ | refine Ext.set ?_ (by dsimp only; omega) _ | refine Ext.alloc ?_ _))) E0
  have Z2 := hid (show w1.heap.size ≤ w2.heap.size from Ext.size EK)
  replace A0 := hid (Box.ext A0.out EK)
  replace A1 := hid (Box.ext A1.out EK)
  replace EX := hid (Ext.trans EX.out EK)
  clear EK E0
  obtain ⟨A00, A01, A0l⟩ := Box.cells2 A0.out
  obtain ⟨A10, A11, A1l⟩ := Box.cells2 A1.out
  go_wp2_with fail
  obtain ⟨A00, A01, A0l⟩ := Box.cells2 A0.out
  obtain ⟨A10, A11, A1l⟩ := Box.cells2 A1.out
  go_region_held3 (fun w' => (w'.cell? ⟨w.heap.size, 0, none⟩ = some (.slice a0 n0 c0) ∧ w'.cell? ⟨w.heap.size, 1, none⟩ = some (.float .f32 g0)) ∧ (w'.cell? ⟨w.heap.size + 1, 0, none⟩ = some (.slice a1 n1 c1) ∧ w'.cell? ⟨w.heap.size + 1, 1, none⟩ = some (.float .f32 g1)))
    (first | (refine keep_of (c := w2) (S := fun w' => (w'.cell? ⟨w.heap.size, 0, none⟩ = some (.slice a0 n0 c0) ∧ w'.cell? ⟨w.heap.size, 1, none⟩ = some (.float .f32 g0)) ∧ (w'.cell? ⟨w.heap.size + 1, 0, none⟩ = some (.slice a1 n1 c1) ∧ w'.cell? ⟨w.heap.size + 1, 1, none⟩ = some (.float .f32 g1))) (fun u hu => ⟨⟨Box.cell (Box.ext A0.out hu) 0, Box.cell (Box.ext A0.out hu) 1⟩, ⟨Box.cell (Box.ext A1.out hu) 0, Box.cell (Box.ext A1.out hu) 1⟩⟩) ?_; (repeat with_reducible (first | exact Ext.refl _ | exact ext_alloc _ _ | refine Ext.trans ?_ EC | refine Ext.trans ?_ ED0 | refine Ext.trans ?_ ED1 | refine Ext.drewN ?_ _ | refine Ext.drew1 ?_ | refine Ext.alloc ?_ _))))
    (first | (go_at_call 17; with_reducible refine (toPredictor_any a0 n0 c0 g0 z0 _ (IsRowF.ext Rw0.out (Ext.trans EX.out (by (repeat with_reducible (first | exact Ext.refl _ | exact ext_alloc _ _ | refine Ext.trans ?_ EC | refine Ext.trans ?_ ED0 | refine Ext.trans ?_ ED1 | refine Ext.drewN ?_ _ | refine Ext.drew1 ?_ | refine Ext.alloc ?_ _))))) hn0).mono ?_; rintro e wD0 ⟨S0b, rfl, S0F, ED0⟩) | (go_at_call 17; with_reducible refine (toPredictor_any a1 n1 c1 g1 z1 _ (IsRowF.ext Rw1.out (Ext.trans EX.out (by (repeat with_reducible (first | exact Ext.refl _ | exact ext_alloc _ _ | refine Ext.trans ?_ EC | refine Ext.trans ?_ ED0 | refine Ext.trans ?_ ED1 | refine Ext.drewN ?_ _ | refine Ext.drew1 ?_ | refine Ext.alloc ?_ _))))) hn1).mono ?_; rintro e wD1 ⟨S1b, rfl, S1F, ED1⟩) | (go_at_call 20; refine (sSamePred_any _ _ n0 n1 _ _ g0 g1 (z0.take n0) (z1.take n1) V _ (Holds.ext (own_hold S0F) (by (repeat with_reducible (first | exact Ext.refl _ | exact ext_alloc _ _ | refine Ext.trans ?_ EC | refine Ext.trans ?_ ED0 | refine Ext.trans ?_ ED1 | refine Ext.drewN ?_ _ | refine Ext.drew1 ?_ | refine Ext.alloc ?_ _)))) (Holds.ext (own_hold S1F) (by (repeat with_reducible (first | exact Ext.refl _ | exact ext_alloc _ _ | refine Ext.trans ?_ EC | refine Ext.trans ?_ ED0 | refine Ext.trans ?_ ED1 | refine Ext.drewN ?_ _ | refine Ext.drew1 ?_ | refine Ext.alloc ?_ _)))) hn0 hn1 Kw0.out Kw1.out KF0.out KF1.out HV.out).mono ?_; rintro e wC ⟨rfl, EC⟩))
  clear A00 A01 A0l A10 A11 A1l
  all_goals
    have EK : Ext w2 wC := by (repeat with_reducible (first | exact Ext.refl _ | exact ext_alloc _ _ | refine Ext.trans ?_ EC | refine Ext.trans ?_ ED0 | refine Ext.trans ?_ ED1 | refine Ext.drewN ?_ _ | refine Ext.drew1 ?_ | refine Ext.alloc ?_ _))
    have Z3 := hid (show w2.heap.size ≤ wC.heap.size from Ext.size EK)
    obtain ⟨w3, hwS⟩ : ∃ u, u = wC := ⟨_, rfl⟩
    subst hwS
    clear ED0 ED1 S0F S1F EC
    replace A0 := hid (Box.ext A0.out EK)
    replace A1 := hid (Box.ext A1.out EK)
    replace EX := hid (Ext.trans EX.out EK)
    clear EK
    obtain ⟨A00, A01, A0l⟩ := Box.cells2 A0.out
    obtain ⟨A10, A11, A1l⟩ := Box.cells2 A1.out
    go_wp2_with fail
    refine (toPredictor_any _ _ _ _ z0 _ (IsRowF.ext Rw0.out (Ext.trans EX.out (by (repeat with_reducible (first | exact Ext.refl _ | exact ext_alloc _ _ | refine Ext.drewN ?_ _ | refine Ext.drew1 ?_ | refine Ext.set ?_ (by dsimp only; omega) _ | refine Ext.alloc ?_ _))))) hn0).mono ?_
    rintro e w4 ⟨X0b, rfl, X0F, E0⟩
    clear A00 A01 A0l A10 A11 A1l
    have EK : Ext w3 w4 := Ext.trans (by (repeat with_reducible (first | exact Ext.refl _ | exact ext_alloc _ _ | refine Ext.drewN ?_ _ | refine Ext.drew1 ?_ | refine Ext.set ?_ (by dsimp only; omega) _ | refine Ext.alloc ?_ _))) E0
    have Z4 := hid (show w3.heap.size ≤ w4.heap.size from Ext.size EK)
    replace A0 := hid (Box.ext A0.out EK)
    replace A1 := hid (Box.ext A1.out EK)
    replace EX := hid (Ext.trans EX.out EK)
    clear EK E0
    have X0F_ := hid (Own.base X0F (B' := w3.heap.size) (by first | exact Nat.le_refl _ | (simp; done) | (simp; omega)))
    have X0F_I := hid (Own.block X0F_.out)
    clear X0F
    obtain ⟨A00, A01, A0l⟩ := Box.cells2 A0.out
    obtain ⟨A10, A11, A1l⟩ := Box.cells2 A1.out
    go_wp2_with fail
    refine (toPredictor_any _ _ _ _ z1 _ (IsRowF.ext Rw1.out (Ext.trans EX.out (by (repeat with_reducible (first | exact Ext.refl _ | exact ext_alloc _ _ | refine Ext.drewN ?_ _ | refine Ext.drew1 ?_ | refine Ext.set ?_ (by dsimp only; omega) _ | refine Ext.alloc ?_ _))))) hn1).mono ?_
    rintro e w5 ⟨X1b, rfl, X1F, E0⟩
    clear A00 A01 A0l A10 A11 A1l
    have EK : Ext w4 w5 := Ext.trans (by (repeat with_reducible (first | exact Ext.refl _ | exact ext_alloc _ _ | refine Ext.drewN ?_ _ | refine Ext.drew1 ?_ | refine Ext.set ?_ (by dsimp only; omega) _ | refine Ext.alloc ?_ _))) E0
    have X0B := hid (Box.ext (box_new (w := w4) #[.slice (some ⟨X0b, 0, none⟩) n0 n0, .float .f32 g0] 28) E0)
    have Z5 := hid (show w4.heap.size + 1 ≤ w5.heap.size from by have := Ext.size E0; first | exact this | simpa using this)
    replace A0 := hid (Box.ext A0.out EK)
    replace A1 := hid (Box.ext A1.out EK)
    replace X0F_ := hid (Own.ext X0F_.out EK)
    replace EX := hid (Ext.trans EX.out EK)
    clear EK E0
    have X1F_ := hid (Own.base X1F (B' := w4.heap.size + 1) (by first | exact Nat.le_refl _ | (simp; done) | (simp; omega)))
    have X1F_I := hid (Own.block X1F_.out)
    clear X1F
    obtain ⟨A00, A01, A0l⟩ := Box.cells2 A0.out
    obtain ⟨A10, A11, A1l⟩ := Box.cells2 A1.out
    obtain ⟨X0B0, X0B1, X0Bl⟩ := Box.cells2 X0B.out
    go_wp2_with fail
    refine (samePred_any _ _ n0 n1 _ _ g0 g1 (z0.take n0) (z1.take n1) V _ (Holds.ext (own_hold X0F_.out) (by (repeat with_reducible (first | exact Ext.refl _ | exact ext_alloc _ _ | refine Ext.drewN ?_ _ | refine Ext.drew1 ?_ | refine Ext.set ?_ (by dsimp only; omega) _ | refine Ext.alloc ?_ _)))) (Holds.ext (own_hold X1F_.out) (by (repeat with_reducible (first | exact Ext.refl _ | exact ext_alloc _ _ | refine Ext.drewN ?_ _ | refine Ext.drew1 ?_ | refine Ext.set ?_ (by dsimp only; omega) _ | refine Ext.alloc ?_ _)))) hn0 hn1 Kw0.out Kw1.out KF0.out KF1.out HV.out).mono ?_
    rintro e w6 ⟨rfl, E0⟩
    clear A00 A01 A0l A10 A11 A1l X0B0 X0B1 X0Bl
    have EK : Ext w5 w6 := Ext.trans (by (repeat with_reducible (first | exact Ext.refl _ | exact ext_alloc _ _ | refine Ext.drewN ?_ _ | refine Ext.drew1 ?_ | refine Ext.set ?_ (by dsimp only; omega) _ | refine Ext.alloc ?_ _))) E0
    have X1B := hid (Box.ext (box_new (w := w5) #[.slice (some ⟨X1b, 0, none⟩) n1 n1, .float .f32 g1] 28) E0)
    have Z6 := hid (show w5.heap.size + 1 ≤ w6.heap.size from by have := Ext.size E0; first | exact this | simpa using this)
    replace A0 := hid (Box.ext A0.out EK)
    replace A1 := hid (Box.ext A1.out EK)
    replace X0B := hid (Box.ext X0B.out EK)
    replace X0F_ := hid (Own.ext X0F_.out EK)
    replace X1F_ := hid (Own.ext X1F_.out EK)
    replace EX := hid (Ext.trans EX.out EK)
    clear EK E0
    obtain ⟨A00, A01, A0l⟩ := Box.cells2 A0.out
    obtain ⟨A10, A11, A1l⟩ := Box.cells2 A1.out
    obtain ⟨X0B0, X0B1, X0Bl⟩ := Box.cells2 X0B.out
    obtain ⟨X1B0, X1B1, X1Bl⟩ := Box.cells2 X1B.out
    go_wp2_with fail
    clear A00 A01 A0l A10 A11 A1l X0B0 X0B1 X0Bl X1B0 X1B1 X1Bl
    obtain ⟨A00, A01, A0l⟩ := Box.cells2 A0.out
    obtain ⟨A10, A11, A1l⟩ := Box.cells2 A1.out
    obtain ⟨X0B0, X0B1, X0Bl⟩ := Box.cells2 X0B.out
    obtain ⟨X1B0, X1B1, X1Bl⟩ := Box.cells2 X1B.out
    go_region_held3 (fun w' => (w'.cell? ⟨w.heap.size, 0, none⟩ = some (.slice a0 n0 c0) ∧ w'.cell? ⟨w.heap.size, 1, none⟩ = some (.float .f32 g0)) ∧ (w'.cell? ⟨w4.heap.size, 0, none⟩ = some (.slice (some ⟨X0b, 0, none⟩) n0 n0) ∧ w'.cell? ⟨w4.heap.size, 1, none⟩ = some (.float .f32 g0)))
      (first | (refine keep_of (c := w6) (S := fun w' => (w'.cell? ⟨w.heap.size, 0, none⟩ = some (.slice a0 n0 c0) ∧ w'.cell? ⟨w.heap.size, 1, none⟩ = some (.float .f32 g0)) ∧ (w'.cell? ⟨w4.heap.size, 0, none⟩ = some (.slice (some ⟨X0b, 0, none⟩) n0 n0) ∧ w'.cell? ⟨w4.heap.size, 1, none⟩ = some (.float .f32 g0))) (fun u hu => ⟨⟨Box.cell (Box.ext A0.out hu) 0, Box.cell (Box.ext A0.out hu) 1⟩, ⟨Box.cell (Box.ext X0B.out hu) 0, Box.cell (Box.ext X0B.out hu) 1⟩⟩) ?_; (repeat with_reducible (first | exact Ext.refl _ | exact ext_alloc _ _ | refine Ext.trans ?_ EC | refine Ext.trans ?_ ED0 | refine Ext.drewN ?_ _ | refine Ext.drew1 ?_ | refine Ext.alloc ?_ _))))
      (first | (go_at_call 17; with_reducible refine (toPredictor_any a0 n0 c0 g0 z0 _ (IsRowF.ext Rw0.out (Ext.trans EX.out (by (repeat with_reducible (first | exact Ext.refl _ | exact ext_alloc _ _ | refine Ext.trans ?_ EC | refine Ext.trans ?_ ED0 | refine Ext.drewN ?_ _ | refine Ext.drew1 ?_ | refine Ext.alloc ?_ _))))) hn0).mono ?_; rintro e wD0 ⟨YYb, rfl, YYF, ED0⟩) | (go_at_call 19; refine (eqPredictor_yes _ _ _ _ _ _ _ _ _ _ (Holds.ext (own_hold X0F_.out) (by (repeat with_reducible (first | exact Ext.refl _ | exact ext_alloc _ _ | refine Ext.trans ?_ EC | refine Ext.trans ?_ ED0 | refine Ext.drewN ?_ _ | refine Ext.drew1 ?_ | refine Ext.alloc ?_ _)))) (own_hold YYF) hn0 rfl rfl).mono ?_; rintro e wC ⟨rfl, EC⟩))
    clear A00 A01 A0l A10 A11 A1l X0B0 X0B1 X0Bl X1B0 X1B1 X1Bl
    have EK : Ext w6 wC := by (repeat with_reducible (first | exact Ext.refl _ | exact ext_alloc _ _ | refine Ext.trans ?_ EC | refine Ext.trans ?_ ED0 | refine Ext.drewN ?_ _ | refine Ext.drew1 ?_ | refine Ext.alloc ?_ _))
    obtain ⟨w7, hwS⟩ : ∃ u, u = wC := ⟨_, rfl⟩
    subst hwS
    have Z7 := hid (show w6.heap.size ≤ w7.heap.size from Ext.size EK)
    clear ED0 EC YYF
    replace A0 := hid (Box.ext A0.out EK)
    replace A1 := hid (Box.ext A1.out EK)
    replace X0B := hid (Box.ext X0B.out EK)
    replace X1B := hid (Box.ext X1B.out EK)
    replace X0F_ := hid (Own.ext X0F_.out EK)
    replace X1F_ := hid (Own.ext X1F_.out EK)
    replace EX := hid (Ext.trans EX.out EK)
    clear EK
    obtain ⟨A00, A01, A0l⟩ := Box.cells2 A0.out
    obtain ⟨A10, A11, A1l⟩ := Box.cells2 A1.out
    obtain ⟨X0B0, X0B1, X0Bl⟩ := Box.cells2 X0B.out
    obtain ⟨X1B0, X1B1, X1Bl⟩ := Box.cells2 X1B.out
    go_wp2_with fail
    clear A00 A01 A0l A10 A11 A1l X0B0 X0B1 X0Bl X1B0 X1B1 X1Bl
    obtain ⟨A00, A01, A0l⟩ := Box.cells2 A0.out
    obtain ⟨A10, A11, A1l⟩ := Box.cells2 A1.out
    obtain ⟨X0B0, X0B1, X0Bl⟩ := Box.cells2 X0B.out
    obtain ⟨X1B0, X1B1, X1Bl⟩ := Box.cells2 X1B.out
    go_region_held3 (fun w' => (w'.cell? ⟨w.heap.size + 1, 0, none⟩ = some (.slice a1 n1 c1) ∧ w'.cell? ⟨w.heap.size + 1, 1, none⟩ = some (.float .f32 g1)) ∧ (w'.cell? ⟨w5.heap.size, 0, none⟩ = some (.slice (some ⟨X1b, 0, none⟩) n1 n1) ∧ w'.cell? ⟨w5.heap.size, 1, none⟩ = some (.float .f32 g1)))
      (first | (refine keep_of (c := w7) (S := fun w' => (w'.cell? ⟨w.heap.size + 1, 0, none⟩ = some (.slice a1 n1 c1) ∧ w'.cell? ⟨w.heap.size + 1, 1, none⟩ = some (.float .f32 g1)) ∧ (w'.cell? ⟨w5.heap.size, 0, none⟩ = some (.slice (some ⟨X1b, 0, none⟩) n1 n1) ∧ w'.cell? ⟨w5.heap.size, 1, none⟩ = some (.float .f32 g1))) (fun u hu => ⟨⟨Box.cell (Box.ext A1.out hu) 0, Box.cell (Box.ext A1.out hu) 1⟩, ⟨Box.cell (Box.ext X1B.out hu) 0, Box.cell (Box.ext X1B.out hu) 1⟩⟩) ?_; (repeat with_reducible (first | exact Ext.refl _ | exact ext_alloc _ _ | refine Ext.trans ?_ EC | refine Ext.trans ?_ ED1 | refine Ext.drewN ?_ _ | refine Ext.drew1 ?_ | refine Ext.alloc ?_ _))))
      (first | (go_at_call 17; with_reducible refine (toPredictor_any a1 n1 c1 g1 z1 _ (IsRowF.ext Rw1.out (Ext.trans EX.out (by (repeat with_reducible (first | exact Ext.refl _ | exact ext_alloc _ _ | refine Ext.trans ?_ EC | refine Ext.trans ?_ ED1 | refine Ext.drewN ?_ _ | refine Ext.drew1 ?_ | refine Ext.alloc ?_ _))))) hn1).mono ?_; rintro e wD1 ⟨YYb, rfl, YYF, ED1⟩) | (go_at_call 19; refine (eqPredictor_yes _ _ _ _ _ _ _ _ _ _ (Holds.ext (own_hold X1F_.out) (by (repeat with_reducible (first | exact Ext.refl _ | exact ext_alloc _ _ | refine Ext.trans ?_ EC | refine Ext.trans ?_ ED1 | refine Ext.drewN ?_ _ | refine Ext.drew1 ?_ | refine Ext.alloc ?_ _)))) (own_hold YYF) hn1 rfl rfl).mono ?_; rintro e wC ⟨rfl, EC⟩))
    clear A00 A01 A0l A10 A11 A1l X0B0 X0B1 X0Bl X1B0 X1B1 X1Bl
    have EK : Ext w7 wC := by (repeat with_reducible (first | exact Ext.refl _ | exact ext_alloc _ _ | refine Ext.trans ?_ EC | refine Ext.trans ?_ ED1 | refine Ext.drewN ?_ _ | refine Ext.drew1 ?_ | refine Ext.alloc ?_ _))
    obtain ⟨w8, hwS⟩ : ∃ u, u = wC := ⟨_, rfl⟩
    subst hwS
    have Z8 := hid (show w7.heap.size ≤ w8.heap.size from Ext.size EK)
    clear ED1 EC YYF
    replace A0 := hid (Box.ext A0.out EK)
    replace A1 := hid (Box.ext A1.out EK)
    replace X0B := hid (Box.ext X0B.out EK)
    replace X1B := hid (Box.ext X1B.out EK)
    replace X0F_ := hid (Own.ext X0F_.out EK)
    replace X1F_ := hid (Own.ext X1F_.out EK)
    replace EX := hid (Ext.trans EX.out EK)
    clear EK
    obtain ⟨A00, A01, A0l⟩ := Box.cells2 A0.out
    obtain ⟨A10, A11, A1l⟩ := Box.cells2 A1.out
    obtain ⟨X0B0, X0B1, X0Bl⟩ := Box.cells2 X0B.out
    obtain ⟨X1B0, X1B1, X1Bl⟩ := Box.cells2 X1B.out
    go_wp2_with fail
    go_ret
    refine ⟨rfl, ?_⟩
    exact (show Ext w _ from Ext.trans EX.out (by (repeat with_reducible (first | exact Ext.refl _ | exact ext_alloc _ _ | refine Ext.drewN ?_ _ | refine Ext.drew1 ?_ | refine Ext.set ?_ (by dsimp only; omega) _ | refine Ext.alloc ?_ _))))
end Go.Proofs.Ytofhemganefhcaa
