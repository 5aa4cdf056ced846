/- Envelopes that are the same. -/
import Derived.Test.YtkmgkcbbbaioiabE4
import Derived.Test.YtkmgkcbbbaioiabE3
import Derived.Test.YtkmgkcbbbaioiabV4
import Derived.Deep.RegionHeld3
namespace Go.Proofs.Ytkmgkcbbbaioiab
open Go.RowKit Flt
set_option linter.unusedVariables false

set_option maxHeartbeats 8000000 in
set_option maxRecDepth 100000 in
theorem FnExactSameEnvelope_walk (a0 : Option Addr) (n0 c0 : Nat) (t0 : List Int) (b0 : Option Addr) (m0 d0 : Nat) (z0 : List Nat) (a1 : Option Addr) (n1 c1 : Nat) (t1 : List Int) (b1 : Option Addr) (m1 d1 : Nat) (z1 : List Nat) (w : World) (w0 : IsRow .i64 w a0 n0 c0 t0) (v0 : IsRowF .f32 w b0 m0 d0 z0) (w1 : IsRow .i64 w a1 n1 c1 t1) (v1 : IsRowF .f32 w b1 m1 d1 z1) :
    Calls Try.prog 4 #[.agg #[.slice a0 n0 c0, .slice b0 m0 d0], .agg #[.slice a1 n1 c1, .slice b1 m1 d1]] w fun e w' => e = .returned (.bool true) ∧ Below w.heap.size w w' := by
  have hmx0 : n0 ≤ maxLen := rowI_max w0
  have hmy0 : m0 ≤ maxLen := row_max v0
  have hmx1 : n1 ≤ maxLen := rowI_max w1
  have hmy1 : m1 ≤ maxLen := row_max v1
  by_cases hgn0 : (1048576 : Int) < (n0 : Int)
  · clear w0 v0 w1 v1
    go_enter Try.func4, Try.ntmps4
    go_wp2_with fail
    obtain ⟨w0, hw0⟩ : ∃ u, u = ((w.alloc (.cells #[.slice a0 n0 c0, .slice b0 m0 d0] 25)).alloc (.cells #[.slice a1 n1 c1, .slice b1 m1 d1] 25)) := ⟨_, rfl⟩
    rw [← hw0]
    have EX0 := hid (show Ext w w0 from by rw [hw0]; (repeat with_reducible (first | exact Ext.refl _ | exact ext_alloc _ _ | refine Ext.drewN ?_ _ | refine Ext.drew1 ?_ | refine Ext.set ?_ (by dsimp only; omega) _ | refine Ext.alloc ?_ _)))
    have A0 : Hid (Box w0 (w.heap.size) #[.slice a0 n0 c0, .slice b0 m0 d0]) := by rw [hw0]; exact hid (Box.cast' (Box.alloc (box_new (w := w) #[.slice a0 n0 c0, .slice b0 m0 d0] 25) _) (by simp))
    have A1 : Hid (Box w0 (w.heap.size + 1) #[.slice a1 n1 c1, .slice b1 m1 d1]) := by rw [hw0]; exact hid (Box.cast' (box_new (w := (w.alloc (.cells #[.slice a0 n0 c0, .slice b0 m0 d0] 25))) #[.slice a1 n1 c1, .slice b1 m1 d1] 25) (by simp))
    clear hw0
    refine (szEnvelope_no1 _ _ _ _ _ _ _ hmx0 (by omega) (by omega) _).mono ?_
    rintro e u0 ⟨rfl, E0⟩
    go_wp2
    go_ret
    refine ⟨rfl, ?_⟩
    exact (show Ext w _ from Ext.trans EX0.out (Ext.trans E0 (by (repeat with_reducible (first | exact Ext.refl _ | exact ext_alloc _ _ | refine Ext.drewN ?_ _ | refine Ext.drew1 ?_ | refine Ext.set ?_ (by dsimp only; omega) _ | refine Ext.alloc ?_ _)))))
  by_cases hgm0 : (1048576 : Int) - (n0 : Int) < (m0 : Int)
  · clear w0 v0 w1 v1
    go_enter Try.func4, Try.ntmps4
    go_wp2_with fail
    obtain ⟨w0, hw0⟩ : ∃ u, u = ((w.alloc (.cells #[.slice a0 n0 c0, .slice b0 m0 d0] 25)).alloc (.cells #[.slice a1 n1 c1, .slice b1 m1 d1] 25)) := ⟨_, rfl⟩
    rw [← hw0]
    have EX0 := hid (show Ext w w0 from by rw [hw0]; (repeat with_reducible (first | exact Ext.refl _ | exact ext_alloc _ _ | refine Ext.drewN ?_ _ | refine Ext.drew1 ?_ | refine Ext.set ?_ (by dsimp only; omega) _ | refine Ext.alloc ?_ _)))
    have A0 : Hid (Box w0 (w.heap.size) #[.slice a0 n0 c0, .slice b0 m0 d0]) := by rw [hw0]; exact hid (Box.cast' (Box.alloc (box_new (w := w) #[.slice a0 n0 c0, .slice b0 m0 d0] 25) _) (by simp))
    have A1 : Hid (Box w0 (w.heap.size + 1) #[.slice a1 n1 c1, .slice b1 m1 d1]) := by rw [hw0]; exact hid (Box.cast' (box_new (w := (w.alloc (.cells #[.slice a0 n0 c0, .slice b0 m0 d0] 25))) #[.slice a1 n1 c1, .slice b1 m1 d1] 25) (by simp))
    clear hw0
    refine (szEnvelope_no2 _ _ _ _ _ _ _ hmy0 (by omega) (by omega) (by omega) _).mono ?_
    rintro e u0 ⟨rfl, E0⟩
    go_wp2
    go_ret
    refine ⟨rfl, ?_⟩
    exact (show Ext w _ from Ext.trans EX0.out (Ext.trans E0 (by (repeat with_reducible (first | exact Ext.refl _ | exact ext_alloc _ _ | refine Ext.drewN ?_ _ | refine Ext.drew1 ?_ | refine Ext.set ?_ (by dsimp only; omega) _ | refine Ext.alloc ?_ _)))))
  have hs0 : ¬ ((1048576 : Int) - (n0 : Int) - (m0 : Int) < 0) := by omega
  by_cases hgn1 : (1048576 : Int) - (n0 : Int) - (m0 : Int) < (n1 : Int)
  · clear w0 v0 w1 v1
    go_enter Try.func4, Try.ntmps4
    go_wp2_with fail
    obtain ⟨w0, hw0⟩ : ∃ u, u = ((w.alloc (.cells #[.slice a0 n0 c0, .slice b0 m0 d0] 25)).alloc (.cells #[.slice a1 n1 c1, .slice b1 m1 d1] 25)) := ⟨_, rfl⟩
    rw [← hw0]
    have EX0 := hid (show Ext w w0 from by rw [hw0]; (repeat with_reducible (first | exact Ext.refl _ | exact ext_alloc _ _ | refine Ext.drewN ?_ _ | refine Ext.drew1 ?_ | refine Ext.set ?_ (by dsimp only; omega) _ | refine Ext.alloc ?_ _)))
    have A0 : Hid (Box w0 (w.heap.size) #[.slice a0 n0 c0, .slice b0 m0 d0]) := by rw [hw0]; exact hid (Box.cast' (Box.alloc (box_new (w := w) #[.slice a0 n0 c0, .slice b0 m0 d0] 25) _) (by simp))
    have A1 : Hid (Box w0 (w.heap.size + 1) #[.slice a1 n1 c1, .slice b1 m1 d1]) := by rw [hw0]; exact hid (Box.cast' (box_new (w := (w.alloc (.cells #[.slice a0 n0 c0, .slice b0 m0 d0] 25))) #[.slice a1 n1 c1, .slice b1 m1 d1] 25) (by simp))
    clear hw0
    refine (szEnvelope_yes _ _ _ _ _ _ _ (by omega) (by omega) _).mono ?_
    rintro e u0 ⟨rfl, E0⟩
    have EX1 := hid (Ext.trans EX0.out E0)
    replace A0 := hid (Box.ext A0.out E0)
    replace A1 := hid (Box.ext A1.out E0)
    clear E0
    obtain ⟨x00, x01, x0l⟩ := Box.cells2 A0.out
    obtain ⟨x10, x11, x1l⟩ := Box.cells2 A1.out
    go_wp2_with fail
    refine (szEnvelope_no1 _ _ _ _ _ _ _ hmx1 (by omega) (by omega) _).mono ?_
    rintro e u1 ⟨rfl, E0⟩
    go_wp2
    go_ret
    refine ⟨rfl, ?_⟩
    exact (show Ext w _ from Ext.trans EX1.out (Ext.trans E0 (by (repeat with_reducible (first | exact Ext.refl _ | exact ext_alloc _ _ | refine Ext.drewN ?_ _ | refine Ext.drew1 ?_ | refine Ext.set ?_ (by dsimp only; omega) _ | refine Ext.alloc ?_ _)))))
  by_cases hgm1 : (1048576 : Int) - (n0 : Int) - (m0 : Int) - (n1 : Int) < (m1 : Int)
  · clear w0 v0 w1 v1
    go_enter Try.func4, Try.ntmps4
    go_wp2_with fail
    obtain ⟨w0, hw0⟩ : ∃ u, u = ((w.alloc (.cells #[.slice a0 n0 c0, .slice b0 m0 d0] 25)).alloc (.cells #[.slice a1 n1 c1, .slice b1 m1 d1] 25)) := ⟨_, rfl⟩
    rw [← hw0]
    have EX0 := hid (show Ext w w0 from by rw [hw0]; (repeat with_reducible (first | exact Ext.refl _ | exact ext_alloc _ _ | refine Ext.drewN ?_ _ | refine Ext.drew1 ?_ | refine Ext.set ?_ (by dsimp only; omega) _ | refine Ext.alloc ?_ _)))
    have A0 : Hid (Box w0 (w.heap.size) #[.slice a0 n0 c0, .slice b0 m0 d0]) := by rw [hw0]; exact hid (Box.cast' (Box.alloc (box_new (w := w) #[.slice a0 n0 c0, .slice b0 m0 d0] 25) _) (by simp))
    have A1 : Hid (Box w0 (w.heap.size + 1) #[.slice a1 n1 c1, .slice b1 m1 d1]) := by rw [hw0]; exact hid (Box.cast' (box_new (w := (w.alloc (.cells #[.slice a0 n0 c0, .slice b0 m0 d0] 25))) #[.slice a1 n1 c1, .slice b1 m1 d1] 25) (by simp))
    clear hw0
    refine (szEnvelope_yes _ _ _ _ _ _ _ (by omega) (by omega) _).mono ?_
    rintro e u0 ⟨rfl, E0⟩
    have EX1 := hid (Ext.trans EX0.out E0)
    replace A0 := hid (Box.ext A0.out E0)
    replace A1 := hid (Box.ext A1.out E0)
    clear E0
    obtain ⟨x00, x01, x0l⟩ := Box.cells2 A0.out
    obtain ⟨x10, x11, x1l⟩ := Box.cells2 A1.out
    go_wp2_with fail
    refine (szEnvelope_no2 _ _ _ _ _ _ _ hmy1 (by omega) (by omega) (by omega) _).mono ?_
    rintro e u1 ⟨rfl, E0⟩
    go_wp2
    go_ret
    refine ⟨rfl, ?_⟩
    exact (show Ext w _ from Ext.trans EX1.out (Ext.trans E0 (by (repeat with_reducible (first | exact Ext.refl _ | exact ext_alloc _ _ | refine Ext.drewN ?_ _ | refine Ext.drew1 ?_ | refine Ext.set ?_ (by dsimp only; omega) _ | refine Ext.alloc ?_ _)))))
  have hs1 : ¬ ((1048576 : Int) - (n0 : Int) - (m0 : Int) - (n1 : Int) - (m1 : Int) < 0) := by omega
  have hn0 : n0 ≤ 1048576 := by omega
  have Rw0 := hid w0
  have hm0 : m0 ≤ 1048576 := by omega
  have Rv0 := hid v0
  have hn1 : n1 ≤ 1048576 := by omega
  have Rw1 := hid w1
  have hm1 : m1 ≤ 1048576 := by omega
  have Rv1 := hid v1
  have Kw0 := hid (row_words v0)
  have Kw1 := hid (row_words v1)
  obtain ⟨V, hV⟩ : ∃ V, sameE (t0.take n0) (t1.take n1) (z0.take m0) (z1.take m1) = V := ⟨_, rfl⟩
  have HV := hid hV
  clear hV
  clear w0 v0 w1 v1 hmx0 hmx1 hmy0 hmy1 hgn0 hgn1 hgm0 hgm1
  go_enter Try.func4, Try.ntmps4
  go_wp2_with fail
  obtain ⟨w0, hw0⟩ : ∃ u, u = ((w.alloc (.cells #[.slice a0 n0 c0, .slice b0 m0 d0] 25)).alloc (.cells #[.slice a1 n1 c1, .slice b1 m1 d1] 25)) := ⟨_, rfl⟩
  rw [← hw0]
  have EX := hid (show Ext w w0 from by rw [hw0]; (repeat with_reducible (first | exact Ext.refl _ | exact ext_alloc _ _ | refine Ext.drewN ?_ _ | refine Ext.drew1 ?_ | refine Ext.set ?_ (by dsimp only; omega) _ | refine Ext.alloc ?_ _)))
  have A0 : Hid (Box w0 (w.heap.size) #[.slice a0 n0 c0, .slice b0 m0 d0]) := by rw [hw0]; exact hid (Box.cast' (Box.alloc (box_new (w := w) #[.slice a0 n0 c0, .slice b0 m0 d0] 25) _) (by simp))
  have A1 : Hid (Box w0 (w.heap.size + 1) #[.slice a1 n1 c1, .slice b1 m1 d1]) := by rw [hw0]; exact hid (Box.cast' (box_new (w := (w.alloc (.cells #[.slice a0 n0 c0, .slice b0 m0 d0] 25))) #[.slice a1 n1 c1, .slice b1 m1 d1] 25) (by simp))
  have Z0 := hid (show w.heap.size + 2 ≤ w0.heap.size from by rw [hw0]; simp)
  clear hw0
  refine (szEnvelope_yes _ _ _ _ _ _ _ (by omega) (by omega) _).mono ?_
  rintro e w1 ⟨rfl, E0⟩
  have EK : Ext w0 w1 := Ext.trans (by (repeat with_reducible (first | exact Ext.refl _ | exact ext_alloc _ _ | refine Ext.drewN ?_ _ | refine Ext.drew1 ?_ | refine Ext.set ?_ (by dsimp only; omega) _ | refine Ext.alloc ?_ _))) E0
  have Z1 := hid (show w0.heap.size ≤ w1.heap.size from Ext.size EK)
  replace A0 := hid (Box.ext A0.out EK)
  replace A1 := hid (Box.ext A1.out EK)
  replace EX := hid (Ext.trans EX.out EK)
  clear EK E0
  obtain ⟨A00, A01, A0l⟩ := Box.cells2 A0.out
  obtain ⟨A10, A11, A1l⟩ := Box.cells2 A1.out
  go_wp2_with fail
  refine (szEnvelope_yes _ _ _ _ _ _ _ (by omega) (by omega) _).mono ?_
  rintro e w2 ⟨rfl, E0⟩
  clear A00 A01 A0l A10 A11 A1l
  have EK : Ext w1 w2 := Ext.trans (by (repeat with_reducible (first | exact Ext.refl _ | exact ext_alloc _ _ | refine Ext.drewN ?_ _ | refine Ext.drew1 ?_ | refine Ext.set ?_ (by dsimp only; omega) _ | refine Ext.alloc ?_ _))) E0
  have Z2 := hid (show w1.heap.size ≤ w2.heap.size from Ext.size EK)
  replace A0 := hid (Box.ext A0.out EK)
  replace A1 := hid (Box.ext A1.out EK)
  replace EX := hid (Ext.trans EX.out EK)
  clear EK E0
  obtain ⟨A00, A01, A0l⟩ := Box.cells2 A0.out
  obtain ⟨A10, A11, A1l⟩ := Box.cells2 A1.out
  go_wp2_with fail
  obtain ⟨A00, A01, A0l⟩ := Box.cells2 A0.out
  obtain ⟨A10, A11, A1l⟩ := Box.cells2 A1.out
  go_region_held3 (fun w' => (w'.cell? ⟨w.heap.size, 0, none⟩ = some (.slice a0 n0 c0) ∧ w'.cell? ⟨w.heap.size, 1, none⟩ = some (.slice b0 m0 d0)) ∧ (w'.cell? ⟨w.heap.size + 1, 0, none⟩ = some (.slice a1 n1 c1) ∧ w'.cell? ⟨w.heap.size + 1, 1, none⟩ = some (.slice b1 m1 d1)))
    (first | (refine keep_of (c := w2) (S := fun w' => (w'.cell? ⟨w.heap.size, 0, none⟩ = some (.slice a0 n0 c0) ∧ w'.cell? ⟨w.heap.size, 1, none⟩ = some (.slice b0 m0 d0)) ∧ (w'.cell? ⟨w.heap.size + 1, 0, none⟩ = some (.slice a1 n1 c1) ∧ w'.cell? ⟨w.heap.size + 1, 1, none⟩ = some (.slice b1 m1 d1))) (fun u hu => ⟨⟨Box.cell (Box.ext A0.out hu) 0, Box.cell (Box.ext A0.out hu) 1⟩, ⟨Box.cell (Box.ext A1.out hu) 0, Box.cell (Box.ext A1.out hu) 1⟩⟩) ?_; (repeat with_reducible (first | exact Ext.refl _ | exact ext_alloc _ _ | refine Ext.trans ?_ EC | refine Ext.trans ?_ ED0 | refine Ext.trans ?_ ED1 | refine Ext.drewN ?_ _ | refine Ext.drew1 ?_ | refine Ext.alloc ?_ _))))
    (first | (go_at_call 17; with_reducible refine (toEnvelope_any a0 b0 n0 c0 m0 d0 t0 z0 _ (IsRow.ext' Rw0.out (Ext.trans EX.out (by (repeat with_reducible (first | exact Ext.refl _ | exact ext_alloc _ _ | refine Ext.trans ?_ EC | refine Ext.trans ?_ ED0 | refine Ext.trans ?_ ED1 | refine Ext.drewN ?_ _ | refine Ext.drew1 ?_ | refine Ext.alloc ?_ _))))) (IsRowF.ext Rv0.out (Ext.trans EX.out (by (repeat with_reducible (first | exact Ext.refl _ | exact ext_alloc _ _ | refine Ext.trans ?_ EC | refine Ext.trans ?_ ED0 | refine Ext.trans ?_ ED1 | refine Ext.drewN ?_ _ | refine Ext.drew1 ?_ | refine Ext.alloc ?_ _))))) hn0 hm0).mono ?_; rintro e wD0 ⟨S0b, S0d, rfl, S0F, S0G, S0N, ED0⟩) | (go_at_call 17; with_reducible refine (toEnvelope_any a1 b1 n1 c1 m1 d1 t1 z1 _ (IsRow.ext' Rw1.out (Ext.trans EX.out (by (repeat with_reducible (first | exact Ext.refl _ | exact ext_alloc _ _ | refine Ext.trans ?_ EC | refine Ext.trans ?_ ED0 | refine Ext.trans ?_ ED1 | refine Ext.drewN ?_ _ | refine Ext.drew1 ?_ | refine Ext.alloc ?_ _))))) (IsRowF.ext Rv1.out (Ext.trans EX.out (by (repeat with_reducible (first | exact Ext.refl _ | exact ext_alloc _ _ | refine Ext.trans ?_ EC | refine Ext.trans ?_ ED0 | refine Ext.trans ?_ ED1 | refine Ext.drewN ?_ _ | refine Ext.drew1 ?_ | refine Ext.alloc ?_ _))))) hn1 hm1).mono ?_; rintro e wD1 ⟨S1b, S1d, rfl, S1F, S1G, S1N, ED1⟩) | (go_at_call 20; refine (sSameEnv_any _ _ _ _ n0 _ m0 _ n1 _ m1 _ (t0.take n0) (t1.take n1) (z0.take m0) (z1.take m1) V _ (HoldsI.ext (ownI_hold S0F) (by (repeat with_reducible (first | exact Ext.refl _ | exact ext_alloc _ _ | refine Ext.trans ?_ EC | refine Ext.trans ?_ ED0 | refine Ext.trans ?_ ED1 | refine Ext.drewN ?_ _ | refine Ext.drew1 ?_ | refine Ext.alloc ?_ _)))) (Holds.ext (own_hold S0G) (by (repeat with_reducible (first | exact Ext.refl _ | exact ext_alloc _ _ | refine Ext.trans ?_ EC | refine Ext.trans ?_ ED0 | refine Ext.trans ?_ ED1 | refine Ext.drewN ?_ _ | refine Ext.drew1 ?_ | refine Ext.alloc ?_ _)))) (HoldsI.ext (ownI_hold S1F) (by (repeat with_reducible (first | exact Ext.refl _ | exact ext_alloc _ _ | refine Ext.trans ?_ EC | refine Ext.trans ?_ ED0 | refine Ext.trans ?_ ED1 | refine Ext.drewN ?_ _ | refine Ext.drew1 ?_ | refine Ext.alloc ?_ _)))) (Holds.ext (own_hold S1G) (by (repeat with_reducible (first | exact Ext.refl _ | exact ext_alloc _ _ | refine Ext.trans ?_ EC | refine Ext.trans ?_ ED0 | refine Ext.trans ?_ ED1 | refine Ext.drewN ?_ _ | refine Ext.drew1 ?_ | refine Ext.alloc ?_ _)))) hn0 hm0 hn1 hm1 Kw0.out Kw1.out HV.out).mono ?_; rintro e wC ⟨rfl, EC⟩))
  clear A00 A01 A0l A10 A11 A1l
  all_goals
    have EK : Ext w2 wC := by (repeat with_reducible (first | exact Ext.refl _ | exact ext_alloc _ _ | refine Ext.trans ?_ EC | refine Ext.trans ?_ ED0 | refine Ext.trans ?_ ED1 | refine Ext.drewN ?_ _ | refine Ext.drew1 ?_ | refine Ext.alloc ?_ _))
    have Z3 := hid (show w2.heap.size ≤ wC.heap.size from Ext.size EK)
    obtain ⟨w3, hwS⟩ : ∃ u, u = wC := ⟨_, rfl⟩
    subst hwS
    clear ED0 ED1 S0F S1F S0G S0N S1G S1N EC
    replace A0 := hid (Box.ext A0.out EK)
    replace A1 := hid (Box.ext A1.out EK)
    replace EX := hid (Ext.trans EX.out EK)
    clear EK
    obtain ⟨A00, A01, A0l⟩ := Box.cells2 A0.out
    obtain ⟨A10, A11, A1l⟩ := Box.cells2 A1.out
    go_wp2_with fail
    refine (toEnvelope_any _ _ _ _ _ _ t0 z0 _ (IsRow.ext' Rw0.out (Ext.trans EX.out (by (repeat with_reducible (first | exact Ext.refl _ | exact ext_alloc _ _ | refine Ext.drewN ?_ _ | refine Ext.drew1 ?_ | refine Ext.set ?_ (by dsimp only; omega) _ | refine Ext.alloc ?_ _))))) (IsRowF.ext Rv0.out (Ext.trans EX.out (by (repeat with_reducible (first | exact Ext.refl _ | exact ext_alloc _ _ | refine Ext.drewN ?_ _ | refine Ext.drew1 ?_ | refine Ext.set ?_ (by dsimp only; omega) _ | refine Ext.alloc ?_ _))))) hn0 hm0).mono ?_
    rintro e w4 ⟨X0b, X0d, rfl, X0F, X0G, X0N, E0⟩
    clear A00 A01 A0l A10 A11 A1l
    have EK : Ext w3 w4 := Ext.trans (by (repeat with_reducible (first | exact Ext.refl _ | exact ext_alloc _ _ | refine Ext.drewN ?_ _ | refine Ext.drew1 ?_ | refine Ext.set ?_ (by dsimp only; omega) _ | refine Ext.alloc ?_ _))) E0
    have Z4 := hid (show w3.heap.size ≤ w4.heap.size from Ext.size EK)
    replace A0 := hid (Box.ext A0.out EK)
    replace A1 := hid (Box.ext A1.out EK)
    replace EX := hid (Ext.trans EX.out EK)
    clear EK E0
    have X0F_ := hid (OwnI.base X0F (B' := w3.heap.size) (by first | exact Nat.le_refl _ | (simp; done) | (simp; omega)))
    have X0F_I := hid (OwnI.block X0F_.out)
    clear X0F
    have X0G_ := hid (Own.base X0G (B' := w3.heap.size) (by first | exact Nat.le_refl _ | (simp; done) | (simp; omega)))
    have X0G_I := hid (Own.block X0G_.out)
    clear X0G
    clear X0N
    obtain ⟨A00, A01, A0l⟩ := Box.cells2 A0.out
    obtain ⟨A10, A11, A1l⟩ := Box.cells2 A1.out
    go_wp2_with fail
    refine (toEnvelope_any _ _ _ _ _ _ t1 z1 _ (IsRow.ext' Rw1.out (Ext.trans EX.out (by (repeat with_reducible (first | exact Ext.refl _ | exact ext_alloc _ _ | refine Ext.drewN ?_ _ | refine Ext.drew1 ?_ | refine Ext.set ?_ (by dsimp only; omega) _ | refine Ext.alloc ?_ _))))) (IsRowF.ext Rv1.out (Ext.trans EX.out (by (repeat with_reducible (first | exact Ext.refl _ | exact ext_alloc _ _ | refine Ext.drewN ?_ _ | refine Ext.drew1 ?_ | refine Ext.set ?_ (by dsimp only; omega) _ | refine Ext.alloc ?_ _))))) hn1 hm1).mono ?_
    rintro e w5 ⟨X1b, X1d, rfl, X1F, X1G, X1N, E0⟩
    clear A00 A01 A0l A10 A11 A1l
    have EK : Ext w4 w5 := Ext.trans (by (repeat with_reducible (first | exact Ext.refl _ | exact ext_alloc _ _ | refine Ext.drewN ?_ _ | refine Ext.drew1 ?_ | refine Ext.set ?_ (by dsimp only; omega) _ | refine Ext.alloc ?_ _))) E0
    have X0B := hid (Box.ext (box_new (w := w4) #[.slice (some ⟨X0b, 0, none⟩) n0 n0, .slice (some ⟨X0d, 0, none⟩) m0 m0] 28) E0)
    have Z5 := hid (show w4.heap.size + 1 ≤ w5.heap.size from by have := Ext.size E0; first | exact this | simpa using this)
    replace A0 := hid (Box.ext A0.out EK)
    replace A1 := hid (Box.ext A1.out EK)
    replace X0F_ := hid (OwnI.ext X0F_.out EK)
    replace X0G_ := hid (Own.ext X0G_.out EK)
    replace EX := hid (Ext.trans EX.out EK)
    clear EK E0
    have X1F_ := hid (OwnI.base X1F (B' := w4.heap.size + 1) (by first | exact Nat.le_refl _ | (simp; done) | (simp; omega)))
    have X1F_I := hid (OwnI.block X1F_.out)
    clear X1F
    have X1G_ := hid (Own.base X1G (B' := w4.heap.size + 1) (by first | exact Nat.le_refl _ | (simp; done) | (simp; omega)))
    have X1G_I := hid (Own.block X1G_.out)
    clear X1G
    clear X1N
    obtain ⟨A00, A01, A0l⟩ := Box.cells2 A0.out
    obtain ⟨A10, A11, A1l⟩ := Box.cells2 A1.out
    obtain ⟨X0B0, X0B1, X0Bl⟩ := Box.cells2 X0B.out
    go_wp2_with fail
    refine (sameEnv_any _ _ _ _ n0 _ m0 _ n1 _ m1 _ (t0.take n0) (t1.take n1) (z0.take m0) (z1.take m1) V _ (HoldsI.ext (ownI_hold X0F_.out) (by (repeat with_reducible (first | exact Ext.refl _ | exact ext_alloc _ _ | refine Ext.drewN ?_ _ | refine Ext.drew1 ?_ | refine Ext.set ?_ (by dsimp only; omega) _ | refine Ext.alloc ?_ _)))) (Holds.ext (own_hold X0G_.out) (by (repeat with_reducible (first | exact Ext.refl _ | exact ext_alloc _ _ | refine Ext.drewN ?_ _ | refine Ext.drew1 ?_ | refine Ext.set ?_ (by dsimp only; omega) _ | refine Ext.alloc ?_ _)))) (HoldsI.ext (ownI_hold X1F_.out) (by (repeat with_reducible (first | exact Ext.refl _ | exact ext_alloc _ _ | refine Ext.drewN ?_ _ | refine Ext.drew1 ?_ | refine Ext.set ?_ (by dsimp only; omega) _ | refine Ext.alloc ?_ _)))) (Holds.ext (own_hold X1G_.out) (by (repeat with_reducible (first | exact Ext.refl _ | exact ext_alloc _ _ | refine Ext.drewN ?_ _ | refine Ext.drew1 ?_ | refine Ext.set ?_ (by dsimp only; omega) _ | refine Ext.alloc ?_ _)))) hn0 hm0 hn1 hm1 Kw0.out Kw1.out HV.out).mono ?_
    rintro e w6 ⟨rfl, E0⟩
    clear A00 A01 A0l A10 A11 A1l X0B0 X0B1 X0Bl
    have EK : Ext w5 w6 := Ext.trans (by (repeat with_reducible (first | exact Ext.refl _ | exact ext_alloc _ _ | refine Ext.drewN ?_ _ | refine Ext.drew1 ?_ | refine Ext.set ?_ (by dsimp only; omega) _ | refine Ext.alloc ?_ _))) E0
    have X1B := hid (Box.ext (box_new (w := w5) #[.slice (some ⟨X1b, 0, none⟩) n1 n1, .slice (some ⟨X1d, 0, none⟩) m1 m1] 28) E0)
    have Z6 := hid (show w5.heap.size + 1 ≤ w6.heap.size from by have := Ext.size E0; first | exact this | simpa using this)
    replace A0 := hid (Box.ext A0.out EK)
    replace A1 := hid (Box.ext A1.out EK)
    replace X0B := hid (Box.ext X0B.out EK)
    replace X0F_ := hid (OwnI.ext X0F_.out EK)
    replace X0G_ := hid (Own.ext X0G_.out EK)
    replace X1F_ := hid (OwnI.ext X1F_.out EK)
    replace X1G_ := hid (Own.ext X1G_.out EK)
    replace EX := hid (Ext.trans EX.out EK)
    clear EK E0
    obtain ⟨A00, A01, A0l⟩ := Box.cells2 A0.out
    obtain ⟨A10, A11, A1l⟩ := Box.cells2 A1.out
    obtain ⟨X0B0, X0B1, X0Bl⟩ := Box.cells2 X0B.out
    obtain ⟨X1B0, X1B1, X1Bl⟩ := Box.cells2 X1B.out
    go_wp2_with fail
    clear A00 A01 A0l A10 A11 A1l X0B0 X0B1 X0Bl X1B0 X1B1 X1Bl
    obtain ⟨A00, A01, A0l⟩ := Box.cells2 A0.out
    obtain ⟨A10, A11, A1l⟩ := Box.cells2 A1.out
    obtain ⟨X0B0, X0B1, X0Bl⟩ := Box.cells2 X0B.out
    obtain ⟨X1B0, X1B1, X1Bl⟩ := Box.cells2 X1B.out
    go_region_held3 (fun w' => (w'.cell? ⟨w.heap.size, 0, none⟩ = some (.slice a0 n0 c0) ∧ w'.cell? ⟨w.heap.size, 1, none⟩ = some (.slice b0 m0 d0)) ∧ (w'.cell? ⟨w4.heap.size, 0, none⟩ = some (.slice (some ⟨X0b, 0, none⟩) n0 n0) ∧ w'.cell? ⟨w4.heap.size, 1, none⟩ = some (.slice (some ⟨X0d, 0, none⟩) m0 m0)))
      (first | (refine keep_of (c := w6) (S := fun w' => (w'.cell? ⟨w.heap.size, 0, none⟩ = some (.slice a0 n0 c0) ∧ w'.cell? ⟨w.heap.size, 1, none⟩ = some (.slice b0 m0 d0)) ∧ (w'.cell? ⟨w4.heap.size, 0, none⟩ = some (.slice (some ⟨X0b, 0, none⟩) n0 n0) ∧ w'.cell? ⟨w4.heap.size, 1, none⟩ = some (.slice (some ⟨X0d, 0, none⟩) m0 m0))) (fun u hu => ⟨⟨Box.cell (Box.ext A0.out hu) 0, Box.cell (Box.ext A0.out hu) 1⟩, ⟨Box.cell (Box.ext X0B.out hu) 0, Box.cell (Box.ext X0B.out hu) 1⟩⟩) ?_; (repeat with_reducible (first | exact Ext.refl _ | exact ext_alloc _ _ | refine Ext.trans ?_ EC | refine Ext.trans ?_ ED0 | refine Ext.drewN ?_ _ | refine Ext.drew1 ?_ | refine Ext.alloc ?_ _))))
      (first | (go_at_call 17; with_reducible refine (toEnvelope_any a0 b0 n0 c0 m0 d0 t0 z0 _ (IsRow.ext' Rw0.out (Ext.trans EX.out (by (repeat with_reducible (first | exact Ext.refl _ | exact ext_alloc _ _ | refine Ext.trans ?_ EC | refine Ext.trans ?_ ED0 | refine Ext.drewN ?_ _ | refine Ext.drew1 ?_ | refine Ext.alloc ?_ _))))) (IsRowF.ext Rv0.out (Ext.trans EX.out (by (repeat with_reducible (first | exact Ext.refl _ | exact ext_alloc _ _ | refine Ext.trans ?_ EC | refine Ext.trans ?_ ED0 | refine Ext.drewN ?_ _ | refine Ext.drew1 ?_ | refine Ext.alloc ?_ _))))) hn0 hm0).mono ?_; rintro e wD0 ⟨YYb, YYd, rfl, YYF, YYG, YYN, ED0⟩) | (go_at_call 19; refine (eqEnvelope_yes _ _ _ _ _ _ _ _ _ _ _ _ _ _ _ (HoldsI.ext (ownI_hold X0F_.out) (by (repeat with_reducible (first | exact Ext.refl _ | exact ext_alloc _ _ | refine Ext.trans ?_ EC | refine Ext.trans ?_ ED0 | refine Ext.drewN ?_ _ | refine Ext.drew1 ?_ | refine Ext.alloc ?_ _)))) (Holds.ext (own_hold X0G_.out) (by (repeat with_reducible (first | exact Ext.refl _ | exact ext_alloc _ _ | refine Ext.trans ?_ EC | refine Ext.trans ?_ ED0 | refine Ext.drewN ?_ _ | refine Ext.drew1 ?_ | refine Ext.alloc ?_ _)))) (ownI_hold YYF) (own_hold YYG) hn0 hm0 rfl rfl).mono ?_; rintro e wC ⟨rfl, EC⟩))
    clear A00 A01 A0l A10 A11 A1l X0B0 X0B1 X0Bl X1B0 X1B1 X1Bl
    have EK : Ext w6 wC := by (repeat with_reducible (first | exact Ext.refl _ | exact ext_alloc _ _ | refine Ext.trans ?_ EC | refine Ext.trans ?_ ED0 | refine Ext.drewN ?_ _ | refine Ext.drew1 ?_ | refine Ext.alloc ?_ _))
    obtain ⟨w7, hwS⟩ : ∃ u, u = wC := ⟨_, rfl⟩
    subst hwS
    have Z7 := hid (show w6.heap.size ≤ w7.heap.size from Ext.size EK)
    clear ED0 EC YYF YYG YYN
    replace A0 := hid (Box.ext A0.out EK)
    replace A1 := hid (Box.ext A1.out EK)
    replace X0B := hid (Box.ext X0B.out EK)
    replace X1B := hid (Box.ext X1B.out EK)
    replace X0F_ := hid (OwnI.ext X0F_.out EK)
    replace X0G_ := hid (Own.ext X0G_.out EK)
    replace X1F_ := hid (OwnI.ext X1F_.out EK)
    replace X1G_ := hid (Own.ext X1G_.out EK)
    replace EX := hid (Ext.trans EX.out EK)
    clear EK
    obtain ⟨A00, A01, A0l⟩ := Box.cells2 A0.out
    obtain ⟨A10, A11, A1l⟩ := Box.cells2 A1.out
    obtain ⟨X0B0, X0B1, X0Bl⟩ := Box.cells2 X0B.out
    obtain ⟨X1B0, X1B1, X1Bl⟩ := Box.cells2 X1B.out
    go_wp2_with fail
    clear A00 A01 A0l A10 A11 A1l X0B0 X0B1 X0Bl X1B0 X1B1 X1Bl
    obtain ⟨A00, A01, A0l⟩ := Box.cells2 A0.out
    obtain ⟨A10, A11, A1l⟩ := Box.cells2 A1.out
    obtain ⟨X0B0, X0B1, X0Bl⟩ := Box.cells2 X0B.out
    obtain ⟨X1B0, X1B1, X1Bl⟩ := Box.cells2 X1B.out
    go_region_held3 (fun w' => (w'.cell? ⟨w.heap.size + 1, 0, none⟩ = some (.slice a1 n1 c1) ∧ w'.cell? ⟨w.heap.size + 1, 1, none⟩ = some (.slice b1 m1 d1)) ∧ (w'.cell? ⟨w5.heap.size, 0, none⟩ = some (.slice (some ⟨X1b, 0, none⟩) n1 n1) ∧ w'.cell? ⟨w5.heap.size, 1, none⟩ = some (.slice (some ⟨X1d, 0, none⟩) m1 m1)))
      (first | (refine keep_of (c := w7) (S := fun w' => (w'.cell? ⟨w.heap.size + 1, 0, none⟩ = some (.slice a1 n1 c1) ∧ w'.cell? ⟨w.heap.size + 1, 1, none⟩ = some (.slice b1 m1 d1)) ∧ (w'.cell? ⟨w5.heap.size, 0, none⟩ = some (.slice (some ⟨X1b, 0, none⟩) n1 n1) ∧ w'.cell? ⟨w5.heap.size, 1, none⟩ = some (.slice (some ⟨X1d, 0, none⟩) m1 m1))) (fun u hu => ⟨⟨Box.cell (Box.ext A1.out hu) 0, Box.cell (Box.ext A1.out hu) 1⟩, ⟨Box.cell (Box.ext X1B.out hu) 0, Box.cell (Box.ext X1B.out hu) 1⟩⟩) ?_; (repeat with_reducible (first | exact Ext.refl _ | exact ext_alloc _ _ | refine Ext.trans ?_ EC | refine Ext.trans ?_ ED1 | refine Ext.drewN ?_ _ | refine Ext.drew1 ?_ | refine Ext.alloc ?_ _))))
      (first | (go_at_call 17; with_reducible refine (toEnvelope_any a1 b1 n1 c1 m1 d1 t1 z1 _ (IsRow.ext' Rw1.out (Ext.trans EX.out (by (repeat with_reducible (first | exact Ext.refl _ | exact ext_alloc _ _ | refine Ext.trans ?_ EC | refine Ext.trans ?_ ED1 | refine Ext.drewN ?_ _ | refine Ext.drew1 ?_ | refine Ext.alloc ?_ _))))) (IsRowF.ext Rv1.out (Ext.trans EX.out (by (repeat with_reducible (first | exact Ext.refl _ | exact ext_alloc _ _ | refine Ext.trans ?_ EC | refine Ext.trans ?_ ED1 | refine Ext.drewN ?_ _ | refine Ext.drew1 ?_ | refine Ext.alloc ?_ _))))) hn1 hm1).mono ?_; rintro e wD1 ⟨YYb, YYd, rfl, YYF, YYG, YYN, ED1⟩) | (go_at_call 19; refine (eqEnvelope_yes _ _ _ _ _ _ _ _ _ _ _ _ _ _ _ (HoldsI.ext (ownI_hold X1F_.out) (by (repeat with_reducible (first | exact Ext.refl _ | exact ext_alloc _ _ | refine Ext.trans ?_ EC | refine Ext.trans ?_ ED1 | refine Ext.drewN ?_ _ | refine Ext.drew1 ?_ | refine Ext.alloc ?_ _)))) (Holds.ext (own_hold X1G_.out) (by (repeat with_reducible (first | exact Ext.refl _ | exact ext_alloc _ _ | refine Ext.trans ?_ EC | refine Ext.trans ?_ ED1 | refine Ext.drewN ?_ _ | refine Ext.drew1 ?_ | refine Ext.alloc ?_ _)))) (ownI_hold YYF) (own_hold YYG) hn1 hm1 rfl rfl).mono ?_; rintro e wC ⟨rfl, EC⟩))
    clear A00 A01 A0l A10 A11 A1l X0B0 X0B1 X0Bl X1B0 X1B1 X1Bl
    have EK : Ext w7 wC := by (repeat with_reducible (first | exact Ext.refl _ | exact ext_alloc _ _ | refine Ext.trans ?_ EC | refine Ext.trans ?_ ED1 | refine Ext.drewN ?_ _ | refine Ext.drew1 ?_ | refine Ext.alloc ?_ _))
    obtain ⟨w8, hwS⟩ : ∃ u, u = wC := ⟨_, rfl⟩
    subst hwS
    have Z8 := hid (show w7.heap.size ≤ w8.heap.size from Ext.size EK)
    clear ED1 EC YYF YYG YYN
    replace A0 := hid (Box.ext A0.out EK)
    replace A1 := hid (Box.ext A1.out EK)
    replace X0B := hid (Box.ext X0B.out EK)
    replace X1B := hid (Box.ext X1B.out EK)
    replace X0F_ := hid (OwnI.ext X0F_.out EK)
    replace X0G_ := hid (Own.ext X0G_.out EK)
    replace X1F_ := hid (OwnI.ext X1F_.out EK)
    replace X1G_ := hid (Own.ext X1G_.out EK)
    replace EX := hid (Ext.trans EX.out EK)
    clear EK
    obtain ⟨A00, A01, A0l⟩ := Box.cells2 A0.out
    obtain ⟨A10, A11, A1l⟩ := Box.cells2 A1.out
    obtain ⟨X0B0, X0B1, X0Bl⟩ := Box.cells2 X0B.out
    obtain ⟨X1B0, X1B1, X1Bl⟩ := Box.cells2 X1B.out
    go_wp2_with fail
    go_ret
    refine ⟨rfl, ?_⟩
    exact (show Ext w _ from Ext.trans EX.out (by (repeat with_reducible (first | exact Ext.refl _ | exact ext_alloc _ _ | refine Ext.drewN ?_ _ | refine Ext.drew1 ?_ | refine Ext.set ?_ (by dsimp only; omega) _ | refine Ext.alloc ?_ _))))
end Go.Proofs.Ytkmgkcbbbaioiab
