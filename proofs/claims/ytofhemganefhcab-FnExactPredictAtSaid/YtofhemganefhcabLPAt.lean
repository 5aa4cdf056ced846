/- The law on what is predicted. -/
import Derived.Test.YtofhemganefhcabW14
import Derived.Test.YtofhemganefhcabV4
import Derived.Deep.RegionHeld3
namespace Go.Proofs.Ytofhemganefhcab
open Go.RowKit Flt
set_option linter.unusedVariables false

set_option maxHeartbeats 8000000 in
set_option maxRecDepth 100000 in
theorem FnExactPredictAt_walk (a0 : Option Addr) (n0 c0 : Nat) (z0 : List Nat) (g0 : Nat) (a1 : Option Addr) (n1 c1 : Nat) (z1 : List Nat) (x2 : Int) (w : World) (w0 : IsRowF .f32 w a0 n0 c0 z0) (wg0 : (Lit.float .f32 g0).wf = true) (w1 : IsRowF .f32 w a1 n1 c1 z1) (wx2 : (Lit.int .i64 x2).wf = true) :
    Calls Try.prog 4 #[.agg #[.slice a0 n0 c0, .float .f32 g0], .slice a1 n1 c1, .int .i64 x2] w fun e w' => e = .returned (.bool true) ∧ Below w.heap.size w w' := by
  have hmx0 : n0 ≤ maxLen := row_max w0
  have hmx1 : n1 ≤ maxLen := row_max w1
  by_cases hg1 : (1048576 : Int) < (n1 : Int)
  · clear wg0 wx2 w0 w1
    have hi1 : (n1 : Int) ≤ 9223372036854775807 := by simp [maxLen] at hmx1; omega
    go_enter Try.func4, Try.ntmps4
    go_wp2
    go_ret
    refine ⟨rfl, ?_⟩
    exact (show Ext w _ from (by (repeat with_reducible (first | exact Ext.refl _ | exact ext_alloc _ _ | refine Ext.drewN ?_ _ | refine Ext.drew1 ?_ | refine Ext.set ?_ (by dsimp only; omega) _ | refine Ext.alloc ?_ _))))
  by_cases hgn0 : (1048576 : Int) < (n0 : Int)
  · clear wg0 wx2 w0 w1
    go_enter Try.func4, Try.ntmps4
    go_wp2_with fail
    obtain ⟨w0, hw0⟩ : ∃ u, u = (w.alloc (.cells #[.slice a0 n0 c0, .float .f32 g0] 25)) := ⟨_, rfl⟩
    rw [← hw0]
    have EX0 := hid (show Ext w w0 from by rw [hw0]; (repeat with_reducible (first | exact Ext.refl _ | exact ext_alloc _ _ | refine Ext.drewN ?_ _ | refine Ext.drew1 ?_ | refine Ext.set ?_ (by dsimp only; omega) _ | refine Ext.alloc ?_ _)))
    have A0 : Hid (Box w0 (w.heap.size) #[.slice a0 n0 c0, .float .f32 g0]) := by rw [hw0]; exact hid (Box.cast' (box_new (w := w) #[.slice a0 n0 c0, .float .f32 g0] 25) (by simp))
    clear hw0
    refine (szPredictor_no _ _ _ _ _ hmx0 (by omega) (by omega) _).mono ?_
    rintro e u0 ⟨rfl, E0⟩
    go_wp2
    go_ret
    refine ⟨rfl, ?_⟩
    exact (show Ext w _ from Ext.trans EX0.out (Ext.trans E0 (by (repeat with_reducible (first | exact Ext.refl _ | exact ext_alloc _ _ | refine Ext.drewN ?_ _ | refine Ext.drew1 ?_ | refine Ext.set ?_ (by dsimp only; omega) _ | refine Ext.alloc ?_ _)))))
  have hs0 : ¬ ((1048576 : Int) - (n0 : Int) < 0) := by omega
  have hn0 : n0 ≤ 1048576 := by omega
  have Rw0 := hid w0
  have hn1 : n1 ≤ 1048576 := by omega
  have Rw1 := hid w1
  obtain ⟨R, O, hR⟩ : ∃ R O, predAtR (z0.take n0) (cls .f32 g0) (z1.take n1) x2 = (R, O) := ⟨_, _, rfl⟩
  have HR := hid hR
  clear hR
  clear wg0 wx2 w0 w1 hmx0 hmx1 hgn0
  go_enter Try.func4, Try.ntmps4
  go_wp2_with fail
  obtain ⟨w0, hw0⟩ : ∃ u, u = (w.alloc (.cells #[.slice a0 n0 c0, .float .f32 g0] 25)) := ⟨_, rfl⟩
  rw [← hw0]
  have EX := hid (show Ext w w0 from by rw [hw0]; (repeat with_reducible (first | exact Ext.refl _ | exact ext_alloc _ _ | refine Ext.drewN ?_ _ | refine Ext.drew1 ?_ | refine Ext.set ?_ (by dsimp only; omega) _ | refine Ext.alloc ?_ _)))
  have A0 : Hid (Box w0 (w.heap.size) #[.slice a0 n0 c0, .float .f32 g0]) := by rw [hw0]; exact hid (Box.cast' (box_new (w := w) #[.slice a0 n0 c0, .float .f32 g0] 25) (by simp))
  have Z0 := hid (show w.heap.size + 1 ≤ w0.heap.size from by rw [hw0]; simp)
  clear hw0
  refine (szPredictor_yes _ _ _ _ _ (by omega) (by omega) _).mono ?_
  rintro e w1 ⟨rfl, E0⟩
  have EK : Ext w0 w1 := Ext.trans (by (repeat with_reducible (first | exact Ext.refl _ | exact ext_alloc _ _ | refine Ext.drewN ?_ _ | refine Ext.drew1 ?_ | refine Ext.set ?_ (by dsimp only; omega) _ | refine Ext.alloc ?_ _))) E0
  have Z1 := hid (show w0.heap.size ≤ w1.heap.size from Ext.size EK)
  replace A0 := hid (Box.ext A0.out EK)
  replace EX := hid (Ext.trans EX.out EK)
  clear EK E0
  obtain ⟨A00, A01, A0l⟩ := Box.cells2 A0.out
  go_wp2_with fail
  refine (toPredictor_any _ _ _ _ z0 _ (IsRowF.ext Rw0.out (Ext.trans EX.out (by (repeat with_reducible (first | exact Ext.refl _ | exact ext_alloc _ _ | refine Ext.drewN ?_ _ | refine Ext.drew1 ?_ | refine Ext.set ?_ (by dsimp only; omega) _ | refine Ext.alloc ?_ _))))) hn0).mono ?_
  rintro e w2 ⟨Sc0b, rfl, Sc0F, E0⟩
  clear A00 A01 A0l
  have EK : Ext w1 w2 := Ext.trans (by (repeat with_reducible (first | exact Ext.refl _ | exact ext_alloc _ _ | refine Ext.drewN ?_ _ | refine Ext.drew1 ?_ | refine Ext.set ?_ (by dsimp only; omega) _ | refine Ext.alloc ?_ _))) E0
  have Z2 := hid (show w1.heap.size ≤ w2.heap.size from Ext.size EK)
  replace A0 := hid (Box.ext A0.out EK)
  replace EX := hid (Ext.trans EX.out EK)
  clear EK E0
  have Sc0F_ := hid (Own.base Sc0F (B' := w1.heap.size) (by first | exact Nat.le_refl _ | (simp; done) | (simp; omega)))
  have Sc0F_I := hid (Own.block Sc0F_.out)
  clear Sc0F
  obtain ⟨A00, A01, A0l⟩ := Box.cells2 A0.out
  go_wp2_with fail
  refine (toList_any _ _ _ z1 _ (IsRowF.ext Rw1.out (Ext.trans EX.out (by (repeat with_reducible (first | exact Ext.refl _ | exact ext_alloc _ _ | refine Ext.drewN ?_ _ | refine Ext.drew1 ?_ | refine Ext.set ?_ (by dsimp only; omega) _ | refine Ext.alloc ?_ _))))) hn1).mono ?_
  rintro e w3 ⟨Sc1b, rfl, Sc1F, E0⟩
  clear A00 A01 A0l
  have EK : Ext w2 w3 := Ext.trans (by (repeat with_reducible (first | exact Ext.refl _ | exact ext_alloc _ _ | refine Ext.drewN ?_ _ | refine Ext.drew1 ?_ | refine Ext.set ?_ (by dsimp only; omega) _ | refine Ext.alloc ?_ _))) E0
  have Z3 := hid (show w2.heap.size ≤ w3.heap.size from Ext.size EK)
  replace A0 := hid (Box.ext A0.out EK)
  replace Sc0F_ := hid (Own.ext Sc0F_.out EK)
  replace EX := hid (Ext.trans EX.out EK)
  clear EK E0
  have Sc1F_ := hid (Own.base Sc1F (B' := w2.heap.size) (by first | exact Nat.le_refl _ | (simp; done) | (simp; omega)))
  have Sc1F_I := hid (Own.block Sc1F_.out)
  clear Sc1F
  obtain ⟨A00, A01, A0l⟩ := Box.cells2 A0.out
  go_wp2_with fail
  refine (sPredAt_any _ _ n0 _ g0 n1 _ x2 (z0.take n0) (z1.take n1) R O _ (Holds.ext (own_hold Sc0F_.out) (by (repeat with_reducible (first | exact Ext.refl _ | exact ext_alloc _ _ | refine Ext.drewN ?_ _ | refine Ext.drew1 ?_ | refine Ext.set ?_ (by dsimp only; omega) _ | refine Ext.alloc ?_ _)))) (Holds.ext (own_hold Sc1F_.out) (by (repeat with_reducible (first | exact Ext.refl _ | exact ext_alloc _ _ | refine Ext.drewN ?_ _ | refine Ext.drew1 ?_ | refine Ext.set ?_ (by dsimp only; omega) _ | refine Ext.alloc ?_ _)))) hn0 hn1 HR.out).mono ?_
  rintro e w4 ⟨Sv0, rfl, ST0, E0⟩
  clear A00 A01 A0l
  have EK : Ext w3 w4 := Ext.trans (by (repeat with_reducible (first | exact Ext.refl _ | exact ext_alloc _ _ | refine Ext.drewN ?_ _ | refine Ext.drew1 ?_ | refine Ext.set ?_ (by dsimp only; omega) _ | refine Ext.alloc ?_ _))) E0
  have Z4 := hid (show w3.heap.size ≤ w4.heap.size from Ext.size EK)
  replace A0 := hid (Box.ext A0.out EK)
  replace Sc0F_ := hid (Own.ext Sc0F_.out EK)
  replace Sc1F_ := hid (Own.ext Sc1F_.out EK)
  replace EX := hid (Ext.trans EX.out EK)
  clear EK E0
  clear Sc0F_ Sc0F_I
  clear Sc1F_ Sc1F_I
  obtain ⟨A00, A01, A0l⟩ := Box.cells2 A0.out
  go_wp2_with fail
  refine (toPredictor_any _ _ _ _ z0 _ (IsRowF.ext Rw0.out (Ext.trans EX.out (by (repeat with_reducible (first | exact Ext.refl _ | exact ext_alloc _ _ | refine Ext.drewN ?_ _ | refine Ext.drew1 ?_ | refine Ext.set ?_ (by dsimp only; omega) _ | refine Ext.alloc ?_ _))))) hn0).mono ?_
  rintro e w5 ⟨X0b, rfl, X0F, E0⟩
  clear A00 A01 A0l
  have EK : Ext w4 w5 := Ext.trans (by (repeat with_reducible (first | exact Ext.refl _ | exact ext_alloc _ _ | refine Ext.drewN ?_ _ | refine Ext.drew1 ?_ | refine Ext.set ?_ (by dsimp only; omega) _ | refine Ext.alloc ?_ _))) E0
  have Z5 := hid (show w4.heap.size ≤ w5.heap.size from Ext.size EK)
  replace A0 := hid (Box.ext A0.out EK)
  replace EX := hid (Ext.trans EX.out EK)
  clear EK E0
  have X0F_ := hid (Own.base X0F (B' := w4.heap.size) (by first | exact Nat.le_refl _ | (simp; done) | (simp; omega)))
  have X0F_I := hid (Own.block X0F_.out)
  clear X0F
  obtain ⟨A00, A01, A0l⟩ := Box.cells2 A0.out
  go_wp2_with fail
  refine (toList_any _ _ _ z1 _ (IsRowF.ext Rw1.out (Ext.trans EX.out (by (repeat with_reducible (first | exact Ext.refl _ | exact ext_alloc _ _ | refine Ext.drewN ?_ _ | refine Ext.drew1 ?_ | refine Ext.set ?_ (by dsimp only; omega) _ | refine Ext.alloc ?_ _))))) hn1).mono ?_
  rintro e w6 ⟨X1b, rfl, X1F, E0⟩
  clear A00 A01 A0l
  have EK : Ext w5 w6 := Ext.trans (by (repeat with_reducible (first | exact Ext.refl _ | exact ext_alloc _ _ | refine Ext.drewN ?_ _ | refine Ext.drew1 ?_ | refine Ext.set ?_ (by dsimp only; omega) _ | refine Ext.alloc ?_ _))) E0
  have X0B := hid (Box.ext (box_new (w := w5) #[.slice (some ⟨X0b, 0, none⟩) n0 n0, .float .f32 g0] 29) E0)
  have Z6 := hid (show w5.heap.size + 1 ≤ w6.heap.size from by have := Ext.size E0; first | exact this | simpa using this)
  replace A0 := hid (Box.ext A0.out EK)
  replace X0F_ := hid (Own.ext X0F_.out EK)
  replace EX := hid (Ext.trans EX.out EK)
  clear EK E0
  have X1F_ := hid (Own.base X1F (B' := w5.heap.size + 1) (by first | exact Nat.le_refl _ | (simp; done) | (simp; omega)))
  have X1F_I := hid (Own.block X1F_.out)
  clear X1F
  obtain ⟨A00, A01, A0l⟩ := Box.cells2 A0.out
  obtain ⟨X0B0, X0B1, X0Bl⟩ := Box.cells2 X0B.out
  go_wp2_with fail
  refine (predAt_any _ n0 _ g0 _ _ n1 _ x2 (z0.take n0) (z1.take n1) R O _ (Holds.ext (own_hold X0F_.out) (by (repeat with_reducible (first | exact Ext.refl _ | exact ext_alloc _ _ | refine Ext.drewN ?_ _ | refine Ext.drew1 ?_ | refine Ext.set ?_ (by dsimp only; omega) _ | refine Ext.alloc ?_ _)))) (Holds.ext (own_hold X1F_.out) (by (repeat with_reducible (first | exact Ext.refl _ | exact ext_alloc _ _ | refine Ext.drewN ?_ _ | refine Ext.drew1 ?_ | refine Ext.set ?_ (by dsimp only; omega) _ | refine Ext.alloc ?_ _)))) hn0 hn1 (Nat.le_refl _) HR.out).mono ?_
  rintro e w7 ⟨Gv0, rfl, GT0, E0⟩
  clear A00 A01 A0l X0B0 X0B1 X0Bl
  have EK : Ext w6 w7 := Ext.trans (by (repeat with_reducible (first | exact Ext.refl _ | exact ext_alloc _ _ | refine Ext.drewN ?_ _ | refine Ext.drew1 ?_ | refine Ext.set ?_ (by dsimp only; omega) _ | refine Ext.alloc ?_ _))) E0
  have Z7 := hid (show w6.heap.size ≤ w7.heap.size from Ext.size EK)
  replace A0 := hid (Box.ext A0.out EK)
  replace X0B := hid (Box.ext X0B.out EK)
  replace X0F_ := hid (Own.ext X0F_.out EK)
  replace X1F_ := hid (Own.ext X1F_.out EK)
  replace EX := hid (Ext.trans EX.out EK)
  clear EK E0
  obtain ⟨A00, A01, A0l⟩ := Box.cells2 A0.out
  obtain ⟨X0B0, X0B1, X0Bl⟩ := Box.cells2 X0B.out
  go_wp2_with (first | (refine wpList_fw rfl rfl Try.underlying23 Try.underlying40 rfl (by assumption) ?_; intro r m hr hrw) | (go_at_call 27; refine (sameFloat_is _ _ _ (by assumption) (by assumption) _).mono ?_; rintro e w' ⟨rfl, m, rfl⟩))
  clear A00 A01 A0l X0B0 X0B1 X0Bl
  obtain ⟨A00, A01, A0l⟩ := Box.cells2 A0.out
  obtain ⟨X0B0, X0B1, X0Bl⟩ := Box.cells2 X0B.out
  go_region_held3 (fun w' => (w'.cell? ⟨w.heap.size, 0, none⟩ = some (.slice a0 n0 c0) ∧ w'.cell? ⟨w.heap.size, 1, none⟩ = some (.float .f32 g0)) ∧ (w'.cell? ⟨w5.heap.size, 0, none⟩ = some (.slice (some ⟨X0b, 0, none⟩) n0 n0) ∧ w'.cell? ⟨w5.heap.size, 1, none⟩ = some (.float .f32 g0)))
    (first | (refine keep_of (c := w7) (S := fun w' => (w'.cell? ⟨w.heap.size, 0, none⟩ = some (.slice a0 n0 c0) ∧ w'.cell? ⟨w.heap.size, 1, none⟩ = some (.float .f32 g0)) ∧ (w'.cell? ⟨w5.heap.size, 0, none⟩ = some (.slice (some ⟨X0b, 0, none⟩) n0 n0) ∧ w'.cell? ⟨w5.heap.size, 1, none⟩ = some (.float .f32 g0))) (fun u hu => ⟨⟨Box.cell (Box.ext A0.out hu) 0, Box.cell (Box.ext A0.out hu) 1⟩, ⟨Box.cell (Box.ext X0B.out hu) 0, Box.cell (Box.ext X0B.out hu) 1⟩⟩) ?_; (repeat with_reducible (first | exact Ext.refl _ | exact ext_alloc _ _ | refine Ext.trans ?_ EC | refine Ext.trans ?_ ED0 | refine Ext.drewN ?_ _ | refine Ext.drew1 ?_ | refine Ext.alloc ?_ _))))
    (first | (go_at_call 17; with_reducible refine (toPredictor_any a0 n0 c0 g0 z0 _ (IsRowF.ext Rw0.out (Ext.trans EX.out (by (repeat with_reducible (first | exact Ext.refl _ | exact ext_alloc _ _ | refine Ext.trans ?_ EC | refine Ext.trans ?_ ED0 | refine Ext.drewN ?_ _ | refine Ext.drew1 ?_ | refine Ext.alloc ?_ _))))) hn0).mono ?_; rintro e wD0 ⟨YYb, rfl, YYF, ED0⟩) | (go_at_call 20; refine (eqPredictor_yes _ _ _ _ _ _ _ _ _ _ (Holds.ext (own_hold X0F_.out) (by (repeat with_reducible (first | exact Ext.refl _ | exact ext_alloc _ _ | refine Ext.trans ?_ EC | refine Ext.trans ?_ ED0 | refine Ext.drewN ?_ _ | refine Ext.drew1 ?_ | refine Ext.alloc ?_ _)))) (own_hold YYF) hn0 rfl rfl).mono ?_; rintro e wC ⟨rfl, EC⟩))
  clear A00 A01 A0l X0B0 X0B1 X0Bl
  have EK : Ext w7 wC := by (repeat with_reducible (first | exact Ext.refl _ | exact ext_alloc _ _ | refine Ext.trans ?_ EC | refine Ext.trans ?_ ED0 | refine Ext.drewN ?_ _ | refine Ext.drew1 ?_ | refine Ext.alloc ?_ _))
  obtain ⟨w8, hwS⟩ : ∃ u, u = wC := ⟨_, rfl⟩
  subst hwS
  have Z8 := hid (show w7.heap.size ≤ w8.heap.size from Ext.size EK)
  clear ED0 EC YYF
  replace A0 := hid (Box.ext A0.out EK)
  replace X0B := hid (Box.ext X0B.out EK)
  replace X0F_ := hid (Own.ext X0F_.out EK)
  replace X1F_ := hid (Own.ext X1F_.out EK)
  replace EX := hid (Ext.trans EX.out EK)
  clear EK
  obtain ⟨A00, A01, A0l⟩ := Box.cells2 A0.out
  obtain ⟨X0B0, X0B1, X0Bl⟩ := Box.cells2 X0B.out
  go_wp2_with fail
  refine (toList_any _ _ _ z1 _ (IsRowF.ext Rw1.out (Ext.trans EX.out (by (repeat with_reducible (first | exact Ext.refl _ | exact ext_alloc _ _ | refine Ext.drewN ?_ _ | refine Ext.drew1 ?_ | refine Ext.set ?_ (by dsimp only; omega) _ | refine Ext.alloc ?_ _))))) hn1).mono ?_
  rintro e w9 ⟨Vb, rfl, VF, E0⟩
  clear A00 A01 A0l X0B0 X0B1 X0Bl
  have EK : Ext w8 w9 := Ext.trans (by (repeat with_reducible (first | exact Ext.refl _ | exact ext_alloc _ _ | refine Ext.drewN ?_ _ | refine Ext.drew1 ?_ | refine Ext.set ?_ (by dsimp only; omega) _ | refine Ext.alloc ?_ _))) E0
  have Z9 := hid (show w8.heap.size ≤ w9.heap.size from Ext.size EK)
  replace A0 := hid (Box.ext A0.out EK)
  replace X0B := hid (Box.ext X0B.out EK)
  replace X0F_ := hid (Own.ext X0F_.out EK)
  replace X1F_ := hid (Own.ext X1F_.out EK)
  replace EX := hid (Ext.trans EX.out EK)
  clear EK E0
  have VF_ := hid (Own.base VF (B' := w8.heap.size) (by first | exact Nat.le_refl _ | (simp; done) | (simp; omega)))
  have VF_I := hid (Own.block VF_.out)
  clear VF
  obtain ⟨A00, A01, A0l⟩ := Box.cells2 A0.out
  obtain ⟨X0B0, X0B1, X0Bl⟩ := Box.cells2 X0B.out
  go_wp2_with fail
  refine (eqList_any _ _ _ _ _ _ _ _ (Holds.ext (own_hold X1F_.out) (by (repeat with_reducible (first | exact Ext.refl _ | exact ext_alloc _ _ | refine Ext.drewN ?_ _ | refine Ext.drew1 ?_ | refine Ext.set ?_ (by dsimp only; omega) _ | refine Ext.alloc ?_ _)))) (Holds.ext (own_hold VF_.out) (by (repeat with_reducible (first | exact Ext.refl _ | exact ext_alloc _ _ | refine Ext.drewN ?_ _ | refine Ext.drew1 ?_ | refine Ext.set ?_ (by dsimp only; omega) _ | refine Ext.alloc ?_ _)))) hn1 rfl).mono ?_
  rintro e w10 ⟨rfl, E0⟩
  clear A00 A01 A0l X0B0 X0B1 X0Bl
  have EK : Ext w9 w10 := Ext.trans (by (repeat with_reducible (first | exact Ext.refl _ | exact ext_alloc _ _ | refine Ext.drewN ?_ _ | refine Ext.drew1 ?_ | refine Ext.set ?_ (by dsimp only; omega) _ | refine Ext.alloc ?_ _))) E0
  have Z10 := hid (show w9.heap.size ≤ w10.heap.size from Ext.size EK)
  replace A0 := hid (Box.ext A0.out EK)
  replace X0B := hid (Box.ext X0B.out EK)
  replace X0F_ := hid (Own.ext X0F_.out EK)
  replace X1F_ := hid (Own.ext X1F_.out EK)
  replace VF_ := hid (Own.ext VF_.out EK)
  replace EX := hid (Ext.trans EX.out EK)
  clear EK E0
  clear VF_ VF_I
  obtain ⟨A00, A01, A0l⟩ := Box.cells2 A0.out
  obtain ⟨X0B0, X0B1, X0Bl⟩ := Box.cells2 X0B.out
  go_wp2_with (first | (refine wpList_fw rfl rfl Try.underlying23 Try.underlying40 rfl (by assumption) ?_; intro r m hr hrw) | (go_at_call 27; refine (sameFloat_is _ _ _ (by assumption) (by assumption) _).mono ?_; rintro e w' ⟨rfl, m, rfl⟩))
  go_ret
  refine ⟨rfl, ?_⟩
  exact (show Ext w _ from Ext.trans EX.out (by (repeat with_reducible (first | exact Ext.refl _ | exact ext_alloc _ _ | refine Ext.drewN ?_ _ | refine Ext.drew1 ?_ | refine Ext.set ?_ (by dsimp only; omega) _ | refine Ext.alloc ?_ _))))
end Go.Proofs.Ytofhemganefhcab
