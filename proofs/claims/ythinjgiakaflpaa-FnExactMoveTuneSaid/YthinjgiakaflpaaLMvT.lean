/- The law on tunes that are moved. -/
import Derived.Test.YthinjgiakaflpaaAMov
import Derived.Test.YthinjgiakaflpaaV4
import Derived.Deep.RegionHeld3
namespace Go.Proofs.Ythinjgiakaflpaa
open Go.RowKit Flt
set_option linter.unusedVariables false

set_option maxHeartbeats 8000000 in
set_option maxRecDepth 100000 in
theorem FnExactMoveTune_walk (tb0 tf0 tr0 : Nat) (a0 : Option Addr) (n0 c0 : Nat) (z0 : List Nat) (x1 : Nat) (w : World) (wtb0 : (Lit.float .f32 tb0).wf = true) (wtf0 : (Lit.float .f32 tf0).wf = true) (wtr0 : (Lit.float .f32 tr0).wf = true) (w0 : IsRowA w a0 n0 c0 z0) (wx1 : (Lit.float .f32 x1).wf = true) :
    Calls Try.prog 12 #[.agg #[.float .f32 tb0, .float .f32 tf0, .float .f32 tr0, .slice a0 n0 c0], .float .f32 x1] w fun e w' => e = .returned (.bool true) ∧ Below w.heap.size w w' := by
  have hmx0 : n0 ≤ maxLen := rowA_max w0
  by_cases hgn0 : (1048576 : Int) < (n0 : Int)
  · clear wtb0 wtf0 wtr0 wx1 w0
    go_enter Try.func12, Try.ntmps12
    go_wp2_with fail
    obtain ⟨w0, hw0⟩ : ∃ u, u = (w.alloc (.cells #[.float .f32 tb0, .float .f32 tf0, .float .f32 tr0, .slice a0 n0 c0] 67)) := ⟨_, rfl⟩
    rw [← hw0]
    have EX0 := hid (show Ext w w0 from by rw [hw0]; (repeat with_reducible (first | exact Ext.refl _ | exact ext_alloc _ _ | refine Ext.drewN ?_ _ | refine Ext.drew1 ?_ | refine Ext.set ?_ (by dsimp only; omega) _ | refine Ext.alloc ?_ _)))
    have A0 : Hid (Box w0 (w.heap.size) #[.float .f32 tb0, .float .f32 tf0, .float .f32 tr0, .slice a0 n0 c0]) := by rw [hw0]; exact hid (Box.cast' (box_new (w := w) #[.float .f32 tb0, .float .f32 tf0, .float .f32 tr0, .slice a0 n0 c0] 67) (by simp))
    clear hw0
    refine (szTune_no _ _ _ _ _ _ _ hmx0 (by omega) (by omega) _).mono ?_
    rintro e u0 ⟨rfl, E0⟩
    go_wp2
    go_ret
    refine ⟨rfl, ?_⟩
    exact (show Ext w _ from Ext.trans EX0.out (Ext.trans E0 (by (repeat with_reducible (first | exact Ext.refl _ | exact ext_alloc _ _ | refine Ext.drewN ?_ _ | refine Ext.drew1 ?_ | refine Ext.set ?_ (by dsimp only; omega) _ | refine Ext.alloc ?_ _)))))
  have hs0 : ¬ ((1048576 : Int) - (n0 : Int) < 0) := by omega
  have hn0 : n0 ≤ 1048576 := by omega
  have Rw0 := hid w0
  have RA0 := hid (holdsA_row w0)
  obtain ⟨R, hR⟩ : ∃ R, moveU (cls .f32 tb0) (cls .f32 tf0) (cls .f32 tr0) (z0.take (n0 * 3)) n0 (cls .f32 x1) = R := ⟨_, rfl⟩
  have hL0 : R.n ≤ 1048576 := by have := moveU_len (cls .f32 tb0) (cls .f32 tf0) (cls .f32 tr0) (z0.take (n0 * 3)) n0 (cls .f32 x1); rw [hR] at this; first | omega | (simp at this; omega)
  have HR := hid hR
  clear hR
  have hr0 : ¬ (1 + 3 * (R.n : Int) < 0) := by omega
  clear wtb0 wtf0 wtr0 wx1 w0 hmx0 hgn0
  go_enter Try.func12, Try.ntmps12
  go_wp2_with fail
  obtain ⟨w0, hw0⟩ : ∃ u, u = (w.alloc (.cells #[.float .f32 tb0, .float .f32 tf0, .float .f32 tr0, .slice a0 n0 c0] 67)) := ⟨_, rfl⟩
  rw [← hw0]
  have EX := hid (show Ext w w0 from by rw [hw0]; (repeat with_reducible (first | exact Ext.refl _ | exact ext_alloc _ _ | refine Ext.drewN ?_ _ | refine Ext.drew1 ?_ | refine Ext.set ?_ (by dsimp only; omega) _ | refine Ext.alloc ?_ _)))
  have A0 : Hid (Box w0 (w.heap.size) #[.float .f32 tb0, .float .f32 tf0, .float .f32 tr0, .slice a0 n0 c0]) := by rw [hw0]; exact hid (Box.cast' (box_new (w := w) #[.float .f32 tb0, .float .f32 tf0, .float .f32 tr0, .slice a0 n0 c0] 67) (by simp))
  have Z0 := hid (show w.heap.size + 1 ≤ w0.heap.size from by rw [hw0]; simp)
  clear hw0
  refine (szTune_yes _ _ _ _ _ _ _ (by omega) (by omega) _).mono ?_
  rintro e w1 ⟨rfl, E0⟩
  have EK : Ext w0 w1 := Ext.trans (by (repeat with_reducible (first | exact Ext.refl _ | exact ext_alloc _ _ | refine Ext.drewN ?_ _ | refine Ext.drew1 ?_ | refine Ext.set ?_ (by dsimp only; omega) _ | refine Ext.alloc ?_ _))) E0
  have Z1 := hid (show w0.heap.size ≤ w1.heap.size from Ext.size EK)
  replace A0 := hid (Box.ext A0.out EK)
  replace EX := hid (Ext.trans EX.out EK)
  clear EK E0
  obtain ⟨A00, A01, A02, A03, A0l⟩ := Box.cells4 A0.out
  go_wp2_with fail
  refine (toTune_any _ _ _ _ _ _ (z0.take (n0 * 3)) _ (HoldsA.ext RA0.out (Ext.trans EX.out (by (repeat with_reducible (first | exact Ext.refl _ | exact ext_alloc _ _ | refine Ext.drewN ?_ _ | refine Ext.drew1 ?_ | refine Ext.set ?_ (by dsimp only; omega) _ | refine Ext.alloc ?_ _))))) hn0).mono ?_
  rintro e w2 ⟨Sc0b, rfl, Sc0F, E0⟩
  clear A00 A01 A02 A03 A0l
  have EK : Ext w1 w2 := Ext.trans (by (repeat with_reducible (first | exact Ext.refl _ | exact ext_alloc _ _ | refine Ext.drewN ?_ _ | refine Ext.drew1 ?_ | refine Ext.set ?_ (by dsimp only; omega) _ | refine Ext.alloc ?_ _))) E0
  have Z2 := hid (show w1.heap.size ≤ w2.heap.size from Ext.size EK)
  replace A0 := hid (Box.ext A0.out EK)
  replace EX := hid (Ext.trans EX.out EK)
  clear EK E0
  have Sc0F_ := hid (OwnA.base Sc0F (B' := w1.heap.size) (by first | exact Nat.le_refl _ | (simp; done) | (simp; omega)))
  have Sc0F_I := hid (OwnA.block Sc0F_.out)
  clear Sc0F
  obtain ⟨A00, A01, A02, A03, A0l⟩ := Box.cells4 A0.out
  go_wp2_with fail
  refine (sMove_any tb0 tf0 tr0 x1 _ n0 _ (z0.take (n0 * 3)) R _ (HoldsA.ext (ownA_hold Sc0F_.out) (by (repeat with_reducible (first | exact Ext.refl _ | exact ext_alloc _ _ | refine Ext.drewN ?_ _ | refine Ext.drew1 ?_ | refine Ext.set ?_ (by dsimp only; omega) _ | refine Ext.alloc ?_ _)))) hn0 HR.out).mono ?_
  rintro e w3 ⟨Sv0, rfl, ST0, E0⟩
  clear A00 A01 A02 A03 A0l
  have EK : Ext w2 w3 := Ext.trans (by (repeat with_reducible (first | exact Ext.refl _ | exact ext_alloc _ _ | refine Ext.drewN ?_ _ | refine Ext.drew1 ?_ | refine Ext.set ?_ (by dsimp only; omega) _ | refine Ext.alloc ?_ _))) E0
  have Z3 := hid (show w2.heap.size ≤ w3.heap.size from Ext.size EK)
  replace A0 := hid (Box.ext A0.out EK)
  replace Sc0F_ := hid (OwnA.ext Sc0F_.out EK)
  replace EX := hid (Ext.trans EX.out EK)
  clear EK E0
  obtain ⟨S0b, S0f, S0r, S0a, S0c, rfl, S0F, S0eb, S0ef, S0er⟩ := ST0
  have S0F_ := hid (OwnA.base S0F (B' := w2.heap.size) (by first | exact Nat.le_refl _ | (simp; done) | (simp; omega)))
  have S0F_I := hid (OwnA.block S0F_.out)
  clear S0F
  replace S0eb := hid S0eb
  replace S0ef := hid S0ef
  replace S0er := hid S0er
  clear Sc0F_ Sc0F_I
  obtain ⟨A00, A01, A02, A03, A0l⟩ := Box.cells4 A0.out
  go_wp2_with fail
  refine (toTune_any _ _ _ _ _ _ (z0.take (n0 * 3)) _ (HoldsA.ext RA0.out (Ext.trans EX.out (by (repeat with_reducible (first | exact Ext.refl _ | exact ext_alloc _ _ | refine Ext.drewN ?_ _ | refine Ext.drew1 ?_ | refine Ext.set ?_ (by dsimp only; omega) _ | refine Ext.alloc ?_ _))))) hn0).mono ?_
  rintro e w4 ⟨X0b, rfl, X0F, E0⟩
  clear A00 A01 A02 A03 A0l
  have EK : Ext w3 w4 := Ext.trans (by (repeat with_reducible (first | exact Ext.refl _ | exact ext_alloc _ _ | refine Ext.drewN ?_ _ | refine Ext.drew1 ?_ | refine Ext.set ?_ (by dsimp only; omega) _ | refine Ext.alloc ?_ _))) E0
  have S0B := hid (Box.ext (box_new (w := w3) #[.float .f32 S0b, .float .f32 S0f, .float .f32 S0r, .slice S0a R.n S0c] 72) E0)
  have Z4 := hid (show w3.heap.size + 1 ≤ w4.heap.size from by have := Ext.size E0; first | exact this | simpa using this)
  replace A0 := hid (Box.ext A0.out EK)
  replace S0F_ := hid (OwnA.ext S0F_.out EK)
  replace EX := hid (Ext.trans EX.out EK)
  clear EK E0
  have X0F_ := hid (OwnA.base X0F (B' := w3.heap.size + 1) (by first | exact Nat.le_refl _ | (simp; done) | (simp; omega)))
  have X0F_I := hid (OwnA.block X0F_.out)
  clear X0F
  obtain ⟨A00, A01, A02, A03, A0l⟩ := Box.cells4 A0.out
  obtain ⟨S0B0, S0B1, S0B2, S0B3, S0Bl⟩ := Box.cells4 S0B.out
  go_wp2_with fail
  refine (move_any tb0 tf0 tr0 x1 _ n0 _ (z0.take (n0 * 3)) R _ (HoldsA.ext (ownA_hold X0F_.out) (by (repeat with_reducible (first | exact Ext.refl _ | exact ext_alloc _ _ | refine Ext.drewN ?_ _ | refine Ext.drew1 ?_ | refine Ext.set ?_ (by dsimp only; omega) _ | refine Ext.alloc ?_ _)))) hn0 HR.out).mono ?_
  rintro e w5 ⟨Gv0, rfl, GT0, E0⟩
  clear A00 A01 A02 A03 A0l S0B0 S0B1 S0B2 S0B3 S0Bl
  have EK : Ext w4 w5 := Ext.trans (by (repeat with_reducible (first | exact Ext.refl _ | exact ext_alloc _ _ | refine Ext.drewN ?_ _ | refine Ext.drew1 ?_ | refine Ext.set ?_ (by dsimp only; omega) _ | refine Ext.alloc ?_ _))) E0
  have X0B := hid (Box.ext (box_new (w := w4) #[.float .f32 tb0, .float .f32 tf0, .float .f32 tr0, .slice (some ⟨X0b, 0, none⟩) n0 n0] 72) E0)
  have Z5 := hid (show w4.heap.size + 1 ≤ w5.heap.size from by have := Ext.size E0; first | exact this | simpa using this)
  replace A0 := hid (Box.ext A0.out EK)
  replace S0B := hid (Box.ext S0B.out EK)
  replace S0F_ := hid (OwnA.ext S0F_.out EK)
  replace X0F_ := hid (OwnA.ext X0F_.out EK)
  replace EX := hid (Ext.trans EX.out EK)
  clear EK E0
  obtain ⟨G0b, G0f, G0r, G0a, G0c, rfl, G0F, G0eb, G0ef, G0er⟩ := GT0
  have G0F_ := hid (OwnA.base G0F (B' := w4.heap.size + 1) (by first | exact Nat.le_refl _ | (simp; done) | (simp; omega)))
  have G0F_I := hid (OwnA.block G0F_.out)
  clear G0F
  replace G0eb := hid G0eb
  replace G0ef := hid G0ef
  replace G0er := hid G0er
  obtain ⟨A00, A01, A02, A03, A0l⟩ := Box.cells4 A0.out
  obtain ⟨S0B0, S0B1, S0B2, S0B3, S0Bl⟩ := Box.cells4 S0B.out
  obtain ⟨X0B0, X0B1, X0B2, X0B3, X0Bl⟩ := Box.cells4 X0B.out
  go_wp2_with fail
  refine (eqTune_yes _ _ _ _ _ _ _ _ _ _ _ _ _ (HoldsA.ext (ownA_hold G0F_.out) (by (repeat with_reducible (first | exact Ext.refl _ | exact ext_alloc _ _ | refine Ext.drewN ?_ _ | refine Ext.drew1 ?_ | refine Ext.set ?_ (by dsimp only; omega) _ | refine Ext.alloc ?_ _)))) (HoldsA.ext (ownA_hold S0F_.out) (by (repeat with_reducible (first | exact Ext.refl _ | exact ext_alloc _ _ | refine Ext.drewN ?_ _ | refine Ext.drew1 ?_ | refine Ext.set ?_ (by dsimp only; omega) _ | refine Ext.alloc ?_ _)))) hL0 (by rw [G0eb.out, S0eb.out]) (by rw [G0ef.out, S0ef.out]) (by rw [G0er.out, S0er.out])).mono ?_
  rintro e w6 ⟨rfl, E0⟩
  clear A00 A01 A02 A03 A0l S0B0 S0B1 S0B2 S0B3 S0Bl X0B0 X0B1 X0B2 X0B3 X0Bl
  have EK : Ext w5 w6 := Ext.trans (by (repeat with_reducible (first | exact Ext.refl _ | exact ext_alloc _ _ | refine Ext.drewN ?_ _ | refine Ext.drew1 ?_ | refine Ext.set ?_ (by dsimp only; omega) _ | refine Ext.alloc ?_ _))) E0
  have G0B := hid (Box.ext (box_new (w := w5) #[.float .f32 G0b, .float .f32 G0f, .float .f32 G0r, .slice G0a R.n G0c] 72) E0)
  have Z6 := hid (show w5.heap.size + 1 ≤ w6.heap.size from by have := Ext.size E0; first | exact this | simpa using this)
  replace A0 := hid (Box.ext A0.out EK)
  replace S0B := hid (Box.ext S0B.out EK)
  replace X0B := hid (Box.ext X0B.out EK)
  replace S0F_ := hid (OwnA.ext S0F_.out EK)
  replace X0F_ := hid (OwnA.ext X0F_.out EK)
  replace G0F_ := hid (OwnA.ext G0F_.out EK)
  replace EX := hid (Ext.trans EX.out EK)
  clear EK E0
  obtain ⟨A00, A01, A02, A03, A0l⟩ := Box.cells4 A0.out
  obtain ⟨S0B0, S0B1, S0B2, S0B3, S0Bl⟩ := Box.cells4 S0B.out
  obtain ⟨X0B0, X0B1, X0B2, X0B3, X0Bl⟩ := Box.cells4 X0B.out
  obtain ⟨G0B0, G0B1, G0B2, G0B3, G0Bl⟩ := Box.cells4 G0B.out
  go_wp2_with fail
  clear A00 A01 A02 A03 A0l S0B0 S0B1 S0B2 S0B3 S0Bl X0B0 X0B1 X0B2 X0B3 X0Bl G0B0 G0B1 G0B2 G0B3 G0Bl
  obtain ⟨A00, A01, A02, A03, A0l⟩ := Box.cells4 A0.out
  obtain ⟨S0B0, S0B1, S0B2, S0B3, S0Bl⟩ := Box.cells4 S0B.out
  obtain ⟨X0B0, X0B1, X0B2, X0B3, X0Bl⟩ := Box.cells4 X0B.out
  obtain ⟨G0B0, G0B1, G0B2, G0B3, G0Bl⟩ := Box.cells4 G0B.out
  go_region_held3 (fun w' => (w'.cell? ⟨w.heap.size, 0, none⟩ = some (.float .f32 tb0) ∧ w'.cell? ⟨w.heap.size, 1, none⟩ = some (.float .f32 tf0) ∧ w'.cell? ⟨w.heap.size, 2, none⟩ = some (.float .f32 tr0) ∧ w'.cell? ⟨w.heap.size, 3, none⟩ = some (.slice a0 n0 c0)) ∧ (w'.cell? ⟨w4.heap.size, 0, none⟩ = some (.float .f32 tb0) ∧ w'.cell? ⟨w4.heap.size, 1, none⟩ = some (.float .f32 tf0) ∧ w'.cell? ⟨w4.heap.size, 2, none⟩ = some (.float .f32 tr0) ∧ w'.cell? ⟨w4.heap.size, 3, none⟩ = some (.slice (some ⟨X0b, 0, none⟩) n0 n0)))
    (first | (refine keep_of (c := w6) (S := fun w' => (w'.cell? ⟨w.heap.size, 0, none⟩ = some (.float .f32 tb0) ∧ w'.cell? ⟨w.heap.size, 1, none⟩ = some (.float .f32 tf0) ∧ w'.cell? ⟨w.heap.size, 2, none⟩ = some (.float .f32 tr0) ∧ w'.cell? ⟨w.heap.size, 3, none⟩ = some (.slice a0 n0 c0)) ∧ (w'.cell? ⟨w4.heap.size, 0, none⟩ = some (.float .f32 tb0) ∧ w'.cell? ⟨w4.heap.size, 1, none⟩ = some (.float .f32 tf0) ∧ w'.cell? ⟨w4.heap.size, 2, none⟩ = some (.float .f32 tr0) ∧ w'.cell? ⟨w4.heap.size, 3, none⟩ = some (.slice (some ⟨X0b, 0, none⟩) n0 n0))) (fun u hu => ⟨⟨Box.cell (Box.ext A0.out hu) 0, Box.cell (Box.ext A0.out hu) 1, Box.cell (Box.ext A0.out hu) 2, Box.cell (Box.ext A0.out hu) 3⟩, ⟨Box.cell (Box.ext X0B.out hu) 0, Box.cell (Box.ext X0B.out hu) 1, Box.cell (Box.ext X0B.out hu) 2, Box.cell (Box.ext X0B.out hu) 3⟩⟩) ?_; (repeat with_reducible (first | exact Ext.refl _ | exact ext_alloc _ _ | refine Ext.trans ?_ EC | refine Ext.trans ?_ ED0 | refine Ext.drewN ?_ _ | refine Ext.drew1 ?_ | refine Ext.alloc ?_ _))))
    (first | (go_at_call 47; with_reducible refine (toTune_any tb0 tf0 tr0 a0 n0 c0 (z0.take (n0 * 3)) _ (HoldsA.ext RA0.out (Ext.trans EX.out (by (repeat with_reducible (first | exact Ext.refl _ | exact ext_alloc _ _ | refine Ext.trans ?_ EC | refine Ext.trans ?_ ED0 | refine Ext.drewN ?_ _ | refine Ext.drew1 ?_ | refine Ext.alloc ?_ _))))) hn0).mono ?_; rintro e wD0 ⟨YYb, rfl, YYF, ED0⟩) | (go_at_call 49; refine (eqTune_yes _ _ _ _ _ _ _ _ _ _ _ _ _ (HoldsA.ext (ownA_hold X0F_.out) (by (repeat with_reducible (first | exact Ext.refl _ | exact ext_alloc _ _ | refine Ext.trans ?_ EC | refine Ext.trans ?_ ED0 | refine Ext.drewN ?_ _ | refine Ext.drew1 ?_ | refine Ext.alloc ?_ _)))) (ownA_hold YYF) hn0 rfl rfl rfl).mono ?_; rintro e wC ⟨rfl, EC⟩))
  clear A00 A01 A02 A03 A0l S0B0 S0B1 S0B2 S0B3 S0Bl X0B0 X0B1 X0B2 X0B3 X0Bl G0B0 G0B1 G0B2 G0B3 G0Bl
  have EK : Ext w6 wC := by (repeat with_reducible (first | exact Ext.refl _ | exact ext_alloc _ _ | refine Ext.trans ?_ EC | refine Ext.trans ?_ ED0 | refine Ext.drewN ?_ _ | refine Ext.drew1 ?_ | refine Ext.alloc ?_ _))
  obtain ⟨w7, hwS⟩ : ∃ u, u = wC := ⟨_, rfl⟩
  subst hwS
  have Z7 := hid (show w6.heap.size ≤ w7.heap.size from Ext.size EK)
  clear ED0 EC YYF
  replace A0 := hid (Box.ext A0.out EK)
  replace S0B := hid (Box.ext S0B.out EK)
  replace X0B := hid (Box.ext X0B.out EK)
  replace G0B := hid (Box.ext G0B.out EK)
  replace S0F_ := hid (OwnA.ext S0F_.out EK)
  replace X0F_ := hid (OwnA.ext X0F_.out EK)
  replace G0F_ := hid (OwnA.ext G0F_.out EK)
  replace EX := hid (Ext.trans EX.out EK)
  clear EK
  obtain ⟨A00, A01, A02, A03, A0l⟩ := Box.cells4 A0.out
  obtain ⟨S0B0, S0B1, S0B2, S0B3, S0Bl⟩ := Box.cells4 S0B.out
  obtain ⟨X0B0, X0B1, X0B2, X0B3, X0Bl⟩ := Box.cells4 X0B.out
  obtain ⟨G0B0, G0B1, G0B2, G0B3, G0Bl⟩ := Box.cells4 G0B.out
  go_wp2_with fail
  refine (markTune_is _ _ _ _ n0 _ (1) _ _ _ X0F_.out hn0 (by omega)).mono ?_
  rintro e w8 ⟨rfl, ⟨_, MO⟩, MB⟩
  clear A00 A01 A02 A03 A0l S0B0 S0B1 S0B2 S0B3 S0Bl X0B0 X0B1 X0B2 X0B3 X0Bl G0B0 G0B1 G0B2 G0B3 G0Bl
  have Z8 := hid (show w7.heap.size ≤ w8.heap.size from by have h9 := MB.size; first | exact h9 | (simp at h9; omega))
  replace A0 := hid (But.box MB A0.out (fun hk => by have h1 := X0F_I.out _ hk; have qZ0 := Z0.out; have qZ1 := Z1.out; have qZ2 := Z2.out; have qZ3 := Z3.out; have qZ4 := Z4.out; have qZ5 := Z5.out; have qZ6 := Z6.out; have qZ7 := Z7.out; omega))
  replace S0B := hid (But.box MB S0B.out (fun hk => by have h1 := X0F_I.out _ hk; have qZ0 := Z0.out; have qZ1 := Z1.out; have qZ2 := Z2.out; have qZ3 := Z3.out; have qZ4 := Z4.out; have qZ5 := Z5.out; have qZ6 := Z6.out; have qZ7 := Z7.out; omega))
  replace X0B := hid (But.box MB X0B.out (fun hk => by have h1 := X0F_I.out _ hk; have qZ0 := Z0.out; have qZ1 := Z1.out; have qZ2 := Z2.out; have qZ3 := Z3.out; have qZ4 := Z4.out; have qZ5 := Z5.out; have qZ6 := Z6.out; have qZ7 := Z7.out; omega))
  replace G0B := hid (But.box MB G0B.out (fun hk => by have h1 := X0F_I.out _ hk; have qZ0 := Z0.out; have qZ1 := Z1.out; have qZ2 := Z2.out; have qZ3 := Z3.out; have qZ4 := Z4.out; have qZ5 := Z5.out; have qZ6 := Z6.out; have qZ7 := Z7.out; omega))
  replace S0F_ := hid (But.ownA MB S0F_.out (fun k hk hk2 => by have h1 := X0F_I.out _ hk2; have h2 := S0F_I.out _ hk; have qZ0 := Z0.out; have qZ1 := Z1.out; have qZ2 := Z2.out; have qZ3 := Z3.out; have qZ4 := Z4.out; have qZ5 := Z5.out; have qZ6 := Z6.out; have qZ7 := Z7.out; omega))
  replace G0F_ := hid (But.ownA MB G0F_.out (fun k hk hk2 => by have h1 := X0F_I.out _ hk2; have h2 := G0F_I.out _ hk; have qZ0 := Z0.out; have qZ1 := Z1.out; have qZ2 := Z2.out; have qZ3 := Z3.out; have qZ4 := Z4.out; have qZ5 := Z5.out; have qZ6 := Z6.out; have qZ7 := Z7.out; omega))
  replace EX := hid (But.below MB (Ext.trans EX.out (by (repeat with_reducible (first | exact Ext.refl _ | exact ext_alloc _ _ | refine Ext.drewN ?_ _ | refine Ext.drew1 ?_ | refine Ext.set ?_ (by dsimp only; omega) _ | refine Ext.alloc ?_ _)))) (fun k hk => by have h1 := X0F_I.out _ hk; have qZ0 := Z0.out; have qZ1 := Z1.out; have qZ2 := Z2.out; have qZ3 := Z3.out; have qZ4 := Z4.out; have qZ5 := Z5.out; have qZ6 := Z6.out; have qZ7 := Z7.out; omega))
  replace X0F_ := hid MO
  clear MO MB
  clear X0F_ X0F_I
  obtain ⟨A00, A01, A02, A03, A0l⟩ := Box.cells4 A0.out
  obtain ⟨S0B0, S0B1, S0B2, S0B3, S0Bl⟩ := Box.cells4 S0B.out
  obtain ⟨X0B0, X0B1, X0B2, X0B3, X0Bl⟩ := Box.cells4 X0B.out
  obtain ⟨G0B0, G0B1, G0B2, G0B3, G0Bl⟩ := Box.cells4 G0B.out
  go_wp2_with fail
  refine (eqTune_yes _ _ _ _ _ _ _ _ _ _ _ _ _ (HoldsA.ext (ownA_hold G0F_.out) (by (repeat with_reducible (first | exact Ext.refl _ | exact ext_alloc _ _ | refine Ext.drewN ?_ _ | refine Ext.drew1 ?_ | refine Ext.set ?_ (by dsimp only; omega) _ | refine Ext.alloc ?_ _)))) (HoldsA.ext (ownA_hold S0F_.out) (by (repeat with_reducible (first | exact Ext.refl _ | exact ext_alloc _ _ | refine Ext.drewN ?_ _ | refine Ext.drew1 ?_ | refine Ext.set ?_ (by dsimp only; omega) _ | refine Ext.alloc ?_ _)))) hL0 (by rw [G0eb.out, S0eb.out]) (by rw [G0ef.out, S0ef.out]) (by rw [G0er.out, S0er.out])).mono ?_
  rintro e w9 ⟨rfl, E0⟩
  clear A00 A01 A02 A03 A0l S0B0 S0B1 S0B2 S0B3 S0Bl X0B0 X0B1 X0B2 X0B3 X0Bl G0B0 G0B1 G0B2 G0B3 G0Bl
  have EK : Ext w8 w9 := Ext.trans (by (repeat with_reducible (first | exact Ext.refl _ | exact ext_alloc _ _ | refine Ext.drewN ?_ _ | refine Ext.drew1 ?_ | refine Ext.set ?_ (by dsimp only; omega) _ | refine Ext.alloc ?_ _))) E0
  have Z9 := hid (show w8.heap.size ≤ w9.heap.size from Ext.size EK)
  replace A0 := hid (Box.ext A0.out EK)
  replace S0B := hid (Box.ext S0B.out EK)
  replace X0B := hid (Box.ext X0B.out EK)
  replace G0B := hid (Box.ext G0B.out EK)
  replace S0F_ := hid (OwnA.ext S0F_.out EK)
  replace G0F_ := hid (OwnA.ext G0F_.out EK)
  replace EX := hid (Ext.trans EX.out EK)
  clear EK E0
  obtain ⟨A00, A01, A02, A03, A0l⟩ := Box.cells4 A0.out
  obtain ⟨S0B0, S0B1, S0B2, S0B3, S0Bl⟩ := Box.cells4 S0B.out
  obtain ⟨X0B0, X0B1, X0B2, X0B3, X0Bl⟩ := Box.cells4 X0B.out
  obtain ⟨G0B0, G0B1, G0B2, G0B3, G0Bl⟩ := Box.cells4 G0B.out
  go_wp2_with fail
  refine (markTuneK_any _ _ _ _ R.n _ (1) _ _ _ G0F_.out hL0 (by omega)).mono ?_
  rintro e w10 ⟨rfl, MO, MB⟩
  clear A00 A01 A02 A03 A0l S0B0 S0B1 S0B2 S0B3 S0Bl X0B0 X0B1 X0B2 X0B3 X0Bl G0B0 G0B1 G0B2 G0B3 G0Bl
  have Z10 := hid (show w9.heap.size ≤ w10.heap.size from by have h9 := MB.size; first | exact h9 | (simp at h9; omega))
  replace A0 := hid (But.box MB A0.out (fun hk => by have h1 := G0F_I.out _ hk; have qZ0 := Z0.out; have qZ1 := Z1.out; have qZ2 := Z2.out; have qZ3 := Z3.out; have qZ4 := Z4.out; have qZ5 := Z5.out; have qZ6 := Z6.out; have qZ7 := Z7.out; have qZ8 := Z8.out; have qZ9 := Z9.out; omega))
  replace S0B := hid (But.box MB S0B.out (fun hk => by have h1 := G0F_I.out _ hk; have qZ0 := Z0.out; have qZ1 := Z1.out; have qZ2 := Z2.out; have qZ3 := Z3.out; have qZ4 := Z4.out; have qZ5 := Z5.out; have qZ6 := Z6.out; have qZ7 := Z7.out; have qZ8 := Z8.out; have qZ9 := Z9.out; omega))
  replace X0B := hid (But.box MB X0B.out (fun hk => by have h1 := G0F_I.out _ hk; have qZ0 := Z0.out; have qZ1 := Z1.out; have qZ2 := Z2.out; have qZ3 := Z3.out; have qZ4 := Z4.out; have qZ5 := Z5.out; have qZ6 := Z6.out; have qZ7 := Z7.out; have qZ8 := Z8.out; have qZ9 := Z9.out; omega))
  replace G0B := hid (But.box MB G0B.out (fun hk => by have h1 := G0F_I.out _ hk; have qZ0 := Z0.out; have qZ1 := Z1.out; have qZ2 := Z2.out; have qZ3 := Z3.out; have qZ4 := Z4.out; have qZ5 := Z5.out; have qZ6 := Z6.out; have qZ7 := Z7.out; have qZ8 := Z8.out; have qZ9 := Z9.out; omega))
  replace S0F_ := hid (But.ownA MB S0F_.out (fun k hk hk2 => by have h1 := G0F_I.out _ hk2; have h2 := S0F_I.out _ hk; have qZ0 := Z0.out; have qZ1 := Z1.out; have qZ2 := Z2.out; have qZ3 := Z3.out; have qZ4 := Z4.out; have qZ5 := Z5.out; have qZ6 := Z6.out; have qZ7 := Z7.out; have qZ8 := Z8.out; have qZ9 := Z9.out; omega))
  replace EX := hid (But.below MB (Ext.trans EX.out (by (repeat with_reducible (first | exact Ext.refl _ | exact ext_alloc _ _ | refine Ext.drewN ?_ _ | refine Ext.drew1 ?_ | refine Ext.set ?_ (by dsimp only; omega) _ | refine Ext.alloc ?_ _)))) (fun k hk => by have h1 := G0F_I.out _ hk; have qZ0 := Z0.out; have qZ1 := Z1.out; have qZ2 := Z2.out; have qZ3 := Z3.out; have qZ4 := Z4.out; have qZ5 := Z5.out; have qZ6 := Z6.out; have qZ7 := Z7.out; have qZ8 := Z8.out; have qZ9 := Z9.out; omega))
  replace G0F_ := hid MO
  clear MO MB
  obtain ⟨A00, A01, A02, A03, A0l⟩ := Box.cells4 A0.out
  obtain ⟨S0B0, S0B1, S0B2, S0B3, S0Bl⟩ := Box.cells4 S0B.out
  obtain ⟨X0B0, X0B1, X0B2, X0B3, X0Bl⟩ := Box.cells4 X0B.out
  obtain ⟨G0B0, G0B1, G0B2, G0B3, G0Bl⟩ := Box.cells4 G0B.out
  go_wp2_with fail
  refine (heldTune_any _ _ _ _ _ _ (1) _ _ (OwnA.ext G0F_.out (by (repeat with_reducible (first | exact Ext.refl _ | exact ext_alloc _ _ | refine Ext.drewN ?_ _ | refine Ext.drew1 ?_ | refine Ext.set ?_ (by dsimp only; omega) _ | refine Ext.alloc ?_ _)))) hL0 (by omega)).mono ?_
  rintro e w11 ⟨rfl, E0⟩
  clear A00 A01 A02 A03 A0l S0B0 S0B1 S0B2 S0B3 S0Bl X0B0 X0B1 X0B2 X0B3 X0Bl G0B0 G0B1 G0B2 G0B3 G0Bl
  have EK : Ext w10 w11 := Ext.trans (by (repeat with_reducible (first | exact Ext.refl _ | exact ext_alloc _ _ | refine Ext.drewN ?_ _ | refine Ext.drew1 ?_ | refine Ext.set ?_ (by dsimp only; omega) _ | refine Ext.alloc ?_ _))) E0
  have Z11 := hid (show w10.heap.size ≤ w11.heap.size from Ext.size EK)
  replace A0 := hid (Box.ext A0.out EK)
  replace S0B := hid (Box.ext S0B.out EK)
  replace X0B := hid (Box.ext X0B.out EK)
  replace G0B := hid (Box.ext G0B.out EK)
  replace S0F_ := hid (OwnA.ext S0F_.out EK)
  replace G0F_ := hid (OwnA.ext G0F_.out EK)
  replace EX := hid (Ext.trans EX.out EK)
  clear EK E0
  obtain ⟨A00, A01, A02, A03, A0l⟩ := Box.cells4 A0.out
  obtain ⟨S0B0, S0B1, S0B2, S0B3, S0Bl⟩ := Box.cells4 S0B.out
  obtain ⟨X0B0, X0B1, X0B2, X0B3, X0Bl⟩ := Box.cells4 X0B.out
  obtain ⟨G0B0, G0B1, G0B2, G0B3, G0Bl⟩ := Box.cells4 G0B.out
  go_wp2_with fail
  refine (toTune_any _ _ _ _ _ _ (z0.take (n0 * 3)) _ (HoldsA.ext RA0.out (Ext.trans EX.out (by (repeat with_reducible (first | exact Ext.refl _ | exact ext_alloc _ _ | refine Ext.drewN ?_ _ | refine Ext.drew1 ?_ | refine Ext.set ?_ (by dsimp only; omega) _ | refine Ext.alloc ?_ _))))) hn0).mono ?_
  rintro e w12 ⟨Hc0b, rfl, Hc0F, E0⟩
  clear A00 A01 A02 A03 A0l S0B0 S0B1 S0B2 S0B3 S0Bl X0B0 X0B1 X0B2 X0B3 X0Bl G0B0 G0B1 G0B2 G0B3 G0Bl
  have EK : Ext w11 w12 := Ext.trans (by (repeat with_reducible (first | exact Ext.refl _ | exact ext_alloc _ _ | refine Ext.drewN ?_ _ | refine Ext.drew1 ?_ | refine Ext.set ?_ (by dsimp only; omega) _ | refine Ext.alloc ?_ _))) E0
  have Z12 := hid (show w11.heap.size ≤ w12.heap.size from Ext.size EK)
  replace A0 := hid (Box.ext A0.out EK)
  replace S0B := hid (Box.ext S0B.out EK)
  replace X0B := hid (Box.ext X0B.out EK)
  replace G0B := hid (Box.ext G0B.out EK)
  replace S0F_ := hid (OwnA.ext S0F_.out EK)
  replace G0F_ := hid (OwnA.ext G0F_.out EK)
  replace EX := hid (Ext.trans EX.out EK)
  clear EK E0
  have Hc0F_ := hid (OwnA.base Hc0F (B' := w11.heap.size) (by first | exact Nat.le_refl _ | (simp; done) | (simp; omega)))
  have Hc0F_I := hid (OwnA.block Hc0F_.out)
  clear Hc0F
  obtain ⟨A00, A01, A02, A03, A0l⟩ := Box.cells4 A0.out
  obtain ⟨S0B0, S0B1, S0B2, S0B3, S0Bl⟩ := Box.cells4 S0B.out
  obtain ⟨X0B0, X0B1, X0B2, X0B3, X0Bl⟩ := Box.cells4 X0B.out
  obtain ⟨G0B0, G0B1, G0B2, G0B3, G0Bl⟩ := Box.cells4 G0B.out
  go_wp2_with fail
  refine (move_any tb0 tf0 tr0 x1 _ n0 _ (z0.take (n0 * 3)) R _ (HoldsA.ext (ownA_hold Hc0F_.out) (by (repeat with_reducible (first | exact Ext.refl _ | exact ext_alloc _ _ | refine Ext.drewN ?_ _ | refine Ext.drew1 ?_ | refine Ext.set ?_ (by dsimp only; omega) _ | refine Ext.alloc ?_ _)))) hn0 HR.out).mono ?_
  rintro e w13 ⟨Hv0, rfl, HT0, E0⟩
  clear A00 A01 A02 A03 A0l S0B0 S0B1 S0B2 S0B3 S0Bl X0B0 X0B1 X0B2 X0B3 X0Bl G0B0 G0B1 G0B2 G0B3 G0Bl
  have EK : Ext w12 w13 := Ext.trans (by (repeat with_reducible (first | exact Ext.refl _ | exact ext_alloc _ _ | refine Ext.drewN ?_ _ | refine Ext.drew1 ?_ | refine Ext.set ?_ (by dsimp only; omega) _ | refine Ext.alloc ?_ _))) E0
  have Z13 := hid (show w12.heap.size ≤ w13.heap.size from Ext.size EK)
  replace A0 := hid (Box.ext A0.out EK)
  replace S0B := hid (Box.ext S0B.out EK)
  replace X0B := hid (Box.ext X0B.out EK)
  replace G0B := hid (Box.ext G0B.out EK)
  replace S0F_ := hid (OwnA.ext S0F_.out EK)
  replace G0F_ := hid (OwnA.ext G0F_.out EK)
  replace Hc0F_ := hid (OwnA.ext Hc0F_.out EK)
  replace EX := hid (Ext.trans EX.out EK)
  clear EK E0
  obtain ⟨H0b, H0f, H0r, H0a, H0c, rfl, H0F, H0eb, H0ef, H0er⟩ := HT0
  have H0F_ := hid (OwnA.base H0F (B' := w12.heap.size) (by first | exact Nat.le_refl _ | (simp; done) | (simp; omega)))
  have H0F_I := hid (OwnA.block H0F_.out)
  clear H0F
  replace H0eb := hid H0eb
  replace H0ef := hid H0ef
  replace H0er := hid H0er
  clear Hc0F_ Hc0F_I
  obtain ⟨A00, A01, A02, A03, A0l⟩ := Box.cells4 A0.out
  obtain ⟨S0B0, S0B1, S0B2, S0B3, S0Bl⟩ := Box.cells4 S0B.out
  obtain ⟨X0B0, X0B1, X0B2, X0B3, X0Bl⟩ := Box.cells4 X0B.out
  obtain ⟨G0B0, G0B1, G0B2, G0B3, G0Bl⟩ := Box.cells4 G0B.out
  go_wp2_with fail
  refine (eqTune_yes _ _ _ _ _ _ _ _ _ _ _ _ _ (HoldsA.ext (ownA_hold H0F_.out) (by (repeat with_reducible (first | exact Ext.refl _ | exact ext_alloc _ _ | refine Ext.drewN ?_ _ | refine Ext.drew1 ?_ | refine Ext.set ?_ (by dsimp only; omega) _ | refine Ext.alloc ?_ _)))) (HoldsA.ext (ownA_hold S0F_.out) (by (repeat with_reducible (first | exact Ext.refl _ | exact ext_alloc _ _ | refine Ext.drewN ?_ _ | refine Ext.drew1 ?_ | refine Ext.set ?_ (by dsimp only; omega) _ | refine Ext.alloc ?_ _)))) hL0 (by rw [H0eb.out, S0eb.out]) (by rw [H0ef.out, S0ef.out]) (by rw [H0er.out, S0er.out])).mono ?_
  rintro e w14 ⟨rfl, E0⟩
  clear A00 A01 A02 A03 A0l S0B0 S0B1 S0B2 S0B3 S0Bl X0B0 X0B1 X0B2 X0B3 X0Bl G0B0 G0B1 G0B2 G0B3 G0Bl
  have EK : Ext w13 w14 := Ext.trans (by (repeat with_reducible (first | exact Ext.refl _ | exact ext_alloc _ _ | refine Ext.drewN ?_ _ | refine Ext.drew1 ?_ | refine Ext.set ?_ (by dsimp only; omega) _ | refine Ext.alloc ?_ _))) E0
  have H0B := hid (Box.ext (box_new (w := w13) #[.float .f32 H0b, .float .f32 H0f, .float .f32 H0r, .slice H0a R.n H0c] 72) E0)
  have Z14 := hid (show w13.heap.size + 1 ≤ w14.heap.size from by have := Ext.size E0; first | exact this | simpa using this)
  replace A0 := hid (Box.ext A0.out EK)
  replace S0B := hid (Box.ext S0B.out EK)
  replace X0B := hid (Box.ext X0B.out EK)
  replace G0B := hid (Box.ext G0B.out EK)
  replace S0F_ := hid (OwnA.ext S0F_.out EK)
  replace G0F_ := hid (OwnA.ext G0F_.out EK)
  replace H0F_ := hid (OwnA.ext H0F_.out EK)
  replace EX := hid (Ext.trans EX.out EK)
  clear EK E0
  obtain ⟨A00, A01, A02, A03, A0l⟩ := Box.cells4 A0.out
  obtain ⟨S0B0, S0B1, S0B2, S0B3, S0Bl⟩ := Box.cells4 S0B.out
  obtain ⟨X0B0, X0B1, X0B2, X0B3, X0Bl⟩ := Box.cells4 X0B.out
  obtain ⟨G0B0, G0B1, G0B2, G0B3, G0Bl⟩ := Box.cells4 G0B.out
  obtain ⟨H0B0, H0B1, H0B2, H0B3, H0Bl⟩ := Box.cells4 H0B.out
  go_wp2_with fail
  refine (heldTune_any _ _ _ _ _ _ (1) _ _ (OwnA.ext G0F_.out (by (repeat with_reducible (first | exact Ext.refl _ | exact ext_alloc _ _ | refine Ext.drewN ?_ _ | refine Ext.drew1 ?_ | refine Ext.set ?_ (by dsimp only; omega) _ | refine Ext.alloc ?_ _)))) hL0 (by omega)).mono ?_
  rintro e w15 ⟨rfl, E0⟩
  clear A00 A01 A02 A03 A0l S0B0 S0B1 S0B2 S0B3 S0Bl X0B0 X0B1 X0B2 X0B3 X0Bl G0B0 G0B1 G0B2 G0B3 G0Bl H0B0 H0B1 H0B2 H0B3 H0Bl
  have EK : Ext w14 w15 := Ext.trans (by (repeat with_reducible (first | exact Ext.refl _ | exact ext_alloc _ _ | refine Ext.drewN ?_ _ | refine Ext.drew1 ?_ | refine Ext.set ?_ (by dsimp only; omega) _ | refine Ext.alloc ?_ _))) E0
  have Z15 := hid (show w14.heap.size ≤ w15.heap.size from Ext.size EK)
  replace A0 := hid (Box.ext A0.out EK)
  replace S0B := hid (Box.ext S0B.out EK)
  replace X0B := hid (Box.ext X0B.out EK)
  replace G0B := hid (Box.ext G0B.out EK)
  replace H0B := hid (Box.ext H0B.out EK)
  replace S0F_ := hid (OwnA.ext S0F_.out EK)
  replace G0F_ := hid (OwnA.ext G0F_.out EK)
  replace H0F_ := hid (OwnA.ext H0F_.out EK)
  replace EX := hid (Ext.trans EX.out EK)
  clear EK E0
  obtain ⟨A00, A01, A02, A03, A0l⟩ := Box.cells4 A0.out
  obtain ⟨S0B0, S0B1, S0B2, S0B3, S0Bl⟩ := Box.cells4 S0B.out
  obtain ⟨X0B0, X0B1, X0B2, X0B3, X0Bl⟩ := Box.cells4 X0B.out
  obtain ⟨G0B0, G0B1, G0B2, G0B3, G0Bl⟩ := Box.cells4 G0B.out
  obtain ⟨H0B0, H0B1, H0B2, H0B3, H0Bl⟩ := Box.cells4 H0B.out
  go_wp2_with fail
  go_ret
  refine ⟨rfl, ?_⟩
  exact (show Ext w _ from Ext.trans EX.out (by (repeat with_reducible (first | exact Ext.refl _ | exact ext_alloc _ _ | refine Ext.drewN ?_ _ | refine Ext.drew1 ?_ | refine Ext.set ?_ (by dsimp only; omega) _ | refine Ext.alloc ?_ _))))
end Go.Proofs.Ythinjgiakaflpaa
