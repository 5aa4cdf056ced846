/- The law on joined sounds. -/
import Derived.Test.YthadoamehdnnoaaW17i
import Derived.Test.YthadoamehdnnoaaV4
import Derived.Deep.RegionHeld3
namespace Go.Proofs.Ythadoamehdnnoaa
open Go.RowKit Flt
set_option linter.unusedVariables false

set_option maxHeartbeats 8000000 in
set_option maxRecDepth 100000 in
theorem FnExactJoinSounds_walk (a0 : Option Addr) (n0 c0 : Nat) (z0 : List Nat) (a1 : Option Addr) (n1 c1 : Nat) (z1 : List Nat) (x2 : Int) (w : World) (w0 : IsRowF .f32 w a0 n0 c0 z0) (w1 : IsRowF .f32 w a1 n1 c1 z1) (wx2 : (Lit.int .i64 x2).wf = true) :
    Calls Try.prog 3 #[.slice a0 n0 c0, .slice a1 n1 c1, .int .i64 x2] w fun e w' => e = .returned (.bool true) ∧ Below w.heap.size w w' := by
  have hmx0 : n0 ≤ maxLen := row_max w0
  have hmx1 : n1 ≤ maxLen := row_max w1
  by_cases hg0 : (1048576 : Int) < (n0 : Int)
  · clear wx2 w0 w1
    have hi0 : (n0 : Int) ≤ 9223372036854775807 := by simp [maxLen] at hmx0; omega
    go_enter Try.func3, Try.ntmps3
    go_wp2
    go_ret
    refine ⟨rfl, ?_⟩
    exact (show Ext w _ from (by (repeat with_reducible (first | exact Ext.refl _ | exact ext_alloc _ _ | refine Ext.drewN ?_ _ | refine Ext.drew1 ?_ | refine Ext.set ?_ (by dsimp only; omega) _ | refine Ext.alloc ?_ _))))
  by_cases hg1 : (1048576 : Int) < (n1 : Int)
  · clear wx2 w0 w1
    have hi1 : (n1 : Int) ≤ 9223372036854775807 := by simp [maxLen] at hmx1; omega
    go_enter Try.func3, Try.ntmps3
    go_wp2
    go_ret
    refine ⟨rfl, ?_⟩
    exact (show Ext w _ from (by (repeat with_reducible (first | exact Ext.refl _ | exact ext_alloc _ _ | refine Ext.drewN ?_ _ | refine Ext.drew1 ?_ | refine Ext.set ?_ (by dsimp only; omega) _ | refine Ext.alloc ?_ _))))
  have hn0 : n0 ≤ 1048576 := by omega
  have Rw0 := hid w0
  have hn1 : n1 ≤ 1048576 := by omega
  have Rw1 := hid w1
  obtain ⟨R, O, hR⟩ : ∃ R O, joinSR (z0.take n0) (z1.take n1) x2 = (R, O) := ⟨_, _, rfl⟩
  have hL0 : R.length ≤ 1048576 := by have := joinS_len (z0.take n0) (z1.take n1) x2; rw [hR] at this; first | omega | (simp at this; omega)
  have HR := hid hR
  clear hR
  have hr0 : ¬ (1 + (R.length : Int) < 0) := by omega
  clear wx2 w0 w1 hmx0 hmx1
  go_enter Try.func3, Try.ntmps3
  go_wp2_with fail
  have EX := hid (Ext.refl w)
  refine (toList_any _ _ _ z0 _ (IsRowF.ext Rw0.out (Ext.trans EX.out (by (repeat with_reducible (first | exact Ext.refl _ | exact ext_alloc _ _ | refine Ext.drewN ?_ _ | refine Ext.drew1 ?_ | refine Ext.set ?_ (by dsimp only; omega) _ | refine Ext.alloc ?_ _))))) hn0).mono ?_
  rintro e w1 ⟨Sc0b, rfl, Sc0F, E0⟩
  have EK : Ext w w1 := Ext.trans (by (repeat with_reducible (first | exact Ext.refl _ | exact ext_alloc _ _ | refine Ext.drewN ?_ _ | refine Ext.drew1 ?_ | refine Ext.set ?_ (by dsimp only; omega) _ | refine Ext.alloc ?_ _))) E0
  have Z1 := hid (show w.heap.size ≤ w1.heap.size from Ext.size EK)
  replace EX := hid (Ext.trans EX.out EK)
  clear EK E0
  have Sc0F_ := hid (Own.base Sc0F (B' := w.heap.size) (by first | exact Nat.le_refl _ | (simp; done) | (simp; omega)))
  have Sc0F_I := hid (Own.block Sc0F_.out)
  clear Sc0F
  go_wp2_with fail
  refine (toList_any _ _ _ z1 _ (IsRowF.ext Rw1.out (Ext.trans EX.out (by (repeat with_reducible (first | exact Ext.refl _ | exact ext_alloc _ _ | refine Ext.drewN ?_ _ | refine Ext.drew1 ?_ | refine Ext.set ?_ (by dsimp only; omega) _ | refine Ext.alloc ?_ _))))) hn1).mono ?_
  rintro e w2 ⟨Sc1b, rfl, Sc1F, E0⟩
  have EK : Ext w1 w2 := Ext.trans (by (repeat with_reducible (first | exact Ext.refl _ | exact ext_alloc _ _ | refine Ext.drewN ?_ _ | refine Ext.drew1 ?_ | refine Ext.set ?_ (by dsimp only; omega) _ | refine Ext.alloc ?_ _))) E0
  have Z2 := hid (show w1.heap.size ≤ w2.heap.size from Ext.size EK)
  replace Sc0F_ := hid (Own.ext Sc0F_.out EK)
  replace EX := hid (Ext.trans EX.out EK)
  clear EK E0
  have Sc1F_ := hid (Own.base Sc1F (B' := w1.heap.size) (by first | exact Nat.le_refl _ | (simp; done) | (simp; omega)))
  have Sc1F_I := hid (Own.block Sc1F_.out)
  clear Sc1F
  go_wp2_with fail
  refine (sJoinS_any _ _ _ _ n0 n1 _ _ x2 (z0.take n0) (z1.take n1) R O _ (Holds.ext (own_hold Sc0F_.out) (by (repeat with_reducible (first | exact Ext.refl _ | exact ext_alloc _ _ | refine Ext.drewN ?_ _ | refine Ext.drew1 ?_ | refine Ext.set ?_ (by dsimp only; omega) _ | refine Ext.alloc ?_ _)))) (Holds.ext (own_hold Sc1F_.out) (by (repeat with_reducible (first | exact Ext.refl _ | exact ext_alloc _ _ | refine Ext.drewN ?_ _ | refine Ext.drew1 ?_ | refine Ext.set ?_ (by dsimp only; omega) _ | refine Ext.alloc ?_ _)))) hn0 hn1 (Nat.le_refl _) (Nat.le_refl _) HR.out).mono ?_
  rintro e w3 ⟨Sv0, rfl, ST0, E0⟩
  have EK : Ext w2 w3 := Ext.trans (by (repeat with_reducible (first | exact Ext.refl _ | exact ext_alloc _ _ | refine Ext.drewN ?_ _ | refine Ext.drew1 ?_ | refine Ext.set ?_ (by dsimp only; omega) _ | refine Ext.alloc ?_ _))) E0
  have Z3 := hid (show w2.heap.size ≤ w3.heap.size from Ext.size EK)
  replace Sc0F_ := hid (Own.ext Sc0F_.out EK)
  replace Sc1F_ := hid (Own.ext Sc1F_.out EK)
  replace EX := hid (Ext.trans EX.out EK)
  clear EK E0
  obtain ⟨S0a, S0c, S0z, rfl, S0F, S0e⟩ := ST0
  have S0F_ := hid (Own.base S0F (B' := w2.heap.size) (by first | exact Nat.le_refl _ | (simp; done) | (simp; omega)))
  have S0F_I := hid (Own.block S0F_.out)
  clear S0F
  replace S0e := hid S0e
  clear Sc0F_ Sc0F_I
  clear Sc1F_ Sc1F_I
  go_wp2_with fail
  refine (toList_any _ _ _ z0 _ (IsRowF.ext Rw0.out (Ext.trans EX.out (by (repeat with_reducible (first | exact Ext.refl _ | exact ext_alloc _ _ | refine Ext.drewN ?_ _ | refine Ext.drew1 ?_ | refine Ext.set ?_ (by dsimp only; omega) _ | refine Ext.alloc ?_ _))))) hn0).mono ?_
  rintro e w4 ⟨X0b, rfl, X0F, E0⟩
  have EK : Ext w3 w4 := Ext.trans (by (repeat with_reducible (first | exact Ext.refl _ | exact ext_alloc _ _ | refine Ext.drewN ?_ _ | refine Ext.drew1 ?_ | refine Ext.set ?_ (by dsimp only; omega) _ | refine Ext.alloc ?_ _))) E0
  have Z4 := hid (show w3.heap.size ≤ w4.heap.size from Ext.size EK)
  replace S0F_ := hid (Own.ext S0F_.out EK)
  replace EX := hid (Ext.trans EX.out EK)
  clear EK E0
  have X0F_ := hid (Own.base X0F (B' := w3.heap.size) (by first | exact Nat.le_refl _ | (simp; done) | (simp; omega)))
  have X0F_I := hid (Own.block X0F_.out)
  clear X0F
  go_wp2_with fail
  refine (toList_any _ _ _ z1 _ (IsRowF.ext Rw1.out (Ext.trans EX.out (by (repeat with_reducible (first | exact Ext.refl _ | exact ext_alloc _ _ | refine Ext.drewN ?_ _ | refine Ext.drew1 ?_ | refine Ext.set ?_ (by dsimp only; omega) _ | refine Ext.alloc ?_ _))))) hn1).mono ?_
  rintro e w5 ⟨X1b, rfl, X1F, E0⟩
  have EK : Ext w4 w5 := Ext.trans (by (repeat with_reducible (first | exact Ext.refl _ | exact ext_alloc _ _ | refine Ext.drewN ?_ _ | refine Ext.drew1 ?_ | refine Ext.set ?_ (by dsimp only; omega) _ | refine Ext.alloc ?_ _))) E0
  have Z5 := hid (show w4.heap.size ≤ w5.heap.size from Ext.size EK)
  replace S0F_ := hid (Own.ext S0F_.out EK)
  replace X0F_ := hid (Own.ext X0F_.out EK)
  replace EX := hid (Ext.trans EX.out EK)
  clear EK E0
  have X1F_ := hid (Own.base X1F (B' := w4.heap.size) (by first | exact Nat.le_refl _ | (simp; done) | (simp; omega)))
  have X1F_I := hid (Own.block X1F_.out)
  clear X1F
  go_wp2_with fail
  refine (joinS_any _ _ _ _ n0 n1 _ _ x2 (z0.take n0) (z1.take n1) R O _ (Holds.ext (own_hold X0F_.out) (by (repeat with_reducible (first | exact Ext.refl _ | exact ext_alloc _ _ | refine Ext.drewN ?_ _ | refine Ext.drew1 ?_ | refine Ext.set ?_ (by dsimp only; omega) _ | refine Ext.alloc ?_ _)))) (Holds.ext (own_hold X1F_.out) (by (repeat with_reducible (first | exact Ext.refl _ | exact ext_alloc _ _ | refine Ext.drewN ?_ _ | refine Ext.drew1 ?_ | refine Ext.set ?_ (by dsimp only; omega) _ | refine Ext.alloc ?_ _)))) hn0 hn1 (Nat.le_refl _) (Nat.le_refl _) HR.out).mono ?_
  rintro e w6 ⟨Gv0, rfl, GT0, E0⟩
  have EK : Ext w5 w6 := Ext.trans (by (repeat with_reducible (first | exact Ext.refl _ | exact ext_alloc _ _ | refine Ext.drewN ?_ _ | refine Ext.drew1 ?_ | refine Ext.set ?_ (by dsimp only; omega) _ | refine Ext.alloc ?_ _))) E0
  have Z6 := hid (show w5.heap.size ≤ w6.heap.size from Ext.size EK)
  replace S0F_ := hid (Own.ext S0F_.out EK)
  replace X0F_ := hid (Own.ext X0F_.out EK)
  replace X1F_ := hid (Own.ext X1F_.out EK)
  replace EX := hid (Ext.trans EX.out EK)
  clear EK E0
  obtain ⟨G0a, G0c, G0z, rfl, G0F, G0e⟩ := GT0
  have G0F_ := hid (Own.base G0F (B' := w5.heap.size) (by first | exact Nat.le_refl _ | (simp; done) | (simp; omega)))
  have G0F_I := hid (Own.block G0F_.out)
  clear G0F
  replace G0e := hid G0e
  go_wp2_with fail
  refine (eqList_any _ _ _ _ _ G0z S0z _ (Holds.ext (own_hold G0F_.out) (by (repeat with_reducible (first | exact Ext.refl _ | exact ext_alloc _ _ | refine Ext.drewN ?_ _ | refine Ext.drew1 ?_ | refine Ext.set ?_ (by dsimp only; omega) _ | refine Ext.alloc ?_ _)))) (Holds.ext (own_hold S0F_.out) (by (repeat with_reducible (first | exact Ext.refl _ | exact ext_alloc _ _ | refine Ext.drewN ?_ _ | refine Ext.drew1 ?_ | refine Ext.set ?_ (by dsimp only; omega) _ | refine Ext.alloc ?_ _)))) hL0 (by rw [G0e.out, S0e.out])).mono ?_
  rintro e w7 ⟨rfl, E0⟩
  have EK : Ext w6 w7 := Ext.trans (by (repeat with_reducible (first | exact Ext.refl _ | exact ext_alloc _ _ | refine Ext.drewN ?_ _ | refine Ext.drew1 ?_ | refine Ext.set ?_ (by dsimp only; omega) _ | refine Ext.alloc ?_ _))) E0
  have Z7 := hid (show w6.heap.size ≤ w7.heap.size from Ext.size EK)
  replace S0F_ := hid (Own.ext S0F_.out EK)
  replace X0F_ := hid (Own.ext X0F_.out EK)
  replace X1F_ := hid (Own.ext X1F_.out EK)
  replace G0F_ := hid (Own.ext G0F_.out EK)
  replace EX := hid (Ext.trans EX.out EK)
  clear EK E0
  go_wp2_with fail
  refine (toList_any _ _ _ z0 _ (IsRowF.ext Rw0.out (Ext.trans EX.out (by (repeat with_reducible (first | exact Ext.refl _ | exact ext_alloc _ _ | refine Ext.drewN ?_ _ | refine Ext.drew1 ?_ | refine Ext.set ?_ (by dsimp only; omega) _ | refine Ext.alloc ?_ _))))) hn0).mono ?_
  rintro e w8 ⟨Vb, rfl, VF, E0⟩
  have EK : Ext w7 w8 := Ext.trans (by (repeat with_reducible (first | exact Ext.refl _ | exact ext_alloc _ _ | refine Ext.drewN ?_ _ | refine Ext.drew1 ?_ | refine Ext.set ?_ (by dsimp only; omega) _ | refine Ext.alloc ?_ _))) E0
  have Z8 := hid (show w7.heap.size ≤ w8.heap.size from Ext.size EK)
  replace S0F_ := hid (Own.ext S0F_.out EK)
  replace X0F_ := hid (Own.ext X0F_.out EK)
  replace X1F_ := hid (Own.ext X1F_.out EK)
  replace G0F_ := hid (Own.ext G0F_.out EK)
  replace EX := hid (Ext.trans EX.out EK)
  clear EK E0
  have VF_ := hid (Own.base VF (B' := w7.heap.size) (by first | exact Nat.le_refl _ | (simp; done) | (simp; omega)))
  have VF_I := hid (Own.block VF_.out)
  clear VF
  go_wp2_with fail
  refine (eqList_any _ _ _ _ _ _ _ _ (Holds.ext (own_hold X0F_.out) (by (repeat with_reducible (first | exact Ext.refl _ | exact ext_alloc _ _ | refine Ext.drewN ?_ _ | refine Ext.drew1 ?_ | refine Ext.set ?_ (by dsimp only; omega) _ | refine Ext.alloc ?_ _)))) (Holds.ext (own_hold VF_.out) (by (repeat with_reducible (first | exact Ext.refl _ | exact ext_alloc _ _ | refine Ext.drewN ?_ _ | refine Ext.drew1 ?_ | refine Ext.set ?_ (by dsimp only; omega) _ | refine Ext.alloc ?_ _)))) hn0 rfl).mono ?_
  rintro e w9 ⟨rfl, E0⟩
  have EK : Ext w8 w9 := Ext.trans (by (repeat with_reducible (first | exact Ext.refl _ | exact ext_alloc _ _ | refine Ext.drewN ?_ _ | refine Ext.drew1 ?_ | refine Ext.set ?_ (by dsimp only; omega) _ | refine Ext.alloc ?_ _))) E0
  have Z9 := hid (show w8.heap.size ≤ w9.heap.size from Ext.size EK)
  replace S0F_ := hid (Own.ext S0F_.out EK)
  replace X0F_ := hid (Own.ext X0F_.out EK)
  replace X1F_ := hid (Own.ext X1F_.out EK)
  replace G0F_ := hid (Own.ext G0F_.out EK)
  replace VF_ := hid (Own.ext VF_.out EK)
  replace EX := hid (Ext.trans EX.out EK)
  clear EK E0
  clear VF_ VF_I
  go_wp2_with fail
  refine (toList_any _ _ _ z1 _ (IsRowF.ext Rw1.out (Ext.trans EX.out (by (repeat with_reducible (first | exact Ext.refl _ | exact ext_alloc _ _ | refine Ext.drewN ?_ _ | refine Ext.drew1 ?_ | refine Ext.set ?_ (by dsimp only; omega) _ | refine Ext.alloc ?_ _))))) hn1).mono ?_
  rintro e w10 ⟨Vb, rfl, VF, E0⟩
  have EK : Ext w9 w10 := Ext.trans (by (repeat with_reducible (first | exact Ext.refl _ | exact ext_alloc _ _ | refine Ext.drewN ?_ _ | refine Ext.drew1 ?_ | refine Ext.set ?_ (by dsimp only; omega) _ | refine Ext.alloc ?_ _))) E0
  have Z10 := hid (show w9.heap.size ≤ w10.heap.size from Ext.size EK)
  replace S0F_ := hid (Own.ext S0F_.out EK)
  replace X0F_ := hid (Own.ext X0F_.out EK)
  replace X1F_ := hid (Own.ext X1F_.out EK)
  replace G0F_ := hid (Own.ext G0F_.out EK)
  replace EX := hid (Ext.trans EX.out EK)
  clear EK E0
  have VF_ := hid (Own.base VF (B' := w9.heap.size) (by first | exact Nat.le_refl _ | (simp; done) | (simp; omega)))
  have VF_I := hid (Own.block VF_.out)
  clear VF
  go_wp2_with fail
  refine (eqList_any _ _ _ _ _ _ _ _ (Holds.ext (own_hold X1F_.out) (by (repeat with_reducible (first | exact Ext.refl _ | exact ext_alloc _ _ | refine Ext.drewN ?_ _ | refine Ext.drew1 ?_ | refine Ext.set ?_ (by dsimp only; omega) _ | refine Ext.alloc ?_ _)))) (Holds.ext (own_hold VF_.out) (by (repeat with_reducible (first | exact Ext.refl _ | exact ext_alloc _ _ | refine Ext.drewN ?_ _ | refine Ext.drew1 ?_ | refine Ext.set ?_ (by dsimp only; omega) _ | refine Ext.alloc ?_ _)))) hn1 rfl).mono ?_
  rintro e w11 ⟨rfl, E0⟩
  have EK : Ext w10 w11 := Ext.trans (by (repeat with_reducible (first | exact Ext.refl _ | exact ext_alloc _ _ | refine Ext.drewN ?_ _ | refine Ext.drew1 ?_ | refine Ext.set ?_ (by dsimp only; omega) _ | refine Ext.alloc ?_ _))) E0
  have Z11 := hid (show w10.heap.size ≤ w11.heap.size from Ext.size EK)
  replace S0F_ := hid (Own.ext S0F_.out EK)
  replace X0F_ := hid (Own.ext X0F_.out EK)
  replace X1F_ := hid (Own.ext X1F_.out EK)
  replace G0F_ := hid (Own.ext G0F_.out EK)
  replace VF_ := hid (Own.ext VF_.out EK)
  replace EX := hid (Ext.trans EX.out EK)
  clear EK E0
  clear VF_ VF_I
  go_wp2_with fail
  refine (markF_any _ n0 _ (1) _ _ _ X0F_.out hn0 (by omega)).mono ?_
  rintro e w12 ⟨rfl, MO, MB⟩
  have Z12 := hid (show w11.heap.size ≤ w12.heap.size from by have h9 := MB.size; first | exact h9 | (simp at h9; omega))
  replace S0F_ := hid (But.own MB S0F_.out (fun k hk hk2 => by have h1 := X0F_I.out _ hk2; have h2 := S0F_I.out _ hk; have qZ1 := Z1.out; have qZ2 := Z2.out; have qZ3 := Z3.out; have qZ4 := Z4.out; have qZ5 := Z5.out; have qZ6 := Z6.out; have qZ7 := Z7.out; have qZ8 := Z8.out; have qZ9 := Z9.out; have qZ10 := Z10.out; have qZ11 := Z11.out; omega))
  replace X1F_ := hid (But.own MB X1F_.out (fun k hk hk2 => by have h1 := X0F_I.out _ hk2; have h2 := X1F_I.out _ hk; have qZ1 := Z1.out; have qZ2 := Z2.out; have qZ3 := Z3.out; have qZ4 := Z4.out; have qZ5 := Z5.out; have qZ6 := Z6.out; have qZ7 := Z7.out; have qZ8 := Z8.out; have qZ9 := Z9.out; have qZ10 := Z10.out; have qZ11 := Z11.out; omega))
  replace G0F_ := hid (But.own MB G0F_.out (fun k hk hk2 => by have h1 := X0F_I.out _ hk2; have h2 := G0F_I.out _ hk; have qZ1 := Z1.out; have qZ2 := Z2.out; have qZ3 := Z3.out; have qZ4 := Z4.out; have qZ5 := Z5.out; have qZ6 := Z6.out; have qZ7 := Z7.out; have qZ8 := Z8.out; have qZ9 := Z9.out; have qZ10 := Z10.out; have qZ11 := Z11.out; omega))
  replace EX := hid (But.below MB (Ext.trans EX.out (by (repeat with_reducible (first | exact Ext.refl _ | exact ext_alloc _ _ | refine Ext.drewN ?_ _ | refine Ext.drew1 ?_ | refine Ext.set ?_ (by dsimp only; omega) _ | refine Ext.alloc ?_ _)))) (fun k hk => by have h1 := X0F_I.out _ hk; have qZ1 := Z1.out; have qZ2 := Z2.out; have qZ3 := Z3.out; have qZ4 := Z4.out; have qZ5 := Z5.out; have qZ6 := Z6.out; have qZ7 := Z7.out; have qZ8 := Z8.out; have qZ9 := Z9.out; have qZ10 := Z10.out; have qZ11 := Z11.out; omega))
  replace X0F_ := hid MO
  clear MO MB
  clear X0F_ X0F_I
  go_wp2_with fail
  refine (markF_any _ n1 _ (1 + n0) _ _ _ X1F_.out hn1 (by omega)).mono ?_
  rintro e w13 ⟨rfl, MO, MB⟩
  have Z13 := hid (show w12.heap.size ≤ w13.heap.size from by have h9 := MB.size; first | exact h9 | (simp at h9; omega))
  replace S0F_ := hid (But.own MB S0F_.out (fun k hk hk2 => by have h1 := X1F_I.out _ hk2; have h2 := S0F_I.out _ hk; have qZ1 := Z1.out; have qZ2 := Z2.out; have qZ3 := Z3.out; have qZ4 := Z4.out; have qZ5 := Z5.out; have qZ6 := Z6.out; have qZ7 := Z7.out; have qZ8 := Z8.out; have qZ9 := Z9.out; have qZ10 := Z10.out; have qZ11 := Z11.out; have qZ12 := Z12.out; omega))
  replace G0F_ := hid (But.own MB G0F_.out (fun k hk hk2 => by have h1 := X1F_I.out _ hk2; have h2 := G0F_I.out _ hk; have qZ1 := Z1.out; have qZ2 := Z2.out; have qZ3 := Z3.out; have qZ4 := Z4.out; have qZ5 := Z5.out; have qZ6 := Z6.out; have qZ7 := Z7.out; have qZ8 := Z8.out; have qZ9 := Z9.out; have qZ10 := Z10.out; have qZ11 := Z11.out; have qZ12 := Z12.out; omega))
  replace EX := hid (But.below MB (Ext.trans EX.out (by (repeat with_reducible (first | exact Ext.refl _ | exact ext_alloc _ _ | refine Ext.drewN ?_ _ | refine Ext.drew1 ?_ | refine Ext.set ?_ (by dsimp only; omega) _ | refine Ext.alloc ?_ _)))) (fun k hk => by have h1 := X1F_I.out _ hk; have qZ1 := Z1.out; have qZ2 := Z2.out; have qZ3 := Z3.out; have qZ4 := Z4.out; have qZ5 := Z5.out; have qZ6 := Z6.out; have qZ7 := Z7.out; have qZ8 := Z8.out; have qZ9 := Z9.out; have qZ10 := Z10.out; have qZ11 := Z11.out; have qZ12 := Z12.out; omega))
  replace X1F_ := hid MO
  clear MO MB
  clear X1F_ X1F_I
  go_wp2_with fail
  refine (eqList_any _ _ _ _ _ G0z S0z _ (Holds.ext (own_hold G0F_.out) (by (repeat with_reducible (first | exact Ext.refl _ | exact ext_alloc _ _ | refine Ext.drewN ?_ _ | refine Ext.drew1 ?_ | refine Ext.set ?_ (by dsimp only; omega) _ | refine Ext.alloc ?_ _)))) (Holds.ext (own_hold S0F_.out) (by (repeat with_reducible (first | exact Ext.refl _ | exact ext_alloc _ _ | refine Ext.drewN ?_ _ | refine Ext.drew1 ?_ | refine Ext.set ?_ (by dsimp only; omega) _ | refine Ext.alloc ?_ _)))) hL0 (by rw [G0e.out, S0e.out])).mono ?_
  rintro e w14 ⟨rfl, E0⟩
  have EK : Ext w13 w14 := Ext.trans (by (repeat with_reducible (first | exact Ext.refl _ | exact ext_alloc _ _ | refine Ext.drewN ?_ _ | refine Ext.drew1 ?_ | refine Ext.set ?_ (by dsimp only; omega) _ | refine Ext.alloc ?_ _))) E0
  have Z14 := hid (show w13.heap.size ≤ w14.heap.size from Ext.size EK)
  replace S0F_ := hid (Own.ext S0F_.out EK)
  replace G0F_ := hid (Own.ext G0F_.out EK)
  replace EX := hid (Ext.trans EX.out EK)
  clear EK E0
  go_wp2_with fail
  refine (markF_any _ R.length _ (1) _ G0z _ G0F_.out hL0 (by omega)).mono ?_
  rintro e w15 ⟨rfl, MO, MB⟩
  have Z15 := hid (show w14.heap.size ≤ w15.heap.size from by have h9 := MB.size; first | exact h9 | (simp at h9; omega))
  replace S0F_ := hid (But.own MB S0F_.out (fun k hk hk2 => by have h1 := G0F_I.out _ hk2; have h2 := S0F_I.out _ hk; have qZ1 := Z1.out; have qZ2 := Z2.out; have qZ3 := Z3.out; have qZ4 := Z4.out; have qZ5 := Z5.out; have qZ6 := Z6.out; have qZ7 := Z7.out; have qZ8 := Z8.out; have qZ9 := Z9.out; have qZ10 := Z10.out; have qZ11 := Z11.out; have qZ12 := Z12.out; have qZ13 := Z13.out; have qZ14 := Z14.out; omega))
  replace EX := hid (But.below MB (Ext.trans EX.out (by (repeat with_reducible (first | exact Ext.refl _ | exact ext_alloc _ _ | refine Ext.drewN ?_ _ | refine Ext.drew1 ?_ | refine Ext.set ?_ (by dsimp only; omega) _ | refine Ext.alloc ?_ _)))) (fun k hk => by have h1 := G0F_I.out _ hk; have qZ1 := Z1.out; have qZ2 := Z2.out; have qZ3 := Z3.out; have qZ4 := Z4.out; have qZ5 := Z5.out; have qZ6 := Z6.out; have qZ7 := Z7.out; have qZ8 := Z8.out; have qZ9 := Z9.out; have qZ10 := Z10.out; have qZ11 := Z11.out; have qZ12 := Z12.out; have qZ13 := Z13.out; have qZ14 := Z14.out; omega))
  replace G0F_ := hid MO
  clear MO MB
  go_wp2_with fail
  refine (heldL_any _ _ _ (1) _ _ (Own.ext G0F_.out (by (repeat with_reducible (first | exact Ext.refl _ | exact ext_alloc _ _ | refine Ext.drewN ?_ _ | refine Ext.drew1 ?_ | refine Ext.set ?_ (by dsimp only; omega) _ | refine Ext.alloc ?_ _)))) hL0 (by omega)).mono ?_
  rintro e w16 ⟨rfl, E0⟩
  have EK : Ext w15 w16 := Ext.trans (by (repeat with_reducible (first | exact Ext.refl _ | exact ext_alloc _ _ | refine Ext.drewN ?_ _ | refine Ext.drew1 ?_ | refine Ext.set ?_ (by dsimp only; omega) _ | refine Ext.alloc ?_ _))) E0
  have Z16 := hid (show w15.heap.size ≤ w16.heap.size from Ext.size EK)
  replace S0F_ := hid (Own.ext S0F_.out EK)
  replace G0F_ := hid (Own.ext G0F_.out EK)
  replace EX := hid (Ext.trans EX.out EK)
  clear EK E0
  go_wp2_with fail
  refine (toList_any _ _ _ z0 _ (IsRowF.ext Rw0.out (Ext.trans EX.out (by (repeat with_reducible (first | exact Ext.refl _ | exact ext_alloc _ _ | refine Ext.drewN ?_ _ | refine Ext.drew1 ?_ | refine Ext.set ?_ (by dsimp only; omega) _ | refine Ext.alloc ?_ _))))) hn0).mono ?_
  rintro e w17 ⟨Hc0b, rfl, Hc0F, E0⟩
  have EK : Ext w16 w17 := Ext.trans (by (repeat with_reducible (first | exact Ext.refl _ | exact ext_alloc _ _ | refine Ext.drewN ?_ _ | refine Ext.drew1 ?_ | refine Ext.set ?_ (by dsimp only; omega) _ | refine Ext.alloc ?_ _))) E0
  have Z17 := hid (show w16.heap.size ≤ w17.heap.size from Ext.size EK)
  replace S0F_ := hid (Own.ext S0F_.out EK)
  replace G0F_ := hid (Own.ext G0F_.out EK)
  replace EX := hid (Ext.trans EX.out EK)
  clear EK E0
  have Hc0F_ := hid (Own.base Hc0F (B' := w16.heap.size) (by first | exact Nat.le_refl _ | (simp; done) | (simp; omega)))
  have Hc0F_I := hid (Own.block Hc0F_.out)
  clear Hc0F
  go_wp2_with fail
  refine (toList_any _ _ _ z1 _ (IsRowF.ext Rw1.out (Ext.trans EX.out (by (repeat with_reducible (first | exact Ext.refl _ | exact ext_alloc _ _ | refine Ext.drewN ?_ _ | refine Ext.drew1 ?_ | refine Ext.set ?_ (by dsimp only; omega) _ | refine Ext.alloc ?_ _))))) hn1).mono ?_
  rintro e w18 ⟨Hc1b, rfl, Hc1F, E0⟩
  have EK : Ext w17 w18 := Ext.trans (by (repeat with_reducible (first | exact Ext.refl _ | exact ext_alloc _ _ | refine Ext.drewN ?_ _ | refine Ext.drew1 ?_ | refine Ext.set ?_ (by dsimp only; omega) _ | refine Ext.alloc ?_ _))) E0
  have Z18 := hid (show w17.heap.size ≤ w18.heap.size from Ext.size EK)
  replace S0F_ := hid (Own.ext S0F_.out EK)
  replace G0F_ := hid (Own.ext G0F_.out EK)
  replace Hc0F_ := hid (Own.ext Hc0F_.out EK)
  replace EX := hid (Ext.trans EX.out EK)
  clear EK E0
  have Hc1F_ := hid (Own.base Hc1F (B' := w17.heap.size) (by first | exact Nat.le_refl _ | (simp; done) | (simp; omega)))
  have Hc1F_I := hid (Own.block Hc1F_.out)
  clear Hc1F
  go_wp2_with fail
  refine (joinS_any _ _ _ _ n0 n1 _ _ x2 (z0.take n0) (z1.take n1) R O _ (Holds.ext (own_hold Hc0F_.out) (by (repeat with_reducible (first | exact Ext.refl _ | exact ext_alloc _ _ | refine Ext.drewN ?_ _ | refine Ext.drew1 ?_ | refine Ext.set ?_ (by dsimp only; omega) _ | refine Ext.alloc ?_ _)))) (Holds.ext (own_hold Hc1F_.out) (by (repeat with_reducible (first | exact Ext.refl _ | exact ext_alloc _ _ | refine Ext.drewN ?_ _ | refine Ext.drew1 ?_ | refine Ext.set ?_ (by dsimp only; omega) _ | refine Ext.alloc ?_ _)))) hn0 hn1 (Nat.le_refl _) (Nat.le_refl _) HR.out).mono ?_
  rintro e w19 ⟨Hv0, rfl, HT0, E0⟩
  have EK : Ext w18 w19 := Ext.trans (by (repeat with_reducible (first | exact Ext.refl _ | exact ext_alloc _ _ | refine Ext.drewN ?_ _ | refine Ext.drew1 ?_ | refine Ext.set ?_ (by dsimp only; omega) _ | refine Ext.alloc ?_ _))) E0
  have Z19 := hid (show w18.heap.size ≤ w19.heap.size from Ext.size EK)
  replace S0F_ := hid (Own.ext S0F_.out EK)
  replace G0F_ := hid (Own.ext G0F_.out EK)
  replace Hc0F_ := hid (Own.ext Hc0F_.out EK)
  replace Hc1F_ := hid (Own.ext Hc1F_.out EK)
  replace EX := hid (Ext.trans EX.out EK)
  clear EK E0
  obtain ⟨H0a, H0c, H0z, rfl, H0F, H0e⟩ := HT0
  have H0F_ := hid (Own.base H0F (B' := w18.heap.size) (by first | exact Nat.le_refl _ | (simp; done) | (simp; omega)))
  have H0F_I := hid (Own.block H0F_.out)
  clear H0F
  replace H0e := hid H0e
  clear Hc0F_ Hc0F_I
  clear Hc1F_ Hc1F_I
  go_wp2_with fail
  refine (eqList_any _ _ _ _ _ H0z S0z _ (Holds.ext (own_hold H0F_.out) (by (repeat with_reducible (first | exact Ext.refl _ | exact ext_alloc _ _ | refine Ext.drewN ?_ _ | refine Ext.drew1 ?_ | refine Ext.set ?_ (by dsimp only; omega) _ | refine Ext.alloc ?_ _)))) (Holds.ext (own_hold S0F_.out) (by (repeat with_reducible (first | exact Ext.refl _ | exact ext_alloc _ _ | refine Ext.drewN ?_ _ | refine Ext.drew1 ?_ | refine Ext.set ?_ (by dsimp only; omega) _ | refine Ext.alloc ?_ _)))) hL0 (by rw [H0e.out, S0e.out])).mono ?_
  rintro e w20 ⟨rfl, E0⟩
  have EK : Ext w19 w20 := Ext.trans (by (repeat with_reducible (first | exact Ext.refl _ | exact ext_alloc _ _ | refine Ext.drewN ?_ _ | refine Ext.drew1 ?_ | refine Ext.set ?_ (by dsimp only; omega) _ | refine Ext.alloc ?_ _))) E0
  have Z20 := hid (show w19.heap.size ≤ w20.heap.size from Ext.size EK)
  replace S0F_ := hid (Own.ext S0F_.out EK)
  replace G0F_ := hid (Own.ext G0F_.out EK)
  replace H0F_ := hid (Own.ext H0F_.out EK)
  replace EX := hid (Ext.trans EX.out EK)
  clear EK E0
  go_wp2_with fail
  refine (heldL_any _ _ _ (1) _ _ (Own.ext G0F_.out (by (repeat with_reducible (first | exact Ext.refl _ | exact ext_alloc _ _ | refine Ext.drewN ?_ _ | refine Ext.drew1 ?_ | refine Ext.set ?_ (by dsimp only; omega) _ | refine Ext.alloc ?_ _)))) hL0 (by omega)).mono ?_
  rintro e w21 ⟨rfl, E0⟩
  have EK : Ext w20 w21 := Ext.trans (by (repeat with_reducible (first | exact Ext.refl _ | exact ext_alloc _ _ | refine Ext.drewN ?_ _ | refine Ext.drew1 ?_ | refine Ext.set ?_ (by dsimp only; omega) _ | refine Ext.alloc ?_ _))) E0
  have Z21 := hid (show w20.heap.size ≤ w21.heap.size from Ext.size EK)
  replace S0F_ := hid (Own.ext S0F_.out EK)
  replace G0F_ := hid (Own.ext G0F_.out EK)
  replace H0F_ := hid (Own.ext H0F_.out EK)
  replace EX := hid (Ext.trans EX.out EK)
  clear EK E0
  go_wp2_with fail
  go_ret
  refine ⟨rfl, ?_⟩
  exact (show Ext w _ from Ext.trans EX.out (by (repeat with_reducible (first | exact Ext.refl _ | exact ext_alloc _ _ | refine Ext.drewN ?_ _ | refine Ext.drew1 ?_ | refine Ext.set ?_ (by dsimp only; omega) _ | refine Ext.alloc ?_ _))))
end Go.Proofs.Ythadoamehdnnoaa
