/- The law on whether a sound has a period. -/
import Derived.Test.YtpmjiabllmomjaaMPer
import Derived.Test.YtpmjiabllmomjaaV4
import Derived.Deep.RegionHeld3
namespace Go.Proofs.Ytpmjiabllmomjaa
open Go.RowKit Flt
set_option linter.unusedVariables false

set_option maxHeartbeats 8000000 in
set_option maxRecDepth 100000 in
theorem FnExactIsVoiced_walk (a0 : Option Addr) (n0 c0 : Nat) (z0 : List Nat) (x1 : Int) (x2 : Int) (x3 : Nat) (w : World) (w0 : IsRowF .f32 w a0 n0 c0 z0) (wx1 : (Lit.int .i64 x1).wf = true) (wx2 : (Lit.int .i64 x2).wf = true) (wx3 : (Lit.float .f32 x3).wf = true) :
    Calls Try.prog 13 #[.slice a0 n0 c0, .int .i64 x1, .int .i64 x2, .float .f32 x3] w fun e w' => e = .returned (.bool true) ∧ Below w.heap.size w w' := by
  have hmx0 : n0 ≤ maxLen := row_max w0
  by_cases hg0 : (1048576 : Int) < (n0 : Int)
  · clear wx1 wx2 wx3 w0
    have hi0 : (n0 : Int) ≤ 9223372036854775807 := by simp [maxLen] at hmx0; omega
    go_enter Try.func13, Try.ntmps13
    go_wp2
    go_ret
    refine ⟨rfl, ?_⟩
    exact (show Ext w _ from (by (repeat with_reducible (first | exact Ext.refl _ | exact ext_alloc _ _ | refine Ext.drewN ?_ _ | refine Ext.drew1 ?_ | refine Ext.set ?_ (by dsimp only; omega) _ | refine Ext.alloc ?_ _))))
  have hn0 : n0 ≤ 1048576 := by omega
  have Rw0 := hid w0
  obtain ⟨V, hR⟩ : ∃ V, voicedB (z0.take n0) x1 x2 (cls .f32 x3) = V := ⟨_, rfl⟩
  have HR := hid hR
  clear hR
  clear wx1 wx2 wx3 w0 hmx0
  go_enter Try.func13, Try.ntmps13
  go_wp2_with fail
  have EX := hid (Ext.refl w)
  refine (toList_any _ _ _ z0 _ (IsRowF.ext Rw0.out (Ext.trans EX.out (by (repeat with_reducible (first | exact Ext.refl _ | exact ext_alloc _ _ | refine Ext.drewN ?_ _ | refine Ext.drew1 ?_ | refine Ext.set ?_ (by dsimp only; omega) _ | refine Ext.alloc ?_ _))))) hn0).mono ?_
  rintro e w1 ⟨Sc0b, rfl, Sc0F, E0⟩
  have EK : Ext w w1 := Ext.trans (by (repeat with_reducible (first | exact Ext.refl _ | exact ext_alloc _ _ | refine Ext.drewN ?_ _ | refine Ext.drew1 ?_ | refine Ext.set ?_ (by dsimp only; omega) _ | refine Ext.alloc ?_ _))) E0
  have Z1 := hid (show w.heap.size ≤ w1.heap.size from Ext.size EK)
  replace EX := hid (Ext.trans EX.out EK)
  clear EK E0
  have Sc0F_ := hid (Own.base Sc0F (B' := w.heap.size) (by first | exact Nat.le_refl _ | (simp; done) | (simp; omega)))
  have Sc0F_I := hid (Own.block Sc0F_.out)
  clear Sc0F
  go_wp2_with fail
  refine (sVoiced_any _ n0 _ x3 x1 x2 (z0.take n0) V _ (Holds.ext (own_hold Sc0F_.out) (by (repeat with_reducible (first | exact Ext.refl _ | exact ext_alloc _ _ | refine Ext.drewN ?_ _ | refine Ext.drew1 ?_ | refine Ext.set ?_ (by dsimp only; omega) _ | refine Ext.alloc ?_ _)))) hn0 HR.out).mono ?_
  rintro e w2 ⟨rfl, E0⟩
  have EK : Ext w1 w2 := Ext.trans (by (repeat with_reducible (first | exact Ext.refl _ | exact ext_alloc _ _ | refine Ext.drewN ?_ _ | refine Ext.drew1 ?_ | refine Ext.set ?_ (by dsimp only; omega) _ | refine Ext.alloc ?_ _))) E0
  have Z2 := hid (show w1.heap.size ≤ w2.heap.size from Ext.size EK)
  replace Sc0F_ := hid (Own.ext Sc0F_.out EK)
  replace EX := hid (Ext.trans EX.out EK)
  clear EK E0
  clear Sc0F_ Sc0F_I
  go_wp2_with fail
  refine (toList_any _ _ _ z0 _ (IsRowF.ext Rw0.out (Ext.trans EX.out (by (repeat with_reducible (first | exact Ext.refl _ | exact ext_alloc _ _ | refine Ext.drewN ?_ _ | refine Ext.drew1 ?_ | refine Ext.set ?_ (by dsimp only; omega) _ | refine Ext.alloc ?_ _))))) hn0).mono ?_
  rintro e w3 ⟨X0b, rfl, X0F, E0⟩
  have EK : Ext w2 w3 := Ext.trans (by (repeat with_reducible (first | exact Ext.refl _ | exact ext_alloc _ _ | refine Ext.drewN ?_ _ | refine Ext.drew1 ?_ | refine Ext.set ?_ (by dsimp only; omega) _ | refine Ext.alloc ?_ _))) E0
  have Z3 := hid (show w2.heap.size ≤ w3.heap.size from Ext.size EK)
  replace EX := hid (Ext.trans EX.out EK)
  clear EK E0
  have X0F_ := hid (Own.base X0F (B' := w2.heap.size) (by first | exact Nat.le_refl _ | (simp; done) | (simp; omega)))
  have X0F_I := hid (Own.block X0F_.out)
  clear X0F
  go_wp2_with fail
  refine (voiced_any _ n0 _ x3 x1 x2 (z0.take n0) V _ (Holds.ext (own_hold X0F_.out) (by (repeat with_reducible (first | exact Ext.refl _ | exact ext_alloc _ _ | refine Ext.drewN ?_ _ | refine Ext.drew1 ?_ | refine Ext.set ?_ (by dsimp only; omega) _ | refine Ext.alloc ?_ _)))) hn0 (Nat.le_refl _) HR.out).mono ?_
  rintro e w4 ⟨rfl, E0⟩
  have EK : Ext w3 w4 := Ext.trans (by (repeat with_reducible (first | exact Ext.refl _ | exact ext_alloc _ _ | refine Ext.drewN ?_ _ | refine Ext.drew1 ?_ | refine Ext.set ?_ (by dsimp only; omega) _ | refine Ext.alloc ?_ _))) E0
  have Z4 := hid (show w3.heap.size ≤ w4.heap.size from Ext.size EK)
  replace X0F_ := hid (Own.ext X0F_.out EK)
  replace EX := hid (Ext.trans EX.out EK)
  clear EK E0
  go_wp2_with fail
  refine (toList_any _ _ _ z0 _ (IsRowF.ext Rw0.out (Ext.trans EX.out (by (repeat with_reducible (first | exact Ext.refl _ | exact ext_alloc _ _ | refine Ext.drewN ?_ _ | refine Ext.drew1 ?_ | refine Ext.set ?_ (by dsimp only; omega) _ | refine Ext.alloc ?_ _))))) hn0).mono ?_
  rintro e w5 ⟨Vb, rfl, VF, E0⟩
  have EK : Ext w4 w5 := Ext.trans (by (repeat with_reducible (first | exact Ext.refl _ | exact ext_alloc _ _ | refine Ext.drewN ?_ _ | refine Ext.drew1 ?_ | refine Ext.set ?_ (by dsimp only; omega) _ | refine Ext.alloc ?_ _))) E0
  have Z5 := hid (show w4.heap.size ≤ w5.heap.size from Ext.size EK)
  replace X0F_ := hid (Own.ext X0F_.out EK)
  replace EX := hid (Ext.trans EX.out EK)
  clear EK E0
  have VF_ := hid (Own.base VF (B' := w4.heap.size) (by first | exact Nat.le_refl _ | (simp; done) | (simp; omega)))
  have VF_I := hid (Own.block VF_.out)
  clear VF
  go_wp2_with fail
  refine (eqList_any _ _ _ _ _ _ _ _ (Holds.ext (own_hold X0F_.out) (by (repeat with_reducible (first | exact Ext.refl _ | exact ext_alloc _ _ | refine Ext.drewN ?_ _ | refine Ext.drew1 ?_ | refine Ext.set ?_ (by dsimp only; omega) _ | refine Ext.alloc ?_ _)))) (Holds.ext (own_hold VF_.out) (by (repeat with_reducible (first | exact Ext.refl _ | exact ext_alloc _ _ | refine Ext.drewN ?_ _ | refine Ext.drew1 ?_ | refine Ext.set ?_ (by dsimp only; omega) _ | refine Ext.alloc ?_ _)))) hn0 rfl).mono ?_
  rintro e w6 ⟨rfl, E0⟩
  have EK : Ext w5 w6 := Ext.trans (by (repeat with_reducible (first | exact Ext.refl _ | exact ext_alloc _ _ | refine Ext.drewN ?_ _ | refine Ext.drew1 ?_ | refine Ext.set ?_ (by dsimp only; omega) _ | refine Ext.alloc ?_ _))) E0
  have Z6 := hid (show w5.heap.size ≤ w6.heap.size from Ext.size EK)
  replace X0F_ := hid (Own.ext X0F_.out EK)
  replace VF_ := hid (Own.ext VF_.out EK)
  replace EX := hid (Ext.trans EX.out EK)
  clear EK E0
  clear VF_ VF_I
  go_wp2_with fail
  go_ret
  refine ⟨rfl, ?_⟩
  exact (show Ext w _ from Ext.trans EX.out (by (repeat with_reducible (first | exact Ext.refl _ | exact ext_alloc _ _ | refine Ext.drewN ?_ _ | refine Ext.drew1 ?_ | refine Ext.set ?_ (by dsimp only; omega) _ | refine Ext.alloc ?_ _))))
end Go.Proofs.Ytpmjiabllmomjaa
