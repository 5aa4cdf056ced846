/- The law on valid frames. -/
import Derived.Test.YthinjgiakaflpaaT18
import Derived.Test.YthinjgiakaflpaaF4
import Derived.Deep.RegionHeld3
import Derived.Deep.DeepCutAuto
namespace Go.Proofs.Ythinjgiakaflpaa
open Go.RowKit Flt
set_option linter.unusedVariables false

set_option maxHeartbeats 8000000 in
set_option maxRecDepth 100000 in
theorem FnExactValidFrame_walk (a0 : Option Addr) (n0 c0 : Nat) (z0 : List Nat) (l0 t0 p0 : Nat) (w : World) (w0 : IsRowF .f32 w a0 n0 c0 z0) (wl0 : (Lit.float .f32 l0).wf = true) (wt0 : (Lit.float .f32 t0).wf = true) (wp0 : (Lit.float .f32 p0).wf = true) :
    Calls Try.prog 6 #[.agg #[.slice a0 n0 c0, .float .f32 l0, .float .f32 t0, .float .f32 p0]] w fun e w' => e = .returned (.bool true) ∧ Below w.heap.size w w' := by
  have hmxn0 : n0 ≤ maxLen := row_max w0
  by_cases hb0 : (1048576 : Int) < n0
  · clear wl0 wt0 wp0
    go_enter Try.func6, Try.ntmps6
    go_wp2_with fail
    refine (szFrame_no _ _ _ _ _ _ _ hmxn0 (by omega) (by omega) _).mono ?_
    rintro e w1 ⟨rfl, E0⟩
    have EX := hid (Ext.trans (ext_alloc _ _) E0)
    have A0 := hid (Box.ext (box_new (w := w) #[.slice a0 n0 c0, .float .f32 l0, .float .f32 t0, .float .f32 p0] 44) E0)
    have Z1 := hid (show w.heap.size + 1 ≤ w1.heap.size from by have := Ext.size E0; simpa using this)
    clear E0
    go_wp2
    go_ret
    exact ⟨rfl, EX.out⟩
  have hg0 : ¬ ((1048576 : Int) - (n0 : Int) < 0) := by omega
  have hn0 : n0 ≤ 1048576 := by omega
  have Rw0 := hid w0
  obtain ⟨V, hV⟩ : ∃ V, frameC ((z0.take n0).map (cls .f32)) (cls .f32 l0) (cls .f32 t0) (cls .f32 p0) = V := ⟨_, rfl⟩
  have HV := hid hV
  clear hV
  clear w0 hmxn0 hb0 wl0 wt0 wp0
  go_enter Try.func6, Try.ntmps6
  go_wp2_with fail
  refine (szFrame_yes _ _ _ _ _ _ _ (by omega) (by omega) _).mono ?_
  rintro e w1 ⟨rfl, E0⟩
  have EX := hid (Ext.trans (ext_alloc _ _) E0)
  have A0 := hid (Box.ext (box_new (w := w) #[.slice a0 n0 c0, .float .f32 l0, .float .f32 t0, .float .f32 p0] 44) E0)
  have Z1 := hid (show w.heap.size + 1 ≤ w1.heap.size from by have := Ext.size E0; simpa using this)
  clear E0
  obtain ⟨A00, A01, A02, A03, A0l⟩ := Box.cells4 A0.out
  go_wp2_with fail
  refine (toFrame_any _ _ _ _ _ _ z0 _ (IsRowF.ext Rw0.out EX.out) hn0).mono ?_
  rintro e w2 ⟨Yb, rfl, YF, E0⟩
  clear A00 A01 A02 A03 A0l
  have EK := E0
  have Z2 := hid (show w1.heap.size ≤ w2.heap.size from Ext.size E0)
  replace A0 := hid (Box.ext A0.out EK)
  replace EX := hid (Ext.trans EX.out EK)
  clear EK E0
  have YF_ := hid (Own.base YF (B' := w1.heap.size) (by simp))
  have YF_I := hid (Own.block YF_.out)
  clear YF
  obtain ⟨A00, A01, A02, A03, A0l⟩ := Box.cells4 A0.out
  go_wp2_with fail
  refine (sValidFrame_is _ n0 _ l0 t0 p0 (z0.take n0) V _ (own_hold YF_.out) hn0 HV.out).mono ?_
  rintro e w3 ⟨rfl, E0⟩
  clear A00 A01 A02 A03 A0l
  have EK := E0
  have Z3 := hid (show w2.heap.size ≤ w3.heap.size from Ext.size E0)
  replace A0 := hid (Box.ext A0.out EK)
  replace YF_ := hid (Own.ext YF_.out EK)
  replace EX := hid (Ext.trans EX.out EK)
  clear EK E0
  clear YF_ YF_I
  obtain ⟨A00, A01, A02, A03, A0l⟩ := Box.cells4 A0.out
  go_wp2_with fail
  refine (toFrame_any _ _ _ _ _ _ z0 _ (IsRowF.ext Rw0.out EX.out) hn0).mono ?_
  rintro e w4 ⟨X0b, rfl, X0F, E0⟩
  clear A00 A01 A02 A03 A0l
  have EK := E0
  have Z4 := hid (show w3.heap.size ≤ w4.heap.size from Ext.size E0)
  replace A0 := hid (Box.ext A0.out EK)
  replace EX := hid (Ext.trans EX.out EK)
  clear EK E0
  have X0F_ := hid (Own.base X0F (B' := w3.heap.size) (by simp))
  have X0F_I := hid (Own.block X0F_.out)
  clear X0F
  obtain ⟨A00, A01, A02, A03, A0l⟩ := Box.cells4 A0.out
  go_wp2_with fail
  refine (validFrame_is _ n0 _ l0 t0 p0 (z0.take n0) V _ (Holds.alloc (own_hold X0F_.out) _) hn0 HV.out).mono ?_
  rintro e w5 ⟨rfl, E0⟩
  clear A00 A01 A02 A03 A0l
  have X0B := hid (Box.ext (box_new (w := w4) #[.slice (some ⟨X0b, 0, none⟩) n0 n0, .float .f32 l0, .float .f32 t0, .float .f32 p0] 47) E0)
  have EK := Ext.trans (ext_alloc _ _) E0
  have Z5 := hid (show w4.heap.size + 1 ≤ w5.heap.size from by have := Ext.size E0; simpa using this)
  replace A0 := hid (Box.ext A0.out EK)
  replace X0F_ := hid (Own.ext X0F_.out EK)
  replace EX := hid (Ext.trans EX.out EK)
  clear EK E0
  obtain ⟨A00, A01, A02, A03, A0l⟩ := Box.cells4 A0.out
  obtain ⟨X0B0, X0B1, X0B2, X0B3, X0Bl⟩ := Box.cells4 X0B.out
  go_wp2_with fail
  clear A00 A01 A02 A03 A0l X0B0 X0B1 X0B2 X0B3 X0Bl
  obtain ⟨A00, A01, A02, A03, A0l⟩ := Box.cells4 A0.out
  obtain ⟨X0B0, X0B1, X0B2, X0B3, X0Bl⟩ := Box.cells4 X0B.out
  go_region_held3 (fun w' => (w'.cell? ⟨w.heap.size, 0, none⟩ = some (.slice a0 n0 c0) ∧ w'.cell? ⟨w.heap.size, 1, none⟩ = some (.float .f32 l0) ∧ w'.cell? ⟨w.heap.size, 2, none⟩ = some (.float .f32 t0) ∧ w'.cell? ⟨w.heap.size, 3, none⟩ = some (.float .f32 p0)) ∧ (w'.cell? ⟨w4.heap.size, 0, none⟩ = some (.slice (some ⟨X0b, 0, none⟩) n0 n0) ∧ w'.cell? ⟨w4.heap.size, 1, none⟩ = some (.float .f32 l0) ∧ w'.cell? ⟨w4.heap.size, 2, none⟩ = some (.float .f32 t0) ∧ w'.cell? ⟨w4.heap.size, 3, none⟩ = some (.float .f32 p0)))
    (first | (refine keep_of (c := w5) (S := fun w' => (w'.cell? ⟨w.heap.size, 0, none⟩ = some (.slice a0 n0 c0) ∧ w'.cell? ⟨w.heap.size, 1, none⟩ = some (.float .f32 l0) ∧ w'.cell? ⟨w.heap.size, 2, none⟩ = some (.float .f32 t0) ∧ w'.cell? ⟨w.heap.size, 3, none⟩ = some (.float .f32 p0)) ∧ (w'.cell? ⟨w4.heap.size, 0, none⟩ = some (.slice (some ⟨X0b, 0, none⟩) n0 n0) ∧ w'.cell? ⟨w4.heap.size, 1, none⟩ = some (.float .f32 l0) ∧ w'.cell? ⟨w4.heap.size, 2, none⟩ = some (.float .f32 t0) ∧ w'.cell? ⟨w4.heap.size, 3, none⟩ = some (.float .f32 p0))) (fun u hu => ⟨⟨Box.cell (Box.ext A0.out hu) 0, Box.cell (Box.ext A0.out hu) 1, Box.cell (Box.ext A0.out hu) 2, Box.cell (Box.ext A0.out hu) 3⟩, ⟨Box.cell (Box.ext X0B.out hu) 0, Box.cell (Box.ext X0B.out hu) 1, Box.cell (Box.ext X0B.out hu) 2, Box.cell (Box.ext X0B.out hu) 3⟩⟩) ?_; (repeat with_reducible (first | exact Ext.refl _ | exact ext_alloc _ _ | refine Ext.trans ?_ EC | refine Ext.trans ?_ ED0 | refine Ext.drewN ?_ _ | refine Ext.drew1 ?_ | refine Ext.alloc ?_ _))))
    (first | (go_at_call 28; with_reducible refine (toFrame_any _ _ _ _ _ _ z0 _ (IsRowF.ext Rw0.out (Ext.trans EX.out (by (repeat with_reducible (first | exact Ext.refl _ | exact ext_alloc _ _ | refine Ext.trans ?_ EC | refine Ext.trans ?_ ED0 | refine Ext.drewN ?_ _ | refine Ext.drew1 ?_ | refine Ext.alloc ?_ _))))) hn0).mono ?_; rintro e wD0 ⟨YYb, rfl, YYF, ED0⟩) | (go_at_call 30; refine (eqFrame_yes _ _ _ _ _ _ _ _ _ _ _ _ _ _ (own_hold (Own.ext X0F_.out (by (repeat with_reducible (first | exact Ext.refl _ | exact ext_alloc _ _ | refine Ext.trans ?_ EC | refine Ext.trans ?_ ED0 | refine Ext.drewN ?_ _ | refine Ext.drew1 ?_ | refine Ext.alloc ?_ _))))) (own_hold YYF) hn0 rfl rfl rfl rfl).mono ?_; rintro e wC ⟨rfl, EC⟩))
  clear A00 A01 A02 A03 A0l X0B0 X0B1 X0B2 X0B3 X0Bl
  have EK : Ext w5 wC := by (repeat with_reducible (first | exact Ext.refl _ | exact ext_alloc _ _ | refine Ext.trans ?_ EC | refine Ext.trans ?_ ED0 | refine Ext.drewN ?_ _ | refine Ext.drew1 ?_ | refine Ext.alloc ?_ _))
  obtain ⟨w6, hwS⟩ : ∃ u, u = wC := ⟨_, rfl⟩
  subst hwS
  have Z6 := hid (show w5.heap.size ≤ w6.heap.size from Ext.size EK)
  clear ED0 EC YYF
  clear X0B
  clear X0F_ X0F_I
  clear A0
  replace EX := hid (Ext.trans EX.out EK)
  clear EK
  go_wp2
  go_ret
  exact ⟨rfl, EX.out⟩
end Go.Proofs.Ythinjgiakaflpaa
