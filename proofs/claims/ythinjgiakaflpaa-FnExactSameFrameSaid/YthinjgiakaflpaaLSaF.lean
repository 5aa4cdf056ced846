/- The law on frames that are the same. -/
import Derived.Test.YthinjgiakaflpaaT18
import Derived.Test.YthinjgiakaflpaaF4
import Derived.Deep.RegionHeld3
import Derived.Deep.DeepCutAuto
namespace Go.Proofs.Ythinjgiakaflpaa
open Go.RowKit Flt
set_option linter.unusedVariables false

set_option maxHeartbeats 8000000 in
set_option maxRecDepth 100000 in
theorem FnExactSameFrame_walk (a0 : Option Addr) (n0 c0 : Nat) (z0 : List Nat) (l0 t0 p0 : Nat) (a1 : Option Addr) (n1 c1 : Nat) (z1 : List Nat) (l1 t1 p1 : Nat) (w : World) (w0 : IsRowF .f32 w a0 n0 c0 z0) (wl0 : (Lit.float .f32 l0).wf = true) (wt0 : (Lit.float .f32 t0).wf = true) (wp0 : (Lit.float .f32 p0).wf = true) (w1 : IsRowF .f32 w a1 n1 c1 z1) (wl1 : (Lit.float .f32 l1).wf = true) (wt1 : (Lit.float .f32 t1).wf = true) (wp1 : (Lit.float .f32 p1).wf = true) :
    Calls Try.prog 7 #[.agg #[.slice a0 n0 c0, .float .f32 l0, .float .f32 t0, .float .f32 p0], .agg #[.slice a1 n1 c1, .float .f32 l1, .float .f32 t1, .float .f32 p1]] w fun e w' => e = .returned (.bool true) ∧ Below w.heap.size w w' := by
  have hmxn0 : n0 ≤ maxLen := row_max w0
  have hmxn1 : n1 ≤ maxLen := row_max w1
  by_cases hb0 : (1048576 : Int) < n0
  · clear wl0 wt0 wp0 wl1 wt1 wp1
    go_enter Try.func7, Try.ntmps7
    go_wp2_with fail
    refine (szFrame_no _ _ _ _ _ _ _ hmxn0 (by omega) (by omega) _).mono ?_
    rintro e w1 ⟨rfl, E0⟩
    have EX := hid (Ext.trans (Ext.alloc (ext_alloc _ _) _) E0)
    have A0 := hid (Box.ext (Box.alloc (box_new (w := w) #[.slice a0 n0 c0, .float .f32 l0, .float .f32 t0, .float .f32 p0] 44) _) E0)
    have A1 := hid (Box.cast (b' := w.heap.size + 1) (Box.ext (box_new (w := (w.alloc (.cells #[.slice a0 n0 c0, .float .f32 l0, .float .f32 t0, .float .f32 p0] 44))) #[.slice a1 n1 c1, .float .f32 l1, .float .f32 t1, .float .f32 p1] 44) E0) (by simp))
    have Z1 := hid (show w.heap.size + 1 + 1 ≤ w1.heap.size from by have := Ext.size E0; simpa using this)
    clear E0
    go_wp2
    go_ret
    exact ⟨rfl, EX.out⟩
  have hg0 : ¬ ((1048576 : Int) - (n0 : Int) < 0) := by omega
  by_cases hb1 : (1048576 : Int) - n0 < n1
  · clear wl0 wt0 wp0 wl1 wt1 wp1
    go_enter Try.func7, Try.ntmps7
    go_wp2_with fail
    refine (szFrame_yes _ _ _ _ _ _ _ (by omega) (by omega) _).mono ?_
    rintro e w1 ⟨rfl, E0⟩
    have EX := hid (Ext.trans (Ext.alloc (ext_alloc _ _) _) E0)
    have A0 := hid (Box.ext (Box.alloc (box_new (w := w) #[.slice a0 n0 c0, .float .f32 l0, .float .f32 t0, .float .f32 p0] 44) _) E0)
    have A1 := hid (Box.cast (b' := w.heap.size + 1) (Box.ext (box_new (w := (w.alloc (.cells #[.slice a0 n0 c0, .float .f32 l0, .float .f32 t0, .float .f32 p0] 44))) #[.slice a1 n1 c1, .float .f32 l1, .float .f32 t1, .float .f32 p1] 44) E0) (by simp))
    have Z1 := hid (show w.heap.size + 1 + 1 ≤ w1.heap.size from by have := Ext.size E0; simpa using this)
    clear E0
    obtain ⟨A00, A01, A02, A03, A0l⟩ := Box.cells4 A0.out
    obtain ⟨A10, A11, A12, A13, A1l⟩ := Box.cells4 A1.out
    go_wp2_with fail
    refine (szFrame_no _ _ _ _ _ _ _ hmxn1 (by omega) (by omega) _).mono ?_
    rintro e w2 ⟨rfl, E0⟩
    clear A00 A01 A02 A03 A0l A10 A11 A12 A13 A1l
    have EK := E0
    have Z2 := hid (show w1.heap.size ≤ w2.heap.size from Ext.size E0)
    replace A0 := hid (Box.ext A0.out EK)
    replace A1 := hid (Box.ext A1.out EK)
    replace EX := hid (Ext.trans EX.out EK)
    clear EK E0
    go_wp2
    go_ret
    exact ⟨rfl, EX.out⟩
  have hg1 : ¬ ((1048576 : Int) - (n0 : Int) - (n1 : Int) < 0) := by omega
  have hn0 : n0 ≤ 1048576 := by omega
  have hn1 : n1 ≤ 1048576 := by omega
  have Rw0 := hid w0
  have Rw1 := hid w1
  have Kw0 := hid (row_words w0)
  have Kw1 := hid (row_words w1)
  obtain ⟨V, hV⟩ : ∃ V, (sameB (z0.take n0) (z1.take n1) && (eqW l0 l1 && (eqW t0 t1 && eqW p0 p1))) = V := ⟨_, rfl⟩
  have HV := hid hV
  have KF0 := hid (And.intro (wf32 wl0) (And.intro (wf32 wt0) (wf32 wp0)))
  have KF1 := hid (And.intro (wf32 wl1) (And.intro (wf32 wt1) (wf32 wp1)))
  clear hV
  clear w0 w1 hmxn0 hmxn1 hb0 hb1 wl0 wt0 wp0 wl1 wt1 wp1
  go_enter Try.func7, Try.ntmps7
  go_wp2_with fail
  refine (szFrame_yes _ _ _ _ _ _ _ (by omega) (by omega) _).mono ?_
  rintro e w1 ⟨rfl, E0⟩
  have EX := hid (Ext.trans (Ext.alloc (ext_alloc _ _) _) E0)
  have A0 := hid (Box.ext (Box.alloc (box_new (w := w) #[.slice a0 n0 c0, .float .f32 l0, .float .f32 t0, .float .f32 p0] 44) _) E0)
  have A1 := hid (Box.cast (b' := w.heap.size + 1) (Box.ext (box_new (w := (w.alloc (.cells #[.slice a0 n0 c0, .float .f32 l0, .float .f32 t0, .float .f32 p0] 44))) #[.slice a1 n1 c1, .float .f32 l1, .float .f32 t1, .float .f32 p1] 44) E0) (by simp))
  have Z1 := hid (show w.heap.size + 1 + 1 ≤ w1.heap.size from by have := Ext.size E0; simpa using this)
  clear E0
  obtain ⟨A00, A01, A02, A03, A0l⟩ := Box.cells4 A0.out
  obtain ⟨A10, A11, A12, A13, A1l⟩ := Box.cells4 A1.out
  go_wp2_with fail
  refine (szFrame_yes _ _ _ _ _ _ _ (by omega) (by omega) _).mono ?_
  rintro e w2 ⟨rfl, E0⟩
  clear A00 A01 A02 A03 A0l A10 A11 A12 A13 A1l
  have EK := E0
  have Z2 := hid (show w1.heap.size ≤ w2.heap.size from Ext.size E0)
  replace A0 := hid (Box.ext A0.out EK)
  replace A1 := hid (Box.ext A1.out EK)
  replace EX := hid (Ext.trans EX.out EK)
  clear EK E0
  obtain ⟨A00, A01, A02, A03, A0l⟩ := Box.cells4 A0.out
  obtain ⟨A10, A11, A12, A13, A1l⟩ := Box.cells4 A1.out
  clear A00 A01 A02 A03 A0l A10 A11 A12 A13 A1l
  obtain ⟨A00, A01, A02, A03, A0l⟩ := Box.cells4 A0.out
  obtain ⟨A10, A11, A12, A13, A1l⟩ := Box.cells4 A1.out
  go_wp2_with fail
  go_region_held3 (fun w' => (w'.cell? ⟨w.heap.size, 0, none⟩ = some (.slice a0 n0 c0) ∧ w'.cell? ⟨w.heap.size, 1, none⟩ = some (.float .f32 l0) ∧ w'.cell? ⟨w.heap.size, 2, none⟩ = some (.float .f32 t0) ∧ w'.cell? ⟨w.heap.size, 3, none⟩ = some (.float .f32 p0)) ∧ (w'.cell? ⟨w.heap.size + 1, 0, none⟩ = some (.slice a1 n1 c1) ∧ w'.cell? ⟨w.heap.size + 1, 1, none⟩ = some (.float .f32 l1) ∧ w'.cell? ⟨w.heap.size + 1, 2, none⟩ = some (.float .f32 t1) ∧ w'.cell? ⟨w.heap.size + 1, 3, none⟩ = some (.float .f32 p1)))
    (first | (refine keep_of (c := w2) (S := fun w' => (w'.cell? ⟨w.heap.size, 0, none⟩ = some (.slice a0 n0 c0) ∧ w'.cell? ⟨w.heap.size, 1, none⟩ = some (.float .f32 l0) ∧ w'.cell? ⟨w.heap.size, 2, none⟩ = some (.float .f32 t0) ∧ w'.cell? ⟨w.heap.size, 3, none⟩ = some (.float .f32 p0)) ∧ (w'.cell? ⟨w.heap.size + 1, 0, none⟩ = some (.slice a1 n1 c1) ∧ w'.cell? ⟨w.heap.size + 1, 1, none⟩ = some (.float .f32 l1) ∧ w'.cell? ⟨w.heap.size + 1, 2, none⟩ = some (.float .f32 t1) ∧ w'.cell? ⟨w.heap.size + 1, 3, none⟩ = some (.float .f32 p1))) (fun u hu => ⟨⟨Box.cell (Box.ext A0.out hu) 0, Box.cell (Box.ext A0.out hu) 1, Box.cell (Box.ext A0.out hu) 2, Box.cell (Box.ext A0.out hu) 3⟩, ⟨Box.cell (Box.ext A1.out hu) 0, Box.cell (Box.ext A1.out hu) 1, Box.cell (Box.ext A1.out hu) 2, Box.cell (Box.ext A1.out hu) 3⟩⟩) ?_; ((repeat with_reducible (first | exact Ext.refl _ | exact ext_alloc _ _ | refine Ext.trans ?_ EC | refine Ext.trans ?_ ED0 | refine Ext.trans ?_ ED1 | refine Ext.drewN ?_ _ | refine Ext.drew1 ?_ | refine Ext.alloc ?_ _ | refine Ext.set ?_ ?_ _)); all_goals ((have s0 := Ext.size ED0; have s1 := Ext.size ED1; have sC := Ext.size EC; (try simp at s0); (try simp at s1); (try simp at sC); (first | omega | (simp; omega) | (simp; done)))))))
    (first | (go_at_call 28; with_reducible refine (toFrame_any _ _ _ _ _ _ z0 _ (IsRowF.ext Rw0.out (Ext.trans EX.out (by (repeat with_reducible (first | exact Ext.refl _ | exact ext_alloc _ _ | refine Ext.trans ?_ EC | refine Ext.trans ?_ ED0 | refine Ext.trans ?_ ED1 | refine Ext.drewN ?_ _ | refine Ext.drew1 ?_ | refine Ext.alloc ?_ _))))) hn0).mono ?_; rintro e wD0 ⟨Y0b, rfl, Y0F, ED0⟩) | (go_at_call 28; with_reducible refine (toFrame_any _ _ _ _ _ _ z1 _ (IsRowF.ext Rw1.out (Ext.trans EX.out (by (repeat with_reducible (first | exact Ext.refl _ | exact ext_alloc _ _ | refine Ext.trans ?_ EC | refine Ext.trans ?_ ED0 | refine Ext.trans ?_ ED1 | refine Ext.drewN ?_ _ | refine Ext.drew1 ?_ | refine Ext.alloc ?_ _))))) hn1).mono ?_; rintro e wD1 ⟨Y1b, rfl, Y1F, ED1⟩) | (go_at_call 31; refine (sSameFrame_any _ _ _ _ _ _ _ _ _ _ _ _ (z0.take n0) (z1.take n1) V _ (own_hold (Own.ext Y0F (by (repeat with_reducible (first | exact Ext.refl _ | exact ext_alloc _ _ | refine Ext.trans ?_ EC | refine Ext.trans ?_ ED0 | refine Ext.trans ?_ ED1 | refine Ext.drewN ?_ _ | refine Ext.drew1 ?_ | refine Ext.alloc ?_ _))))) (own_hold (Own.ext Y1F (by (repeat with_reducible (first | exact Ext.refl _ | exact ext_alloc _ _ | refine Ext.trans ?_ EC | refine Ext.trans ?_ ED0 | refine Ext.trans ?_ ED1 | refine Ext.drewN ?_ _ | refine Ext.drew1 ?_ | refine Ext.alloc ?_ _))))) hn0 hn1 Kw0.out Kw1.out KF0.out.1 KF0.out.2.1 KF0.out.2.2 KF1.out.1 KF1.out.2.1 KF1.out.2.2 HV.out).mono ?_; rintro e wC ⟨rfl, EC⟩))
  clear A00 A01 A02 A03 A0l A10 A11 A12 A13 A1l
  have EK : Ext w2 wC := by (repeat with_reducible (first | exact Ext.refl _ | exact ext_alloc _ _ | refine Ext.trans ?_ EC | refine Ext.trans ?_ ED0 | refine Ext.trans ?_ ED1 | refine Ext.drewN ?_ _ | refine Ext.drew1 ?_ | refine Ext.alloc ?_ _))
  have Z3 := hid (show w2.heap.size ≤ wC.heap.size from Ext.size EK)
  obtain ⟨w3, hwS⟩ : ∃ u, u = wC := ⟨_, rfl⟩
  subst hwS
  clear ED0 Y0F ED1 Y1F EC
  replace A0 := hid (Box.ext A0.out EK)
  replace A1 := hid (Box.ext A1.out EK)
  replace EX := hid (Ext.trans EX.out EK)
  clear EK
  obtain ⟨A00, A01, A02, A03, A0l⟩ := Box.cells4 A0.out
  obtain ⟨A10, A11, A12, A13, A1l⟩ := Box.cells4 A1.out
  go_wp2_with fail
  refine (toFrame_any _ _ _ _ _ _ z0 _ (IsRowF.ext Rw0.out EX.out) hn0).mono ?_
  rintro e w4 ⟨X0b, rfl, X0F, E0⟩
  clear A00 A01 A02 A03 A0l A10 A11 A12 A13 A1l
  have EK := E0
  have Z4 := hid (show w3.heap.size ≤ w4.heap.size from Ext.size E0)
  replace A0 := hid (Box.ext A0.out EK)
  replace A1 := hid (Box.ext A1.out EK)
  replace EX := hid (Ext.trans EX.out EK)
  clear EK E0
  have X0F_ := hid (Own.base X0F (B' := w3.heap.size) (by simp))
  have X0F_I := hid (Own.block X0F_.out)
  clear X0F
  obtain ⟨A00, A01, A02, A03, A0l⟩ := Box.cells4 A0.out
  obtain ⟨A10, A11, A12, A13, A1l⟩ := Box.cells4 A1.out
  go_wp2_with fail
  refine (toFrame_any _ _ _ _ _ _ z1 _ (IsRowF.ext Rw1.out (Ext.trans EX.out (ext_alloc _ _))) hn1).mono ?_
  rintro e w5 ⟨X1b, rfl, X1F, E0⟩
  clear A00 A01 A02 A03 A0l A10 A11 A12 A13 A1l
  have X0B := hid (Box.ext (box_new (w := w4) #[.slice (some ⟨X0b, 0, none⟩) n0 n0, .float .f32 l0, .float .f32 t0, .float .f32 p0] 47) E0)
  have EK := Ext.trans (ext_alloc _ _) E0
  have Z5 := hid (show w4.heap.size + 1 ≤ w5.heap.size from by have := Ext.size E0; simpa using this)
  replace A0 := hid (Box.ext A0.out EK)
  replace A1 := hid (Box.ext A1.out EK)
  replace X0F_ := hid (Own.ext X0F_.out EK)
  replace EX := hid (Ext.trans EX.out EK)
  clear EK E0
  have X1F_ := hid (Own.base X1F (B' := w4.heap.size + 1) (by simp))
  have X1F_I := hid (Own.block X1F_.out)
  clear X1F
  obtain ⟨A00, A01, A02, A03, A0l⟩ := Box.cells4 A0.out
  obtain ⟨A10, A11, A12, A13, A1l⟩ := Box.cells4 A1.out
  obtain ⟨X0B0, X0B1, X0B2, X0B3, X0Bl⟩ := Box.cells4 X0B.out
  go_wp2_with fail
  refine (sameFrame_any _ _ _ _ _ _ _ _ _ _ _ _ (z0.take n0) (z1.take n1) V _ (Holds.alloc (own_hold X0F_.out) _) (Holds.alloc (own_hold X1F_.out) _) hn0 hn1 Kw0.out Kw1.out KF0.out.1 KF0.out.2.1 KF0.out.2.2 KF1.out.1 KF1.out.2.1 KF1.out.2.2 HV.out).mono ?_
  rintro e w6 ⟨rfl, E0⟩
  clear A00 A01 A02 A03 A0l A10 A11 A12 A13 A1l X0B0 X0B1 X0B2 X0B3 X0Bl
  have X1B := hid (Box.ext (box_new (w := w5) #[.slice (some ⟨X1b, 0, none⟩) n1 n1, .float .f32 l1, .float .f32 t1, .float .f32 p1] 47) E0)
  have EK := Ext.trans (ext_alloc _ _) E0
  have Z6 := hid (show w5.heap.size + 1 ≤ w6.heap.size from by have := Ext.size E0; simpa using this)
  replace A0 := hid (Box.ext A0.out EK)
  replace A1 := hid (Box.ext A1.out EK)
  replace X0B := hid (Box.ext X0B.out EK)
  replace X0F_ := hid (Own.ext X0F_.out EK)
  replace X1F_ := hid (Own.ext X1F_.out EK)
  replace EX := hid (Ext.trans EX.out EK)
  clear EK E0
  obtain ⟨A00, A01, A02, A03, A0l⟩ := Box.cells4 A0.out
  obtain ⟨A10, A11, A12, A13, A1l⟩ := Box.cells4 A1.out
  obtain ⟨X0B0, X0B1, X0B2, X0B3, X0Bl⟩ := Box.cells4 X0B.out
  obtain ⟨X1B0, X1B1, X1B2, X1B3, X1Bl⟩ := Box.cells4 X1B.out
  go_wp2_with fail
  clear A00 A01 A02 A03 A0l A10 A11 A12 A13 A1l X0B0 X0B1 X0B2 X0B3 X0Bl X1B0 X1B1 X1B2 X1B3 X1Bl
  obtain ⟨A00, A01, A02, A03, A0l⟩ := Box.cells4 A0.out
  obtain ⟨A10, A11, A12, A13, A1l⟩ := Box.cells4 A1.out
  obtain ⟨X0B0, X0B1, X0B2, X0B3, X0Bl⟩ := Box.cells4 X0B.out
  obtain ⟨X1B0, X1B1, X1B2, X1B3, X1Bl⟩ := Box.cells4 X1B.out
  go_region_held3 (fun w' => (w'.cell? ⟨w.heap.size, 0, none⟩ = some (.slice a0 n0 c0) ∧ w'.cell? ⟨w.heap.size, 1, none⟩ = some (.float .f32 l0) ∧ w'.cell? ⟨w.heap.size, 2, none⟩ = some (.float .f32 t0) ∧ w'.cell? ⟨w.heap.size, 3, none⟩ = some (.float .f32 p0)) ∧ (w'.cell? ⟨w4.heap.size, 0, none⟩ = some (.slice (some ⟨X0b, 0, none⟩) n0 n0) ∧ w'.cell? ⟨w4.heap.size, 1, none⟩ = some (.float .f32 l0) ∧ w'.cell? ⟨w4.heap.size, 2, none⟩ = some (.float .f32 t0) ∧ w'.cell? ⟨w4.heap.size, 3, none⟩ = some (.float .f32 p0)))
    (first | (refine keep_of (c := w6) (S := fun w' => (w'.cell? ⟨w.heap.size, 0, none⟩ = some (.slice a0 n0 c0) ∧ w'.cell? ⟨w.heap.size, 1, none⟩ = some (.float .f32 l0) ∧ w'.cell? ⟨w.heap.size, 2, none⟩ = some (.float .f32 t0) ∧ w'.cell? ⟨w.heap.size, 3, none⟩ = some (.float .f32 p0)) ∧ (w'.cell? ⟨w4.heap.size, 0, none⟩ = some (.slice (some ⟨X0b, 0, none⟩) n0 n0) ∧ w'.cell? ⟨w4.heap.size, 1, none⟩ = some (.float .f32 l0) ∧ w'.cell? ⟨w4.heap.size, 2, none⟩ = some (.float .f32 t0) ∧ w'.cell? ⟨w4.heap.size, 3, none⟩ = some (.float .f32 p0))) (fun u hu => ⟨⟨Box.cell (Box.ext A0.out hu) 0, Box.cell (Box.ext A0.out hu) 1, Box.cell (Box.ext A0.out hu) 2, Box.cell (Box.ext A0.out hu) 3⟩, ⟨Box.cell (Box.ext X0B.out hu) 0, Box.cell (Box.ext X0B.out hu) 1, Box.cell (Box.ext X0B.out hu) 2, Box.cell (Box.ext X0B.out hu) 3⟩⟩) ?_; (repeat with_reducible (first | exact Ext.refl _ | exact ext_alloc _ _ | refine Ext.trans ?_ EC | refine Ext.trans ?_ ED0 | refine Ext.trans ?_ ED1 | refine Ext.drewN ?_ _ | refine Ext.drew1 ?_ | refine Ext.alloc ?_ _))))
    (first | (go_at_call 28; with_reducible refine (toFrame_any _ _ _ _ _ _ z0 _ (IsRowF.ext Rw0.out (Ext.trans EX.out (by (repeat with_reducible (first | exact Ext.refl _ | exact ext_alloc _ _ | refine Ext.trans ?_ EC | refine Ext.trans ?_ ED0 | refine Ext.trans ?_ ED1 | refine Ext.drewN ?_ _ | refine Ext.drew1 ?_ | refine Ext.alloc ?_ _))))) hn0).mono ?_; rintro e wD0 ⟨YYb, rfl, YYF, ED0⟩) | (go_at_call 30; refine (eqFrame_yes _ _ _ _ _ _ _ _ _ _ _ _ _ _ (own_hold (Own.ext X0F_.out (by (repeat with_reducible (first | exact Ext.refl _ | exact ext_alloc _ _ | refine Ext.trans ?_ EC | refine Ext.trans ?_ ED0 | refine Ext.trans ?_ ED1 | refine Ext.drewN ?_ _ | refine Ext.drew1 ?_ | refine Ext.alloc ?_ _))))) (own_hold YYF) hn0 rfl rfl rfl rfl).mono ?_; rintro e wC ⟨rfl, EC⟩))
  clear A00 A01 A02 A03 A0l A10 A11 A12 A13 A1l X0B0 X0B1 X0B2 X0B3 X0Bl X1B0 X1B1 X1B2 X1B3 X1Bl
  have EK : Ext w6 wC := by (repeat with_reducible (first | exact Ext.refl _ | exact ext_alloc _ _ | refine Ext.trans ?_ EC | refine Ext.trans ?_ ED0 | refine Ext.trans ?_ ED1 | refine Ext.drewN ?_ _ | refine Ext.drew1 ?_ | refine Ext.alloc ?_ _))
  obtain ⟨w7, hwS⟩ : ∃ u, u = wC := ⟨_, rfl⟩
  subst hwS
  have Z7 := hid (show w6.heap.size ≤ w7.heap.size from Ext.size EK)
  clear ED0 EC YYF
  clear X0B
  clear X0F_ X0F_I
  clear A0
  replace A1 := hid (Box.ext A1.out EK)
  replace X1B := hid (Box.ext X1B.out EK)
  replace X1F_ := hid (Own.ext X1F_.out EK)
  replace EX := hid (Ext.trans EX.out EK)
  clear EK
  obtain ⟨A10, A11, A12, A13, A1l⟩ := Box.cells4 A1.out
  obtain ⟨X1B0, X1B1, X1B2, X1B3, X1Bl⟩ := Box.cells4 X1B.out
  go_wp2_with fail
  clear A10 A11 A12 A13 A1l X1B0 X1B1 X1B2 X1B3 X1Bl
  obtain ⟨A10, A11, A12, A13, A1l⟩ := Box.cells4 A1.out
  obtain ⟨X1B0, X1B1, X1B2, X1B3, X1Bl⟩ := Box.cells4 X1B.out
  go_region_held3 (fun w' => (w'.cell? ⟨w.heap.size + 1, 0, none⟩ = some (.slice a1 n1 c1) ∧ w'.cell? ⟨w.heap.size + 1, 1, none⟩ = some (.float .f32 l1) ∧ w'.cell? ⟨w.heap.size + 1, 2, none⟩ = some (.float .f32 t1) ∧ w'.cell? ⟨w.heap.size + 1, 3, none⟩ = some (.float .f32 p1)) ∧ (w'.cell? ⟨w5.heap.size, 0, none⟩ = some (.slice (some ⟨X1b, 0, none⟩) n1 n1) ∧ w'.cell? ⟨w5.heap.size, 1, none⟩ = some (.float .f32 l1) ∧ w'.cell? ⟨w5.heap.size, 2, none⟩ = some (.float .f32 t1) ∧ w'.cell? ⟨w5.heap.size, 3, none⟩ = some (.float .f32 p1)))
    (first | (refine keep_of (c := w7) (S := fun w' => (w'.cell? ⟨w.heap.size + 1, 0, none⟩ = some (.slice a1 n1 c1) ∧ w'.cell? ⟨w.heap.size + 1, 1, none⟩ = some (.float .f32 l1) ∧ w'.cell? ⟨w.heap.size + 1, 2, none⟩ = some (.float .f32 t1) ∧ w'.cell? ⟨w.heap.size + 1, 3, none⟩ = some (.float .f32 p1)) ∧ (w'.cell? ⟨w5.heap.size, 0, none⟩ = some (.slice (some ⟨X1b, 0, none⟩) n1 n1) ∧ w'.cell? ⟨w5.heap.size, 1, none⟩ = some (.float .f32 l1) ∧ w'.cell? ⟨w5.heap.size, 2, none⟩ = some (.float .f32 t1) ∧ w'.cell? ⟨w5.heap.size, 3, none⟩ = some (.float .f32 p1))) (fun u hu => ⟨⟨Box.cell (Box.ext A1.out hu) 0, Box.cell (Box.ext A1.out hu) 1, Box.cell (Box.ext A1.out hu) 2, Box.cell (Box.ext A1.out hu) 3⟩, ⟨Box.cell (Box.ext X1B.out hu) 0, Box.cell (Box.ext X1B.out hu) 1, Box.cell (Box.ext X1B.out hu) 2, Box.cell (Box.ext X1B.out hu) 3⟩⟩) ?_; (repeat with_reducible (first | exact Ext.refl _ | exact ext_alloc _ _ | refine Ext.trans ?_ EC | refine Ext.trans ?_ ED0 | refine Ext.trans ?_ ED1 | refine Ext.drewN ?_ _ | refine Ext.drew1 ?_ | refine Ext.alloc ?_ _))))
    (first | (go_at_call 28; with_reducible refine (toFrame_any _ _ _ _ _ _ z1 _ (IsRowF.ext Rw1.out (Ext.trans EX.out (by (repeat with_reducible (first | exact Ext.refl _ | exact ext_alloc _ _ | refine Ext.trans ?_ EC | refine Ext.trans ?_ ED0 | refine Ext.trans ?_ ED1 | refine Ext.drewN ?_ _ | refine Ext.drew1 ?_ | refine Ext.alloc ?_ _))))) hn1).mono ?_; rintro e wD1 ⟨YYb, rfl, YYF, ED1⟩) | (go_at_call 30; refine (eqFrame_yes _ _ _ _ _ _ _ _ _ _ _ _ _ _ (own_hold (Own.ext X1F_.out (by (repeat with_reducible (first | exact Ext.refl _ | exact ext_alloc _ _ | refine Ext.trans ?_ EC | refine Ext.trans ?_ ED0 | refine Ext.trans ?_ ED1 | refine Ext.drewN ?_ _ | refine Ext.drew1 ?_ | refine Ext.alloc ?_ _))))) (own_hold YYF) hn1 rfl rfl rfl rfl).mono ?_; rintro e wC ⟨rfl, EC⟩))
  clear A10 A11 A12 A13 A1l X1B0 X1B1 X1B2 X1B3 X1Bl
  have EK : Ext w7 wC := by (repeat with_reducible (first | exact Ext.refl _ | exact ext_alloc _ _ | refine Ext.trans ?_ EC | refine Ext.trans ?_ ED0 | refine Ext.trans ?_ ED1 | refine Ext.drewN ?_ _ | refine Ext.drew1 ?_ | refine Ext.alloc ?_ _))
  obtain ⟨w8, hwS⟩ : ∃ u, u = wC := ⟨_, rfl⟩
  subst hwS
  have Z8 := hid (show w7.heap.size ≤ w8.heap.size from Ext.size EK)
  clear ED1 EC YYF
  clear X1B
  clear X1F_ X1F_I
  clear A1
  replace EX := hid (Ext.trans EX.out EK)
  clear EK
  go_wp2
  go_ret
  exact ⟨rfl, EX.out⟩
end Go.Proofs.Ythinjgiakaflpaa
