/- The law on waves that are the same. -/
import Derived.Test.YtogjehlepdapoabT18
import Derived.Deep.RegionHeld3
import Derived.Deep.DeepCutAuto
namespace Go.Proofs.Ytogjehlepdapoab
open Go.RowKit Flt
set_option linter.unusedVariables false

set_option maxHeartbeats 8000000 in
set_option maxRecDepth 100000 in
theorem FnExactSameWaves_walk (a0 : Option Addr) (n0 c0 : Nat) (z0 : List Nat) (b0 : Option Addr) (m0 d0 : Nat) (y0 : List Nat) (a1 : Option Addr) (n1 c1 : Nat) (z1 : List Nat) (b1 : Option Addr) (m1 d1 : Nat) (y1 : List Nat) (w : World) (w0 : IsRowF .f32 w a0 n0 c0 z0) (v0 : IsRowF .f32 w b0 m0 d0 y0) (w1 : IsRowF .f32 w a1 n1 c1 z1) (v1 : IsRowF .f32 w b1 m1 d1 y1) :
    Calls Try.prog 10 #[.agg #[.slice a0 n0 c0, .slice b0 m0 d0], .agg #[.slice a1 n1 c1, .slice b1 m1 d1]] w fun e w' => e = .returned (.bool true) ∧ Below w.heap.size w w' := by
  have hmxn0 : n0 ≤ maxLen := row_max w0
  have hmxm0 : m0 ≤ maxLen := row_max v0
  have hmxn1 : n1 ≤ maxLen := row_max w1
  have hmxm1 : m1 ≤ maxLen := row_max v1
  by_cases hb0 : (1048576 : Int) < n0
  · skip
    go_enter Try.func10, Try.ntmps10
    go_wp2_with fail
    refine (szWaves_no1 _ _ _ _ _ _ _ hmxn0 (by omega) (by omega) _).mono ?_
    rintro e w1 ⟨rfl, E0⟩
    have EX := hid (Ext.trans (Ext.alloc (ext_alloc _ _) _) E0)
    have A0 := hid (Box.ext (Box.alloc (box_new (w := w) #[.slice a0 n0 c0, .slice b0 m0 d0] 54) _) E0)
    have A1 := hid (Box.cast (b' := w.heap.size + 1) (Box.ext (box_new (w := (w.alloc (.cells #[.slice a0 n0 c0, .slice b0 m0 d0] 54))) #[.slice a1 n1 c1, .slice b1 m1 d1] 54) E0) (by simp))
    have Z1 := hid (show w.heap.size + 1 + 1 ≤ w1.heap.size from by have := Ext.size E0; simpa using this)
    clear E0
    go_wp2
    go_ret
    exact ⟨rfl, EX.out⟩
  by_cases hb1 : (1048576 : Int) - n0 < m0
  · skip
    go_enter Try.func10, Try.ntmps10
    go_wp2_with fail
    refine (szWaves_no2 _ _ _ _ _ _ _ hmxm0 (by omega) (by omega) (by omega) _).mono ?_
    rintro e w1 ⟨rfl, E0⟩
    have EX := hid (Ext.trans (Ext.alloc (ext_alloc _ _) _) E0)
    have A0 := hid (Box.ext (Box.alloc (box_new (w := w) #[.slice a0 n0 c0, .slice b0 m0 d0] 54) _) E0)
    have A1 := hid (Box.cast (b' := w.heap.size + 1) (Box.ext (box_new (w := (w.alloc (.cells #[.slice a0 n0 c0, .slice b0 m0 d0] 54))) #[.slice a1 n1 c1, .slice b1 m1 d1] 54) E0) (by simp))
    have Z1 := hid (show w.heap.size + 1 + 1 ≤ w1.heap.size from by have := Ext.size E0; simpa using this)
    clear E0
    go_wp2
    go_ret
    exact ⟨rfl, EX.out⟩
  have hg0 : ¬ ((1048576 : Int) - (n0 : Int) - (m0 : Int) < 0) := by omega
  by_cases hb2 : (1048576 : Int) - n0 - m0 < n1
  · skip
    go_enter Try.func10, Try.ntmps10
    go_wp2_with fail
    refine (szWaves_yes _ _ _ _ _ _ _ (by omega) (by omega) _).mono ?_
    rintro e w1 ⟨rfl, E0⟩
    have EX := hid (Ext.trans (Ext.alloc (ext_alloc _ _) _) E0)
    have A0 := hid (Box.ext (Box.alloc (box_new (w := w) #[.slice a0 n0 c0, .slice b0 m0 d0] 54) _) E0)
    have A1 := hid (Box.cast (b' := w.heap.size + 1) (Box.ext (box_new (w := (w.alloc (.cells #[.slice a0 n0 c0, .slice b0 m0 d0] 54))) #[.slice a1 n1 c1, .slice b1 m1 d1] 54) E0) (by simp))
    have Z1 := hid (show w.heap.size + 1 + 1 ≤ w1.heap.size from by have := Ext.size E0; simpa using this)
    clear E0
    obtain ⟨A00, A01, A0l⟩ := Box.cells2 A0.out
    obtain ⟨A10, A11, A1l⟩ := Box.cells2 A1.out
    go_wp2_with fail
    refine (szWaves_no1 _ _ _ _ _ _ _ hmxn1 (by omega) (by omega) _).mono ?_
    rintro e w2 ⟨rfl, E0⟩
    clear A00 A01 A0l A10 A11 A1l
    have EK := E0
    have Z2 := hid (show w1.heap.size ≤ w2.heap.size from Ext.size E0)
    replace A0 := hid (Box.ext A0.out EK)
    replace A1 := hid (Box.ext A1.out EK)
    replace EX := hid (Ext.trans EX.out EK)
    clear EK E0
    go_wp2
    go_ret
    exact ⟨rfl, EX.out⟩
  by_cases hb3 : (1048576 : Int) - n0 - m0 - n1 < m1
  · skip
    go_enter Try.func10, Try.ntmps10
    go_wp2_with fail
    refine (szWaves_yes _ _ _ _ _ _ _ (by omega) (by omega) _).mono ?_
    rintro e w1 ⟨rfl, E0⟩
    have EX := hid (Ext.trans (Ext.alloc (ext_alloc _ _) _) E0)
    have A0 := hid (Box.ext (Box.alloc (box_new (w := w) #[.slice a0 n0 c0, .slice b0 m0 d0] 54) _) E0)
    have A1 := hid (Box.cast (b' := w.heap.size + 1) (Box.ext (box_new (w := (w.alloc (.cells #[.slice a0 n0 c0, .slice b0 m0 d0] 54))) #[.slice a1 n1 c1, .slice b1 m1 d1] 54) E0) (by simp))
    have Z1 := hid (show w.heap.size + 1 + 1 ≤ w1.heap.size from by have := Ext.size E0; simpa using this)
    clear E0
    obtain ⟨A00, A01, A0l⟩ := Box.cells2 A0.out
    obtain ⟨A10, A11, A1l⟩ := Box.cells2 A1.out
    go_wp2_with fail
    refine (szWaves_no2 _ _ _ _ _ _ _ hmxm1 (by omega) (by omega) (by omega) _).mono ?_
    rintro e w2 ⟨rfl, E0⟩
    clear A00 A01 A0l A10 A11 A1l
    have EK := E0
    have Z2 := hid (show w1.heap.size ≤ w2.heap.size from Ext.size E0)
    replace A0 := hid (Box.ext A0.out EK)
    replace A1 := hid (Box.ext A1.out EK)
    replace EX := hid (Ext.trans EX.out EK)
    clear EK E0
    go_wp2
    go_ret
    exact ⟨rfl, EX.out⟩
  have hg1 : ¬ ((1048576 : Int) - (n0 : Int) - (m0 : Int) - (n1 : Int) - (m1 : Int) < 0) := by omega
  have hn0 : n0 ≤ 1048576 := by omega
  have hm0 : m0 ≤ 1048576 := by omega
  have hn1 : n1 ≤ 1048576 := by omega
  have hm1 : m1 ≤ 1048576 := by omega
  have Rw0 := hid w0
  have Rv0 := hid v0
  have Rw1 := hid w1
  have Rv1 := hid v1
  have Kw0 := hid (row_words w0)
  have Kv0 := hid (row_words v0)
  have Kw1 := hid (row_words w1)
  have Kv1 := hid (row_words v1)
  obtain ⟨V, hV⟩ : ∃ V, (sameB (z0.take n0) (z1.take n1) && sameB (y0.take m0) (y1.take m1)) = V := ⟨_, rfl⟩
  have HV := hid hV
  clear hV
  clear w0 v0 w1 v1 hmxn0 hmxm0 hmxn1 hmxm1 hb0 hb1 hb2 hb3
  go_enter Try.func10, Try.ntmps10
  go_wp2_with fail
  refine (szWaves_yes _ _ _ _ _ _ _ (by omega) (by omega) _).mono ?_
  rintro e w1 ⟨rfl, E0⟩
  have EX := hid (Ext.trans (Ext.alloc (ext_alloc _ _) _) E0)
  have A0 := hid (Box.ext (Box.alloc (box_new (w := w) #[.slice a0 n0 c0, .slice b0 m0 d0] 54) _) E0)
  have A1 := hid (Box.cast (b' := w.heap.size + 1) (Box.ext (box_new (w := (w.alloc (.cells #[.slice a0 n0 c0, .slice b0 m0 d0] 54))) #[.slice a1 n1 c1, .slice b1 m1 d1] 54) E0) (by simp))
  have Z1 := hid (show w.heap.size + 1 + 1 ≤ w1.heap.size from by have := Ext.size E0; simpa using this)
  clear E0
  obtain ⟨A00, A01, A0l⟩ := Box.cells2 A0.out
  obtain ⟨A10, A11, A1l⟩ := Box.cells2 A1.out
  go_wp2_with fail
  refine (szWaves_yes _ _ _ _ _ _ _ (by omega) (by omega) _).mono ?_
  rintro e w2 ⟨rfl, E0⟩
  clear A00 A01 A0l A10 A11 A1l
  have EK := E0
  have Z2 := hid (show w1.heap.size ≤ w2.heap.size from Ext.size E0)
  replace A0 := hid (Box.ext A0.out EK)
  replace A1 := hid (Box.ext A1.out EK)
  replace EX := hid (Ext.trans EX.out EK)
  clear EK E0
  obtain ⟨A00, A01, A0l⟩ := Box.cells2 A0.out
  obtain ⟨A10, A11, A1l⟩ := Box.cells2 A1.out
  clear A00 A01 A0l A10 A11 A1l
  obtain ⟨A00, A01, A0l⟩ := Box.cells2 A0.out
  obtain ⟨A10, A11, A1l⟩ := Box.cells2 A1.out
  go_wp2_with fail
  go_region_held3 (fun w' => (w'.cell? ⟨w.heap.size, 0, none⟩ = some (.slice a0 n0 c0) ∧ w'.cell? ⟨w.heap.size, 1, none⟩ = some (.slice b0 m0 d0)) ∧ (w'.cell? ⟨w.heap.size + 1, 0, none⟩ = some (.slice a1 n1 c1) ∧ w'.cell? ⟨w.heap.size + 1, 1, none⟩ = some (.slice b1 m1 d1)))
    (first | (refine keep_of (c := w2) (S := fun w' => (w'.cell? ⟨w.heap.size, 0, none⟩ = some (.slice a0 n0 c0) ∧ w'.cell? ⟨w.heap.size, 1, none⟩ = some (.slice b0 m0 d0)) ∧ (w'.cell? ⟨w.heap.size + 1, 0, none⟩ = some (.slice a1 n1 c1) ∧ w'.cell? ⟨w.heap.size + 1, 1, none⟩ = some (.slice b1 m1 d1))) (fun u hu => ⟨⟨Box.cell (Box.ext A0.out hu) 0, Box.cell (Box.ext A0.out hu) 1⟩, ⟨Box.cell (Box.ext A1.out hu) 0, Box.cell (Box.ext A1.out hu) 1⟩⟩) ?_; (repeat with_reducible (first | exact Ext.refl _ | exact ext_alloc _ _ | refine Ext.trans ?_ EC | refine Ext.trans ?_ ED0 | refine Ext.trans ?_ ED1 | refine Ext.drewN ?_ _ | refine Ext.drew1 ?_ | refine Ext.alloc ?_ _))))
    (first | (go_at_call 42; with_reducible refine (toWaves_any _ _ _ _ _ _ z0 y0 _ (IsRowF.ext Rw0.out (Ext.trans EX.out (by (repeat with_reducible (first | exact Ext.refl _ | exact ext_alloc _ _ | refine Ext.trans ?_ EC | refine Ext.trans ?_ ED0 | refine Ext.trans ?_ ED1 | refine Ext.drewN ?_ _ | refine Ext.drew1 ?_ | refine Ext.alloc ?_ _))))) (IsRowF.ext Rv0.out (Ext.trans EX.out (by (repeat with_reducible (first | exact Ext.refl _ | exact ext_alloc _ _ | refine Ext.trans ?_ EC | refine Ext.trans ?_ ED0 | refine Ext.trans ?_ ED1 | refine Ext.drewN ?_ _ | refine Ext.drew1 ?_ | refine Ext.alloc ?_ _))))) hn0 hm0).mono ?_; rintro e wD0 ⟨Y0b, Y0d, rfl, Y0F, Y0G, Y0N, ED0⟩) | (go_at_call 42; with_reducible refine (toWaves_any _ _ _ _ _ _ z1 y1 _ (IsRowF.ext Rw1.out (Ext.trans EX.out (by (repeat with_reducible (first | exact Ext.refl _ | exact ext_alloc _ _ | refine Ext.trans ?_ EC | refine Ext.trans ?_ ED0 | refine Ext.trans ?_ ED1 | refine Ext.drewN ?_ _ | refine Ext.drew1 ?_ | refine Ext.alloc ?_ _))))) (IsRowF.ext Rv1.out (Ext.trans EX.out (by (repeat with_reducible (first | exact Ext.refl _ | exact ext_alloc _ _ | refine Ext.trans ?_ EC | refine Ext.trans ?_ ED0 | refine Ext.trans ?_ ED1 | refine Ext.drewN ?_ _ | refine Ext.drew1 ?_ | refine Ext.alloc ?_ _))))) hn1 hm1).mono ?_; rintro e wD1 ⟨Y1b, Y1d, rfl, Y1F, Y1G, Y1N, ED1⟩) | (go_at_call 44; refine (sSameWaves_any _ _ _ _ _ _ _ _ _ _ _ _ (z0.take n0) (y0.take m0) (z1.take n1) (y1.take m1) V _ (own_hold (Own.ext Y0F (by (repeat with_reducible (first | exact Ext.refl _ | exact ext_alloc _ _ | refine Ext.trans ?_ EC | refine Ext.trans ?_ ED0 | refine Ext.trans ?_ ED1 | refine Ext.drewN ?_ _ | refine Ext.drew1 ?_ | refine Ext.alloc ?_ _))))) (own_hold (Own.ext Y0G (by (repeat with_reducible (first | exact Ext.refl _ | exact ext_alloc _ _ | refine Ext.trans ?_ EC | refine Ext.trans ?_ ED0 | refine Ext.trans ?_ ED1 | refine Ext.drewN ?_ _ | refine Ext.drew1 ?_ | refine Ext.alloc ?_ _))))) (own_hold (Own.ext Y1F (by (repeat with_reducible (first | exact Ext.refl _ | exact ext_alloc _ _ | refine Ext.trans ?_ EC | refine Ext.trans ?_ ED0 | refine Ext.trans ?_ ED1 | refine Ext.drewN ?_ _ | refine Ext.drew1 ?_ | refine Ext.alloc ?_ _))))) (own_hold (Own.ext Y1G (by (repeat with_reducible (first | exact Ext.refl _ | exact ext_alloc _ _ | refine Ext.trans ?_ EC | refine Ext.trans ?_ ED0 | refine Ext.trans ?_ ED1 | refine Ext.drewN ?_ _ | refine Ext.drew1 ?_ | refine Ext.alloc ?_ _))))) hn0 hm0 hn1 hm1 Kw0.out Kv0.out Kw1.out Kv1.out HV.out).mono ?_; rintro e wC ⟨rfl, EC⟩))
  clear A00 A01 A0l A10 A11 A1l
  have EK : Ext w2 wC := by (repeat with_reducible (first | exact Ext.refl _ | exact ext_alloc _ _ | refine Ext.trans ?_ EC | refine Ext.trans ?_ ED0 | refine Ext.trans ?_ ED1 | refine Ext.drewN ?_ _ | refine Ext.drew1 ?_ | refine Ext.alloc ?_ _))
  have Z3 := hid (show w2.heap.size ≤ wC.heap.size from Ext.size EK)
  obtain ⟨w3, hwS⟩ : ∃ u, u = wC := ⟨_, rfl⟩
  subst hwS
  clear ED0 Y0F Y0G Y0N ED1 Y1F Y1G Y1N EC
  replace A0 := hid (Box.ext A0.out EK)
  replace A1 := hid (Box.ext A1.out EK)
  replace EX := hid (Ext.trans EX.out EK)
  clear EK
  obtain ⟨A00, A01, A0l⟩ := Box.cells2 A0.out
  obtain ⟨A10, A11, A1l⟩ := Box.cells2 A1.out
  go_wp2_with fail
  refine (toWaves_any _ _ _ _ _ _ z0 y0 _ (IsRowF.ext Rw0.out EX.out) (IsRowF.ext Rv0.out EX.out) hn0 hm0).mono ?_
  rintro e w4 ⟨X0b, X0d, rfl, X0F, X0G, X0N, E0⟩
  clear A00 A01 A0l A10 A11 A1l
  have EK := E0
  have Z4 := hid (show w3.heap.size ≤ w4.heap.size from Ext.size E0)
  replace A0 := hid (Box.ext A0.out EK)
  replace A1 := hid (Box.ext A1.out EK)
  replace EX := hid (Ext.trans EX.out EK)
  clear EK E0
  have X0F_ := hid (Own.base X0F (B' := w3.heap.size) (by simp))
  have X0F_I := hid (Own.block X0F_.out)
  clear X0F
  have X0G_ := hid (Own.base X0G (B' := w3.heap.size) (by simp))
  have X0G_I := hid (Own.block X0G_.out)
  clear X0G
  replace X0N := hid X0N
  obtain ⟨A00, A01, A0l⟩ := Box.cells2 A0.out
  obtain ⟨A10, A11, A1l⟩ := Box.cells2 A1.out
  go_wp2_with fail
  refine (toWaves_any _ _ _ _ _ _ z1 y1 _ (IsRowF.ext Rw1.out (Ext.trans EX.out (ext_alloc _ _))) (IsRowF.ext Rv1.out (Ext.trans EX.out (ext_alloc _ _))) hn1 hm1).mono ?_
  rintro e w5 ⟨X1b, X1d, rfl, X1F, X1G, X1N, E0⟩
  clear A00 A01 A0l A10 A11 A1l
  have X0B := hid (Box.ext (box_new (w := w4) #[.slice (some ⟨X0b, 0, none⟩) n0 n0, .slice (some ⟨X0d, 0, none⟩) m0 m0] 49) E0)
  have EK := Ext.trans (ext_alloc _ _) E0
  have Z5 := hid (show w4.heap.size + 1 ≤ w5.heap.size from by have := Ext.size E0; simpa using this)
  replace A0 := hid (Box.ext A0.out EK)
  replace A1 := hid (Box.ext A1.out EK)
  replace X0F_ := hid (Own.ext X0F_.out EK)
  replace X0G_ := hid (Own.ext X0G_.out EK)
  replace EX := hid (Ext.trans EX.out EK)
  clear EK E0
  have X1F_ := hid (Own.base X1F (B' := w4.heap.size + 1) (by simp))
  have X1F_I := hid (Own.block X1F_.out)
  clear X1F
  have X1G_ := hid (Own.base X1G (B' := w4.heap.size + 1) (by simp))
  have X1G_I := hid (Own.block X1G_.out)
  clear X1G
  replace X1N := hid X1N
  obtain ⟨A00, A01, A0l⟩ := Box.cells2 A0.out
  obtain ⟨A10, A11, A1l⟩ := Box.cells2 A1.out
  obtain ⟨X0B0, X0B1, X0Bl⟩ := Box.cells2 X0B.out
  go_wp2_with fail
  refine (sameWaves_any _ _ _ _ _ _ _ _ _ _ _ _ (z0.take n0) (y0.take m0) (z1.take n1) (y1.take m1) V _ (Holds.alloc (own_hold X0F_.out) _) (Holds.alloc (own_hold X0G_.out) _) (Holds.alloc (own_hold X1F_.out) _) (Holds.alloc (own_hold X1G_.out) _) hn0 hm0 hn1 hm1 Kw0.out Kv0.out Kw1.out Kv1.out HV.out).mono ?_
  rintro e w6 ⟨rfl, E0⟩
  clear A00 A01 A0l A10 A11 A1l X0B0 X0B1 X0Bl
  have X1B := hid (Box.ext (box_new (w := w5) #[.slice (some ⟨X1b, 0, none⟩) n1 n1, .slice (some ⟨X1d, 0, none⟩) m1 m1] 49) E0)
  have EK := Ext.trans (ext_alloc _ _) E0
  have Z6 := hid (show w5.heap.size + 1 ≤ w6.heap.size from by have := Ext.size E0; simpa using this)
  replace A0 := hid (Box.ext A0.out EK)
  replace A1 := hid (Box.ext A1.out EK)
  replace X0B := hid (Box.ext X0B.out EK)
  replace X0F_ := hid (Own.ext X0F_.out EK)
  replace X0G_ := hid (Own.ext X0G_.out EK)
  replace X1F_ := hid (Own.ext X1F_.out EK)
  replace X1G_ := hid (Own.ext X1G_.out EK)
  replace EX := hid (Ext.trans EX.out EK)
  clear EK E0
  obtain ⟨A00, A01, A0l⟩ := Box.cells2 A0.out
  obtain ⟨A10, A11, A1l⟩ := Box.cells2 A1.out
  obtain ⟨X0B0, X0B1, X0Bl⟩ := Box.cells2 X0B.out
  obtain ⟨X1B0, X1B1, X1Bl⟩ := Box.cells2 X1B.out
  go_wp2_with fail
  clear A00 A01 A0l A10 A11 A1l X0B0 X0B1 X0Bl X1B0 X1B1 X1Bl
  obtain ⟨A00, A01, A0l⟩ := Box.cells2 A0.out
  obtain ⟨A10, A11, A1l⟩ := Box.cells2 A1.out
  obtain ⟨X0B0, X0B1, X0Bl⟩ := Box.cells2 X0B.out
  obtain ⟨X1B0, X1B1, X1Bl⟩ := Box.cells2 X1B.out
  go_region_held3 (fun w' => (w'.cell? ⟨w.heap.size, 0, none⟩ = some (.slice a0 n0 c0) ∧ w'.cell? ⟨w.heap.size, 1, none⟩ = some (.slice b0 m0 d0)) ∧ (w'.cell? ⟨w4.heap.size, 0, none⟩ = some (.slice (some ⟨X0b, 0, none⟩) n0 n0) ∧ w'.cell? ⟨w4.heap.size, 1, none⟩ = some (.slice (some ⟨X0d, 0, none⟩) m0 m0)))
    (first | (refine keep_of (c := w6) (S := fun w' => (w'.cell? ⟨w.heap.size, 0, none⟩ = some (.slice a0 n0 c0) ∧ w'.cell? ⟨w.heap.size, 1, none⟩ = some (.slice b0 m0 d0)) ∧ (w'.cell? ⟨w4.heap.size, 0, none⟩ = some (.slice (some ⟨X0b, 0, none⟩) n0 n0) ∧ w'.cell? ⟨w4.heap.size, 1, none⟩ = some (.slice (some ⟨X0d, 0, none⟩) m0 m0))) (fun u hu => ⟨⟨Box.cell (Box.ext A0.out hu) 0, Box.cell (Box.ext A0.out hu) 1⟩, ⟨Box.cell (Box.ext X0B.out hu) 0, Box.cell (Box.ext X0B.out hu) 1⟩⟩) ?_; (repeat with_reducible (first | exact Ext.refl _ | exact ext_alloc _ _ | refine Ext.trans ?_ EC | refine Ext.trans ?_ ED0 | refine Ext.trans ?_ ED1 | refine Ext.drewN ?_ _ | refine Ext.drew1 ?_ | refine Ext.alloc ?_ _))))
    (first | (go_at_call 42; with_reducible refine (toWaves_any _ _ _ _ _ _ z0 y0 _ (IsRowF.ext Rw0.out (Ext.trans EX.out (by (repeat with_reducible (first | exact Ext.refl _ | exact ext_alloc _ _ | refine Ext.trans ?_ EC | refine Ext.trans ?_ ED0 | refine Ext.trans ?_ ED1 | refine Ext.drewN ?_ _ | refine Ext.drew1 ?_ | refine Ext.alloc ?_ _))))) (IsRowF.ext Rv0.out (Ext.trans EX.out (by (repeat with_reducible (first | exact Ext.refl _ | exact ext_alloc _ _ | refine Ext.trans ?_ EC | refine Ext.trans ?_ ED0 | refine Ext.trans ?_ ED1 | refine Ext.drewN ?_ _ | refine Ext.drew1 ?_ | refine Ext.alloc ?_ _))))) hn0 hm0).mono ?_; rintro e wD0 ⟨YYb, YYd, rfl, YYF, YYG, YYN, ED0⟩) | (go_at_call 37; refine (eqWaves_yes _ _ _ _ _ _ _ _ _ _ _ _ _ _ _ (own_hold (Own.ext X0F_.out (by (repeat with_reducible (first | exact Ext.refl _ | exact ext_alloc _ _ | refine Ext.trans ?_ EC | refine Ext.trans ?_ ED0 | refine Ext.trans ?_ ED1 | refine Ext.drewN ?_ _ | refine Ext.drew1 ?_ | refine Ext.alloc ?_ _))))) (own_hold (Own.ext X0G_.out (by (repeat with_reducible (first | exact Ext.refl _ | exact ext_alloc _ _ | refine Ext.trans ?_ EC | refine Ext.trans ?_ ED0 | refine Ext.trans ?_ ED1 | refine Ext.drewN ?_ _ | refine Ext.drew1 ?_ | refine Ext.alloc ?_ _))))) (own_hold YYF) (own_hold YYG) hn0 hm0 rfl rfl).mono ?_; rintro e wC ⟨rfl, EC⟩))
  clear A00 A01 A0l A10 A11 A1l X0B0 X0B1 X0Bl X1B0 X1B1 X1Bl
  have EK : Ext w6 wC := by (repeat with_reducible (first | exact Ext.refl _ | exact ext_alloc _ _ | refine Ext.trans ?_ EC | refine Ext.trans ?_ ED0 | refine Ext.trans ?_ ED1 | refine Ext.drewN ?_ _ | refine Ext.drew1 ?_ | refine Ext.alloc ?_ _))
  obtain ⟨w7, hwS⟩ : ∃ u, u = wC := ⟨_, rfl⟩
  subst hwS
  have Z7 := hid (show w6.heap.size ≤ w7.heap.size from Ext.size EK)
  clear ED0 EC YYF YYG YYN
  clear X0B
  clear X0F_ X0F_I
  clear X0G_ X0G_I
  clear A0
  replace A1 := hid (Box.ext A1.out EK)
  replace X1B := hid (Box.ext X1B.out EK)
  replace X1F_ := hid (Own.ext X1F_.out EK)
  replace X1G_ := hid (Own.ext X1G_.out EK)
  replace EX := hid (Ext.trans EX.out EK)
  clear EK
  obtain ⟨A10, A11, A1l⟩ := Box.cells2 A1.out
  obtain ⟨X1B0, X1B1, X1Bl⟩ := Box.cells2 X1B.out
  go_wp2_with fail
  clear A10 A11 A1l X1B0 X1B1 X1Bl
  obtain ⟨A10, A11, A1l⟩ := Box.cells2 A1.out
  obtain ⟨X1B0, X1B1, X1Bl⟩ := Box.cells2 X1B.out
  go_region_held3 (fun w' => (w'.cell? ⟨w.heap.size + 1, 0, none⟩ = some (.slice a1 n1 c1) ∧ w'.cell? ⟨w.heap.size + 1, 1, none⟩ = some (.slice b1 m1 d1)) ∧ (w'.cell? ⟨w5.heap.size, 0, none⟩ = some (.slice (some ⟨X1b, 0, none⟩) n1 n1) ∧ w'.cell? ⟨w5.heap.size, 1, none⟩ = some (.slice (some ⟨X1d, 0, none⟩) m1 m1)))
    (first | (refine keep_of (c := w7) (S := fun w' => (w'.cell? ⟨w.heap.size + 1, 0, none⟩ = some (.slice a1 n1 c1) ∧ w'.cell? ⟨w.heap.size + 1, 1, none⟩ = some (.slice b1 m1 d1)) ∧ (w'.cell? ⟨w5.heap.size, 0, none⟩ = some (.slice (some ⟨X1b, 0, none⟩) n1 n1) ∧ w'.cell? ⟨w5.heap.size, 1, none⟩ = some (.slice (some ⟨X1d, 0, none⟩) m1 m1))) (fun u hu => ⟨⟨Box.cell (Box.ext A1.out hu) 0, Box.cell (Box.ext A1.out hu) 1⟩, ⟨Box.cell (Box.ext X1B.out hu) 0, Box.cell (Box.ext X1B.out hu) 1⟩⟩) ?_; (repeat with_reducible (first | exact Ext.refl _ | exact ext_alloc _ _ | refine Ext.trans ?_ EC | refine Ext.trans ?_ ED0 | refine Ext.trans ?_ ED1 | refine Ext.drewN ?_ _ | refine Ext.drew1 ?_ | refine Ext.alloc ?_ _))))
    (first | (go_at_call 42; with_reducible refine (toWaves_any _ _ _ _ _ _ z1 y1 _ (IsRowF.ext Rw1.out (Ext.trans EX.out (by (repeat with_reducible (first | exact Ext.refl _ | exact ext_alloc _ _ | refine Ext.trans ?_ EC | refine Ext.trans ?_ ED0 | refine Ext.trans ?_ ED1 | refine Ext.drewN ?_ _ | refine Ext.drew1 ?_ | refine Ext.alloc ?_ _))))) (IsRowF.ext Rv1.out (Ext.trans EX.out (by (repeat with_reducible (first | exact Ext.refl _ | exact ext_alloc _ _ | refine Ext.trans ?_ EC | refine Ext.trans ?_ ED0 | refine Ext.trans ?_ ED1 | refine Ext.drewN ?_ _ | refine Ext.drew1 ?_ | refine Ext.alloc ?_ _))))) hn1 hm1).mono ?_; rintro e wD1 ⟨YYb, YYd, rfl, YYF, YYG, YYN, ED1⟩) | (go_at_call 37; refine (eqWaves_yes _ _ _ _ _ _ _ _ _ _ _ _ _ _ _ (own_hold (Own.ext X1F_.out (by (repeat with_reducible (first | exact Ext.refl _ | exact ext_alloc _ _ | refine Ext.trans ?_ EC | refine Ext.trans ?_ ED0 | refine Ext.trans ?_ ED1 | refine Ext.drewN ?_ _ | refine Ext.drew1 ?_ | refine Ext.alloc ?_ _))))) (own_hold (Own.ext X1G_.out (by (repeat with_reducible (first | exact Ext.refl _ | exact ext_alloc _ _ | refine Ext.trans ?_ EC | refine Ext.trans ?_ ED0 | refine Ext.trans ?_ ED1 | refine Ext.drewN ?_ _ | refine Ext.drew1 ?_ | refine Ext.alloc ?_ _))))) (own_hold YYF) (own_hold YYG) hn1 hm1 rfl rfl).mono ?_; rintro e wC ⟨rfl, EC⟩))
  clear A10 A11 A1l X1B0 X1B1 X1Bl
  have EK : Ext w7 wC := by (repeat with_reducible (first | exact Ext.refl _ | exact ext_alloc _ _ | refine Ext.trans ?_ EC | refine Ext.trans ?_ ED0 | refine Ext.trans ?_ ED1 | refine Ext.drewN ?_ _ | refine Ext.drew1 ?_ | refine Ext.alloc ?_ _))
  obtain ⟨w8, hwS⟩ : ∃ u, u = wC := ⟨_, rfl⟩
  subst hwS
  have Z8 := hid (show w7.heap.size ≤ w8.heap.size from Ext.size EK)
  clear ED1 EC YYF YYG YYN
  clear X1B
  clear X1F_ X1F_I
  clear X1G_ X1G_I
  clear A1
  replace EX := hid (Ext.trans EX.out EK)
  clear EK
  go_wp2
  go_ret
  exact ⟨rfl, EX.out⟩
end Go.Proofs.Ytogjehlepdapoab
