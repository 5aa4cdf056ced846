/- The law on sums of waves. -/
import Derived.Test.YtnmigjiaeahekaaT18
import Derived.Test.YtnmigjiaeahekaaT24
import Derived.Deep.RegionHeld3
import Derived.Deep.DeepCutAuto
namespace Go.Proofs.Ytnmigjiaeahekaa
open Go.RowKit Flt
set_option linter.unusedVariables false

set_option maxHeartbeats 8000000 in
set_option maxRecDepth 100000 in
theorem FnExactAddWaves_walk (a0 : Option Addr) (n0 c0 : Nat) (z0 : List Nat) (l0 t0 p0 : Nat) (a1 : Option Addr) (n1 c1 : Nat) (z1 : List Nat) (b1 : Option Addr) (m1 d1 : Nat) (y1 : List Nat) (a2 : Option Addr) (n2 c2 : Nat) (z2 : List Nat) (b2 : Option Addr) (m2 d2 : Nat) (y2 : List Nat) (w : World) (w0 : IsRowF .f32 w a0 n0 c0 z0) (wl0 : (Lit.float .f32 l0).wf = true) (wt0 : (Lit.float .f32 t0).wf = true) (wp0 : (Lit.float .f32 p0).wf = true) (w1 : IsRowF .f32 w a1 n1 c1 z1) (v1 : IsRowF .f32 w b1 m1 d1 y1) (w2 : IsRowF .f32 w a2 n2 c2 z2) (v2 : IsRowF .f32 w b2 m2 d2 y2) :
    Calls Try.prog 7 #[.agg #[.slice a0 n0 c0, .float .f32 l0, .float .f32 t0, .float .f32 p0], .agg #[.slice a1 n1 c1, .slice b1 m1 d1], .agg #[.slice a2 n2 c2, .slice b2 m2 d2]] w fun e w' => e = .returned (.bool true) ∧ Below w.heap.size w w' := by
  have hmxn0 : n0 ≤ maxLen := row_max w0
  have hmxn1 : n1 ≤ maxLen := row_max w1
  have hmxm1 : m1 ≤ maxLen := row_max v1
  have hmxn2 : n2 ≤ maxLen := row_max w2
  have hmxm2 : m2 ≤ maxLen := row_max v2
  by_cases hb0 : (1048576 : Int) < n0
  · clear wl0 wt0 wp0
    go_enter Try.func7, Try.ntmps7
    go_wp2_with fail
    refine (szTube_no _ _ _ _ _ _ _ hmxn0 (by omega) (by omega) _).mono ?_
    rintro e w1 ⟨rfl, E0⟩
    have EX := hid (Ext.trans (Ext.alloc (Ext.alloc (ext_alloc _ _) _) _) E0)
    have A0 := hid (Box.ext (Box.alloc (Box.alloc (box_new (w := w) #[.slice a0 n0 c0, .float .f32 l0, .float .f32 t0, .float .f32 p0] 25) _) _) E0)
    have A1 := hid (Box.cast (b' := w.heap.size + 1) (Box.ext (Box.alloc (box_new (w := (w.alloc (.cells #[.slice a0 n0 c0, .float .f32 l0, .float .f32 t0, .float .f32 p0] 25))) #[.slice a1 n1 c1, .slice b1 m1 d1] 41) _) E0) (by simp))
    have A2 := hid (Box.cast (b' := w.heap.size + 1 + 1) (Box.ext (box_new (w := ((w.alloc (.cells #[.slice a0 n0 c0, .float .f32 l0, .float .f32 t0, .float .f32 p0] 25)).alloc (.cells #[.slice a1 n1 c1, .slice b1 m1 d1] 41))) #[.slice a2 n2 c2, .slice b2 m2 d2] 41) E0) (by simp))
    have Z1 := hid (show w.heap.size + 1 + 1 + 1 ≤ w1.heap.size from by have := Ext.size E0; simpa using this)
    clear E0
    go_wp2
    go_ret
    exact ⟨rfl, EX.out⟩
  have hg0 : ¬ ((1048576 : Int) - (n0 : Int) < 0) := by omega
  by_cases hb1 : (1048576 : Int) - n0 < n1
  · clear wl0 wt0 wp0
    go_enter Try.func7, Try.ntmps7
    go_wp2_with fail
    refine (szTube_yes _ _ _ _ _ _ _ (by omega) (by omega) _).mono ?_
    rintro e w1 ⟨rfl, E0⟩
    have EX := hid (Ext.trans (Ext.alloc (Ext.alloc (ext_alloc _ _) _) _) E0)
    have A0 := hid (Box.ext (Box.alloc (Box.alloc (box_new (w := w) #[.slice a0 n0 c0, .float .f32 l0, .float .f32 t0, .float .f32 p0] 25) _) _) E0)
    have A1 := hid (Box.cast (b' := w.heap.size + 1) (Box.ext (Box.alloc (box_new (w := (w.alloc (.cells #[.slice a0 n0 c0, .float .f32 l0, .float .f32 t0, .float .f32 p0] 25))) #[.slice a1 n1 c1, .slice b1 m1 d1] 41) _) E0) (by simp))
    have A2 := hid (Box.cast (b' := w.heap.size + 1 + 1) (Box.ext (box_new (w := ((w.alloc (.cells #[.slice a0 n0 c0, .float .f32 l0, .float .f32 t0, .float .f32 p0] 25)).alloc (.cells #[.slice a1 n1 c1, .slice b1 m1 d1] 41))) #[.slice a2 n2 c2, .slice b2 m2 d2] 41) E0) (by simp))
    have Z1 := hid (show w.heap.size + 1 + 1 + 1 ≤ w1.heap.size from by have := Ext.size E0; simpa using this)
    clear E0
    obtain ⟨A00, A01, A02, A03, A0l⟩ := Box.cells4 A0.out
    obtain ⟨A10, A11, A1l⟩ := Box.cells2 A1.out
    obtain ⟨A20, A21, A2l⟩ := Box.cells2 A2.out
    go_wp2_with fail
    refine (szWaves_no1 _ _ _ _ _ _ _ hmxn1 (by omega) (by omega) _).mono ?_
    rintro e w2 ⟨rfl, E0⟩
    clear A00 A01 A02 A03 A0l A10 A11 A1l A20 A21 A2l
    have EK := E0
    have Z2 := hid (show w1.heap.size ≤ w2.heap.size from Ext.size E0)
    replace A0 := hid (Box.ext A0.out EK)
    replace A1 := hid (Box.ext A1.out EK)
    replace A2 := hid (Box.ext A2.out EK)
    replace EX := hid (Ext.trans EX.out EK)
    clear EK E0
    go_wp2
    go_ret
    exact ⟨rfl, EX.out⟩
  by_cases hb2 : (1048576 : Int) - n0 - n1 < m1
  · clear wl0 wt0 wp0
    go_enter Try.func7, Try.ntmps7
    go_wp2_with fail
    refine (szTube_yes _ _ _ _ _ _ _ (by omega) (by omega) _).mono ?_
    rintro e w1 ⟨rfl, E0⟩
    have EX := hid (Ext.trans (Ext.alloc (Ext.alloc (ext_alloc _ _) _) _) E0)
    have A0 := hid (Box.ext (Box.alloc (Box.alloc (box_new (w := w) #[.slice a0 n0 c0, .float .f32 l0, .float .f32 t0, .float .f32 p0] 25) _) _) E0)
    have A1 := hid (Box.cast (b' := w.heap.size + 1) (Box.ext (Box.alloc (box_new (w := (w.alloc (.cells #[.slice a0 n0 c0, .float .f32 l0, .float .f32 t0, .float .f32 p0] 25))) #[.slice a1 n1 c1, .slice b1 m1 d1] 41) _) E0) (by simp))
    have A2 := hid (Box.cast (b' := w.heap.size + 1 + 1) (Box.ext (box_new (w := ((w.alloc (.cells #[.slice a0 n0 c0, .float .f32 l0, .float .f32 t0, .float .f32 p0] 25)).alloc (.cells #[.slice a1 n1 c1, .slice b1 m1 d1] 41))) #[.slice a2 n2 c2, .slice b2 m2 d2] 41) E0) (by simp))
    have Z1 := hid (show w.heap.size + 1 + 1 + 1 ≤ w1.heap.size from by have := Ext.size E0; simpa using this)
    clear E0
    obtain ⟨A00, A01, A02, A03, A0l⟩ := Box.cells4 A0.out
    obtain ⟨A10, A11, A1l⟩ := Box.cells2 A1.out
    obtain ⟨A20, A21, A2l⟩ := Box.cells2 A2.out
    go_wp2_with fail
    refine (szWaves_no2 _ _ _ _ _ _ _ hmxm1 (by omega) (by omega) (by omega) _).mono ?_
    rintro e w2 ⟨rfl, E0⟩
    clear A00 A01 A02 A03 A0l A10 A11 A1l A20 A21 A2l
    have EK := E0
    have Z2 := hid (show w1.heap.size ≤ w2.heap.size from Ext.size E0)
    replace A0 := hid (Box.ext A0.out EK)
    replace A1 := hid (Box.ext A1.out EK)
    replace A2 := hid (Box.ext A2.out EK)
    replace EX := hid (Ext.trans EX.out EK)
    clear EK E0
    go_wp2
    go_ret
    exact ⟨rfl, EX.out⟩
  have hg1 : ¬ ((1048576 : Int) - (n0 : Int) - (n1 : Int) - (m1 : Int) < 0) := by omega
  by_cases hb3 : (1048576 : Int) - n0 - n1 - m1 < n2
  · clear wl0 wt0 wp0
    go_enter Try.func7, Try.ntmps7
    go_wp2_with fail
    refine (szTube_yes _ _ _ _ _ _ _ (by omega) (by omega) _).mono ?_
    rintro e w1 ⟨rfl, E0⟩
    have EX := hid (Ext.trans (Ext.alloc (Ext.alloc (ext_alloc _ _) _) _) E0)
    have A0 := hid (Box.ext (Box.alloc (Box.alloc (box_new (w := w) #[.slice a0 n0 c0, .float .f32 l0, .float .f32 t0, .float .f32 p0] 25) _) _) E0)
    have A1 := hid (Box.cast (b' := w.heap.size + 1) (Box.ext (Box.alloc (box_new (w := (w.alloc (.cells #[.slice a0 n0 c0, .float .f32 l0, .float .f32 t0, .float .f32 p0] 25))) #[.slice a1 n1 c1, .slice b1 m1 d1] 41) _) E0) (by simp))
    have A2 := hid (Box.cast (b' := w.heap.size + 1 + 1) (Box.ext (box_new (w := ((w.alloc (.cells #[.slice a0 n0 c0, .float .f32 l0, .float .f32 t0, .float .f32 p0] 25)).alloc (.cells #[.slice a1 n1 c1, .slice b1 m1 d1] 41))) #[.slice a2 n2 c2, .slice b2 m2 d2] 41) E0) (by simp))
    have Z1 := hid (show w.heap.size + 1 + 1 + 1 ≤ w1.heap.size from by have := Ext.size E0; simpa using this)
    clear E0
    obtain ⟨A00, A01, A02, A03, A0l⟩ := Box.cells4 A0.out
    obtain ⟨A10, A11, A1l⟩ := Box.cells2 A1.out
    obtain ⟨A20, A21, A2l⟩ := Box.cells2 A2.out
    go_wp2_with fail
    refine (szWaves_yes _ _ _ _ _ _ _ (by omega) (by omega) _).mono ?_
    rintro e w2 ⟨rfl, E0⟩
    clear A00 A01 A02 A03 A0l A10 A11 A1l A20 A21 A2l
    have EK := E0
    have Z2 := hid (show w1.heap.size ≤ w2.heap.size from Ext.size E0)
    replace A0 := hid (Box.ext A0.out EK)
    replace A1 := hid (Box.ext A1.out EK)
    replace A2 := hid (Box.ext A2.out EK)
    replace EX := hid (Ext.trans EX.out EK)
    clear EK E0
    obtain ⟨A00, A01, A02, A03, A0l⟩ := Box.cells4 A0.out
    obtain ⟨A10, A11, A1l⟩ := Box.cells2 A1.out
    obtain ⟨A20, A21, A2l⟩ := Box.cells2 A2.out
    go_wp2_with fail
    refine (szWaves_no1 _ _ _ _ _ _ _ hmxn2 (by omega) (by omega) _).mono ?_
    rintro e w3 ⟨rfl, E0⟩
    clear A00 A01 A02 A03 A0l A10 A11 A1l A20 A21 A2l
    have EK := E0
    have Z3 := hid (show w2.heap.size ≤ w3.heap.size from Ext.size E0)
    replace A0 := hid (Box.ext A0.out EK)
    replace A1 := hid (Box.ext A1.out EK)
    replace A2 := hid (Box.ext A2.out EK)
    replace EX := hid (Ext.trans EX.out EK)
    clear EK E0
    go_wp2
    go_ret
    exact ⟨rfl, EX.out⟩
  by_cases hb4 : (1048576 : Int) - n0 - n1 - m1 - n2 < m2
  · clear wl0 wt0 wp0
    go_enter Try.func7, Try.ntmps7
    go_wp2_with fail
    refine (szTube_yes _ _ _ _ _ _ _ (by omega) (by omega) _).mono ?_
    rintro e w1 ⟨rfl, E0⟩
    have EX := hid (Ext.trans (Ext.alloc (Ext.alloc (ext_alloc _ _) _) _) E0)
    have A0 := hid (Box.ext (Box.alloc (Box.alloc (box_new (w := w) #[.slice a0 n0 c0, .float .f32 l0, .float .f32 t0, .float .f32 p0] 25) _) _) E0)
    have A1 := hid (Box.cast (b' := w.heap.size + 1) (Box.ext (Box.alloc (box_new (w := (w.alloc (.cells #[.slice a0 n0 c0, .float .f32 l0, .float .f32 t0, .float .f32 p0] 25))) #[.slice a1 n1 c1, .slice b1 m1 d1] 41) _) E0) (by simp))
    have A2 := hid (Box.cast (b' := w.heap.size + 1 + 1) (Box.ext (box_new (w := ((w.alloc (.cells #[.slice a0 n0 c0, .float .f32 l0, .float .f32 t0, .float .f32 p0] 25)).alloc (.cells #[.slice a1 n1 c1, .slice b1 m1 d1] 41))) #[.slice a2 n2 c2, .slice b2 m2 d2] 41) E0) (by simp))
    have Z1 := hid (show w.heap.size + 1 + 1 + 1 ≤ w1.heap.size from by have := Ext.size E0; simpa using this)
    clear E0
    obtain ⟨A00, A01, A02, A03, A0l⟩ := Box.cells4 A0.out
    obtain ⟨A10, A11, A1l⟩ := Box.cells2 A1.out
    obtain ⟨A20, A21, A2l⟩ := Box.cells2 A2.out
    go_wp2_with fail
    refine (szWaves_yes _ _ _ _ _ _ _ (by omega) (by omega) _).mono ?_
    rintro e w2 ⟨rfl, E0⟩
    clear A00 A01 A02 A03 A0l A10 A11 A1l A20 A21 A2l
    have EK := E0
    have Z2 := hid (show w1.heap.size ≤ w2.heap.size from Ext.size E0)
    replace A0 := hid (Box.ext A0.out EK)
    replace A1 := hid (Box.ext A1.out EK)
    replace A2 := hid (Box.ext A2.out EK)
    replace EX := hid (Ext.trans EX.out EK)
    clear EK E0
    obtain ⟨A00, A01, A02, A03, A0l⟩ := Box.cells4 A0.out
    obtain ⟨A10, A11, A1l⟩ := Box.cells2 A1.out
    obtain ⟨A20, A21, A2l⟩ := Box.cells2 A2.out
    go_wp2_with fail
    refine (szWaves_no2 _ _ _ _ _ _ _ hmxm2 (by omega) (by omega) (by omega) _).mono ?_
    rintro e w3 ⟨rfl, E0⟩
    clear A00 A01 A02 A03 A0l A10 A11 A1l A20 A21 A2l
    have EK := E0
    have Z3 := hid (show w2.heap.size ≤ w3.heap.size from Ext.size E0)
    replace A0 := hid (Box.ext A0.out EK)
    replace A1 := hid (Box.ext A1.out EK)
    replace A2 := hid (Box.ext A2.out EK)
    replace EX := hid (Ext.trans EX.out EK)
    clear EK E0
    go_wp2
    go_ret
    exact ⟨rfl, EX.out⟩
  have hg2 : ¬ ((1048576 : Int) - (n0 : Int) - (n1 : Int) - (m1 : Int) - (n2 : Int) - (m2 : Int) < 0) := by omega
  have hn0 : n0 ≤ 1048576 := by omega
  have hn1 : n1 ≤ 1048576 := by omega
  have hm1 : m1 ≤ 1048576 := by omega
  have hn2 : n2 ≤ 1048576 := by omega
  have hm2 : m2 ≤ 1048576 := by omega
  have hacc0 : ¬ (1 + (n0 : Int) < 0) := by omega
  have hacc1 : ¬ (1 + (n0 : Int) + (n1 : Int) + (m1 : Int) < 0) := by omega
  have hacc2 : ¬ (1 + (n0 : Int) + (n1 : Int) + (m1 : Int) + (n2 : Int) + (m2 : Int) < 0) := by omega
  have Rw0 := hid w0
  have Rw1 := hid w1
  have Rv1 := hid v1
  have Rw2 := hid w2
  have Rv2 := hid v2
  obtain ⟨R, hR⟩ : ∃ R, addW (z0.take n0) (cls .f32 l0) (cls .f32 t0) (cls .f32 p0) (z1.take n1) (y1.take m1) (z2.take n2) (y2.take m2) = R := ⟨_, rfl⟩
  have HR := hid hR
  have hL0_0 : R.r.length ≤ 1048576 := by have := (addW_len (z0.take n0) (cls .f32 l0) (cls .f32 t0) (cls .f32 p0) (z1.take n1) (y1.take m1) (z2.take n2) (y2.take m2)).1; rw [hR] at this; omega
  have hL0_1 : R.l.length ≤ 1048576 := by have := (addW_len (z0.take n0) (cls .f32 l0) (cls .f32 t0) (cls .f32 p0) (z1.take n1) (y1.take m1) (z2.take n2) (y2.take m2)).2; rw [hR] at this; omega
  clear hR
  clear w0 w1 v1 w2 v2 hmxn0 hmxn1 hmxm1 hmxn2 hmxm2 hb0 hb1 hb2 hb3 hb4 wl0 wt0 wp0
  have hr0 : ¬ (1 + (R.r.length : Int) < 0) := by omega
  have hr1 : ¬ (1 + (R.r.length : Int) + (R.l.length : Int) < 0) := by omega
  go_enter Try.func7, Try.ntmps7
  go_wp2_with fail
  refine (szTube_yes _ _ _ _ _ _ _ (by omega) (by omega) _).mono ?_
  rintro e w1 ⟨rfl, E0⟩
  have EX := hid (Ext.trans (Ext.alloc (Ext.alloc (ext_alloc _ _) _) _) E0)
  have A0 := hid (Box.ext (Box.alloc (Box.alloc (box_new (w := w) #[.slice a0 n0 c0, .float .f32 l0, .float .f32 t0, .float .f32 p0] 25) _) _) E0)
  have A1 := hid (Box.cast (b' := w.heap.size + 1) (Box.ext (Box.alloc (box_new (w := (w.alloc (.cells #[.slice a0 n0 c0, .float .f32 l0, .float .f32 t0, .float .f32 p0] 25))) #[.slice a1 n1 c1, .slice b1 m1 d1] 41) _) E0) (by simp))
  have A2 := hid (Box.cast (b' := w.heap.size + 1 + 1) (Box.ext (box_new (w := ((w.alloc (.cells #[.slice a0 n0 c0, .float .f32 l0, .float .f32 t0, .float .f32 p0] 25)).alloc (.cells #[.slice a1 n1 c1, .slice b1 m1 d1] 41))) #[.slice a2 n2 c2, .slice b2 m2 d2] 41) E0) (by simp))
  have Z1 := hid (show w.heap.size + 1 + 1 + 1 ≤ w1.heap.size from by have := Ext.size E0; simpa using this)
  clear E0
  obtain ⟨A00, A01, A02, A03, A0l⟩ := Box.cells4 A0.out
  obtain ⟨A10, A11, A1l⟩ := Box.cells2 A1.out
  obtain ⟨A20, A21, A2l⟩ := Box.cells2 A2.out
  go_wp2_with fail
  refine (szWaves_yes _ _ _ _ _ _ _ (by omega) (by omega) _).mono ?_
  rintro e w2 ⟨rfl, E0⟩
  clear A00 A01 A02 A03 A0l A10 A11 A1l A20 A21 A2l
  have EK := E0
  have Z2 := hid (show w1.heap.size ≤ w2.heap.size from Ext.size E0)
  replace A0 := hid (Box.ext A0.out EK)
  replace A1 := hid (Box.ext A1.out EK)
  replace A2 := hid (Box.ext A2.out EK)
  replace EX := hid (Ext.trans EX.out EK)
  clear EK E0
  obtain ⟨A00, A01, A02, A03, A0l⟩ := Box.cells4 A0.out
  obtain ⟨A10, A11, A1l⟩ := Box.cells2 A1.out
  obtain ⟨A20, A21, A2l⟩ := Box.cells2 A2.out
  go_wp2_with fail
  refine (szWaves_yes _ _ _ _ _ _ _ (by omega) (by omega) _).mono ?_
  rintro e w3 ⟨rfl, E0⟩
  clear A00 A01 A02 A03 A0l A10 A11 A1l A20 A21 A2l
  have EK := E0
  have Z3 := hid (show w2.heap.size ≤ w3.heap.size from Ext.size E0)
  replace A0 := hid (Box.ext A0.out EK)
  replace A1 := hid (Box.ext A1.out EK)
  replace A2 := hid (Box.ext A2.out EK)
  replace EX := hid (Ext.trans EX.out EK)
  clear EK E0
  obtain ⟨A00, A01, A02, A03, A0l⟩ := Box.cells4 A0.out
  obtain ⟨A10, A11, A1l⟩ := Box.cells2 A1.out
  obtain ⟨A20, A21, A2l⟩ := Box.cells2 A2.out
  clear A00 A01 A02 A03 A0l A10 A11 A1l A20 A21 A2l
  obtain ⟨A00, A01, A02, A03, A0l⟩ := Box.cells4 A0.out
  obtain ⟨A10, A11, A1l⟩ := Box.cells2 A1.out
  obtain ⟨A20, A21, A2l⟩ := Box.cells2 A2.out
  go_upto_region 11 with (fail)
  go_cut [8, 9] (fun s8 s9 wx => ∃ (S0k : Nat), ∃ (S0a : Option Addr), ∃ (S0c : Nat), ∃ (S0b : Option Addr), ∃ (S0d : Nat), ∃ (S0z : List Nat), ∃ (S0y : List Nat), s8 = .pointer (some ⟨S0k, 0, none⟩) ∧ s9 = .bool R.ok ∧ Hid (Box wx S0k #[.slice S0a R.r.length S0c, .slice S0b R.l.length S0d]) ∧ Hid (w3.heap.size ≤ S0k) ∧ Hid (Own wx w3.heap.size R.r.length (.slice S0a R.r.length S0c) S0z) ∧ Hid (Own wx w3.heap.size R.l.length (.slice S0b R.l.length S0d) S0y) ∧ Hid (S0z.map (cls .f32) = R.r) ∧ Hid (S0y.map (cls .f32) = R.l) ∧ Hid (∀ k, (Value.slice S0a R.r.length S0c).ownBlock = some k → (Value.slice S0b R.l.length S0d).ownBlock ≠ some k) ∧ Ext w3 wx)
  case first =>
    go_region_held3 (fun w' => (w'.cell? ⟨w.heap.size, 0, none⟩ = some (.slice a0 n0 c0) ∧ w'.cell? ⟨w.heap.size, 1, none⟩ = some (.float .f32 l0) ∧ w'.cell? ⟨w.heap.size, 2, none⟩ = some (.float .f32 t0) ∧ w'.cell? ⟨w.heap.size, 3, none⟩ = some (.float .f32 p0)) ∧ (w'.cell? ⟨w.heap.size + 1, 0, none⟩ = some (.slice a1 n1 c1) ∧ w'.cell? ⟨w.heap.size + 1, 1, none⟩ = some (.slice b1 m1 d1)) ∧ (w'.cell? ⟨w.heap.size + 1 + 1, 0, none⟩ = some (.slice a2 n2 c2) ∧ w'.cell? ⟨w.heap.size + 1 + 1, 1, none⟩ = some (.slice b2 m2 d2)))
      (first | (refine keep_of (c := w3) (S := fun w' => (w'.cell? ⟨w.heap.size, 0, none⟩ = some (.slice a0 n0 c0) ∧ w'.cell? ⟨w.heap.size, 1, none⟩ = some (.float .f32 l0) ∧ w'.cell? ⟨w.heap.size, 2, none⟩ = some (.float .f32 t0) ∧ w'.cell? ⟨w.heap.size, 3, none⟩ = some (.float .f32 p0)) ∧ (w'.cell? ⟨w.heap.size + 1, 0, none⟩ = some (.slice a1 n1 c1) ∧ w'.cell? ⟨w.heap.size + 1, 1, none⟩ = some (.slice b1 m1 d1)) ∧ (w'.cell? ⟨w.heap.size + 1 + 1, 0, none⟩ = some (.slice a2 n2 c2) ∧ w'.cell? ⟨w.heap.size + 1 + 1, 1, none⟩ = some (.slice b2 m2 d2))) (fun u hu => ⟨⟨Box.cell (Box.ext A0.out hu) 0, Box.cell (Box.ext A0.out hu) 1, Box.cell (Box.ext A0.out hu) 2, Box.cell (Box.ext A0.out hu) 3⟩, ⟨Box.cell (Box.ext A1.out hu) 0, Box.cell (Box.ext A1.out hu) 1⟩, ⟨Box.cell (Box.ext A2.out hu) 0, Box.cell (Box.ext A2.out hu) 1⟩⟩) ?_; ((repeat with_reducible (first | exact Ext.refl _ | exact ext_alloc _ _ | refine Ext.trans ?_ EC | refine Ext.trans ?_ ED0 | refine Ext.trans ?_ ED1 | refine Ext.trans ?_ ED2 | refine Ext.drewN ?_ _ | refine Ext.drew1 ?_ | refine Ext.alloc ?_ _ | refine Ext.set ?_ ?_ _)); all_goals ((have s0 := Ext.size ED0; have s1 := Ext.size ED1; have s2 := Ext.size ED2; have sC := Ext.size EC; (try simp at s0); (try simp at s1); (try simp at s2); (try simp at sC); (first | omega | (simp; omega) | (simp; done)))))))
      (first | (go_at_call 17; with_reducible refine (toTube_any _ _ _ _ _ _ z0 _ (IsRowF.ext Rw0.out (Ext.trans EX.out (by (repeat with_reducible (first | exact Ext.refl _ | exact ext_alloc _ _ | refine Ext.trans ?_ EC | refine Ext.trans ?_ ED0 | refine Ext.trans ?_ ED1 | refine Ext.trans ?_ ED2 | refine Ext.drewN ?_ _ | refine Ext.drew1 ?_ | refine Ext.alloc ?_ _))))) hn0).mono ?_; rintro e wD0 ⟨Y0b, rfl, Y0F, ED0⟩) | (go_at_call 30; with_reducible refine (toWaves_any _ _ _ _ _ _ z1 y1 _ (IsRowF.ext Rw1.out (Ext.trans EX.out (by (repeat with_reducible (first | exact Ext.refl _ | exact ext_alloc _ _ | refine Ext.trans ?_ EC | refine Ext.trans ?_ ED0 | refine Ext.trans ?_ ED1 | refine Ext.trans ?_ ED2 | refine Ext.drewN ?_ _ | refine Ext.drew1 ?_ | refine Ext.alloc ?_ _))))) (IsRowF.ext Rv1.out (Ext.trans EX.out (by (repeat with_reducible (first | exact Ext.refl _ | exact ext_alloc _ _ | refine Ext.trans ?_ EC | refine Ext.trans ?_ ED0 | refine Ext.trans ?_ ED1 | refine Ext.trans ?_ ED2 | refine Ext.drewN ?_ _ | refine Ext.drew1 ?_ | refine Ext.alloc ?_ _))))) hn1 hm1).mono ?_; rintro e wD1 ⟨Y1b, Y1d, rfl, Y1F, Y1G, Y1N, ED1⟩) | (go_at_call 30; with_reducible refine (toWaves_any _ _ _ _ _ _ z2 y2 _ (IsRowF.ext Rw2.out (Ext.trans EX.out (by (repeat with_reducible (first | exact Ext.refl _ | exact ext_alloc _ _ | refine Ext.trans ?_ EC | refine Ext.trans ?_ ED0 | refine Ext.trans ?_ ED1 | refine Ext.trans ?_ ED2 | refine Ext.drewN ?_ _ | refine Ext.drew1 ?_ | refine Ext.alloc ?_ _))))) (IsRowF.ext Rv2.out (Ext.trans EX.out (by (repeat with_reducible (first | exact Ext.refl _ | exact ext_alloc _ _ | refine Ext.trans ?_ EC | refine Ext.trans ?_ ED0 | refine Ext.trans ?_ ED1 | refine Ext.trans ?_ ED2 | refine Ext.drewN ?_ _ | refine Ext.drew1 ?_ | refine Ext.alloc ?_ _))))) hn2 hm2).mono ?_; rintro e wD2 ⟨Y2b, Y2d, rfl, Y2F, Y2G, Y2N, ED2⟩) | (go_at_call 29; refine (sAdd_any _ _ _ _ _ _ _ _ _ _ _ _ _ _ _ _ _ _ (z0.take n0) (z1.take n1) (y1.take m1) (z2.take n2) (y2.take m2) R _ (own_hold (Own.ext Y0F (by (repeat with_reducible (first | exact Ext.refl _ | exact ext_alloc _ _ | refine Ext.trans ?_ EC | refine Ext.trans ?_ ED0 | refine Ext.trans ?_ ED1 | refine Ext.trans ?_ ED2 | refine Ext.drewN ?_ _ | refine Ext.drew1 ?_ | refine Ext.alloc ?_ _))))) (own_hold (Own.ext Y1F (by (repeat with_reducible (first | exact Ext.refl _ | exact ext_alloc _ _ | refine Ext.trans ?_ EC | refine Ext.trans ?_ ED0 | refine Ext.trans ?_ ED1 | refine Ext.trans ?_ ED2 | refine Ext.drewN ?_ _ | refine Ext.drew1 ?_ | refine Ext.alloc ?_ _))))) (own_hold (Own.ext Y1G (by (repeat with_reducible (first | exact Ext.refl _ | exact ext_alloc _ _ | refine Ext.trans ?_ EC | refine Ext.trans ?_ ED0 | refine Ext.trans ?_ ED1 | refine Ext.trans ?_ ED2 | refine Ext.drewN ?_ _ | refine Ext.drew1 ?_ | refine Ext.alloc ?_ _))))) (own_hold (Own.ext Y2F (by (repeat with_reducible (first | exact Ext.refl _ | exact ext_alloc _ _ | refine Ext.trans ?_ EC | refine Ext.trans ?_ ED0 | refine Ext.trans ?_ ED1 | refine Ext.trans ?_ ED2 | refine Ext.drewN ?_ _ | refine Ext.drew1 ?_ | refine Ext.alloc ?_ _))))) (own_hold (Own.ext Y2G (by (repeat with_reducible (first | exact Ext.refl _ | exact ext_alloc _ _ | refine Ext.trans ?_ EC | refine Ext.trans ?_ ED0 | refine Ext.trans ?_ ED1 | refine Ext.trans ?_ ED2 | refine Ext.drewN ?_ _ | refine Ext.drew1 ?_ | refine Ext.alloc ?_ _))))) hn0 hn1 hm1 hn2 hm2 HR.out).mono ?_; rintro e wC ⟨Sv0, rfl, ST0, EC⟩; obtain ⟨S0a, S0c, S0b, S0d, S0z, S0y, rfl, S0F, S0G, S0e, S0g, S0N⟩ := ST0; try (apply with_box (w' := wC) (vs := #[.slice none 0 0, .slice none 0 0]) (t := 43); (· (repeat with_reducible (first | exact Ext.refl _ | exact ext_alloc _ _ | refine Ext.trans ?_ EC | refine Ext.trans ?_ ED0 | refine Ext.trans ?_ ED1 | refine Ext.trans ?_ ED2 | refine Ext.drewN ?_ _ | refine Ext.drew1 ?_ | refine Ext.alloc ?_ _))); intro BN; obtain ⟨bn0, bn1, bf0, bf1, bnl⟩ := Box.all2 BN)))
    all_goals
      go_wp2_with fail
      go_meet
      refine ⟨_, S0a, S0c, S0b, S0d, S0z, S0y, rfl, rfl, ?_, ?_, ?_, ?_, ?_, ?_, ?_, ?_⟩
      · first | with_reducible exact hid (box_new _ _) | exact hid (box_set2 BN _ _ )
      · refine hid ?_
        ((have s0 := Ext.size ED0; have s1 := Ext.size ED1; have s2 := Ext.size ED2; have sC := Ext.size EC; (try simp at s0); (try simp at s1); (try simp at s2); (try simp at sC); (first | omega | (simp; omega) | (simp; done))))
      · refine hid ?_
        first | (with_reducible refine Own.base (Own.alloc S0F _) ?_; ((have s0 := Ext.size ED0; have s1 := Ext.size ED1; have s2 := Ext.size ED2; have sC := Ext.size EC; (try simp at s0); (try simp at s1); (try simp at s2); (try simp at sC); (first | omega | (simp; omega) | (simp; done))))) | (refine Own.base (own_far2 S0F ?_ _ _ ) ?_; all_goals ((have s0 := Ext.size ED0; have s1 := Ext.size ED1; have s2 := Ext.size ED2; have sC := Ext.size EC; (try simp at s0); (try simp at s1); (try simp at s2); (try simp at sC); (first | omega | (simp; omega) | (simp; done)))))
      · refine hid ?_
        first | (with_reducible refine Own.base (Own.alloc S0G _) ?_; ((have s0 := Ext.size ED0; have s1 := Ext.size ED1; have s2 := Ext.size ED2; have sC := Ext.size EC; (try simp at s0); (try simp at s1); (try simp at s2); (try simp at sC); (first | omega | (simp; omega) | (simp; done))))) | (refine Own.base (own_far2 S0G ?_ _ _ ) ?_; all_goals ((have s0 := Ext.size ED0; have s1 := Ext.size ED1; have s2 := Ext.size ED2; have sC := Ext.size EC; (try simp at s0); (try simp at s1); (try simp at s2); (try simp at sC); (first | omega | (simp; omega) | (simp; done)))))
      · exact hid S0e
      · exact hid S0g
      · exact hid S0N
      · ((repeat with_reducible (first | exact Ext.refl _ | exact ext_alloc _ _ | refine Ext.trans ?_ EC | refine Ext.trans ?_ ED0 | refine Ext.trans ?_ ED1 | refine Ext.trans ?_ ED2 | refine Ext.drewN ?_ _ | refine Ext.drew1 ?_ | refine Ext.alloc ?_ _ | refine Ext.set ?_ ?_ _)); all_goals ((have s0 := Ext.size ED0; have s1 := Ext.size ED1; have s2 := Ext.size ED2; have sC := Ext.size EC; (try simp at s0); (try simp at s1); (try simp at s2); (try simp at sC); (first | omega | (simp; omega) | (simp; done)))))
  obtain ⟨S0k, S0a, S0c, S0b, S0d, S0z, S0y, rfl, rfl, S0B, S0K, S0F_, S0G_, S0e, S0g, S0N, EC⟩ := hcut
  obtain ⟨w4, hwS⟩ : ∃ u, u = wc := ⟨_, rfl⟩
  subst hwS
  clear A00 A01 A02 A03 A0l A10 A11 A1l A20 A21 A2l
  have Z4 := hid (show w3.heap.size ≤ w4.heap.size from Ext.size EC)
  replace A0 := hid (Box.ext A0.out EC)
  replace A1 := hid (Box.ext A1.out EC)
  replace A2 := hid (Box.ext A2.out EC)
  replace EX := hid (Ext.trans EX.out EC)
  clear EC
  have S0K2 := hid (show S0k < w4.heap.size from Box.lt S0B.out)
  have S0F_I := hid (Own.block S0F_.out)
  have S0G_I := hid (Own.block S0G_.out)
  obtain ⟨A00, A01, A02, A03, A0l⟩ := Box.cells4 A0.out
  obtain ⟨A10, A11, A1l⟩ := Box.cells2 A1.out
  obtain ⟨A20, A21, A2l⟩ := Box.cells2 A2.out
  obtain ⟨S0B0, S0B1, S0Bl⟩ := Box.cells2 S0B.out
  go_wp2_with fail
  refine (toTube_any _ _ _ _ _ _ z0 _ (IsRowF.ext Rw0.out EX.out) hn0).mono ?_
  rintro e w5 ⟨X0b, rfl, X0F, E0⟩
  clear A00 A01 A02 A03 A0l A10 A11 A1l A20 A21 A2l S0B0 S0B1 S0Bl
  have EK := E0
  have Z5 := hid (show w4.heap.size ≤ w5.heap.size from Ext.size E0)
  replace A0 := hid (Box.ext A0.out EK)
  replace A1 := hid (Box.ext A1.out EK)
  replace A2 := hid (Box.ext A2.out EK)
  replace S0B := hid (Box.ext S0B.out EK)
  replace S0F_ := hid (Own.ext S0F_.out EK)
  replace S0G_ := hid (Own.ext S0G_.out EK)
  replace EX := hid (Ext.trans EX.out EK)
  clear EK E0
  have X0F_ := hid (Own.base X0F (B' := w4.heap.size) (by simp))
  have X0F_I := hid (Own.block X0F_.out)
  clear X0F
  obtain ⟨A00, A01, A02, A03, A0l⟩ := Box.cells4 A0.out
  obtain ⟨A10, A11, A1l⟩ := Box.cells2 A1.out
  obtain ⟨A20, A21, A2l⟩ := Box.cells2 A2.out
  obtain ⟨S0B0, S0B1, S0Bl⟩ := Box.cells2 S0B.out
  go_wp2_with fail
  refine (toWaves_any _ _ _ _ _ _ z1 y1 _ (IsRowF.ext Rw1.out (Ext.trans EX.out (ext_alloc _ _))) (IsRowF.ext Rv1.out (Ext.trans EX.out (ext_alloc _ _))) hn1 hm1).mono ?_
  rintro e w6 ⟨X1b, X1d, rfl, X1F, X1G, X1N, E0⟩
  clear A00 A01 A02 A03 A0l A10 A11 A1l A20 A21 A2l S0B0 S0B1 S0Bl
  have X0B := hid (Box.ext (box_new (w := w5) #[.slice (some ⟨X0b, 0, none⟩) n0 n0, .float .f32 l0, .float .f32 t0, .float .f32 p0] 27) E0)
  have EK := Ext.trans (ext_alloc _ _) E0
  have Z6 := hid (show w5.heap.size + 1 ≤ w6.heap.size from by have := Ext.size E0; simpa using this)
  replace A0 := hid (Box.ext A0.out EK)
  replace A1 := hid (Box.ext A1.out EK)
  replace A2 := hid (Box.ext A2.out EK)
  replace S0B := hid (Box.ext S0B.out EK)
  replace S0F_ := hid (Own.ext S0F_.out EK)
  replace S0G_ := hid (Own.ext S0G_.out EK)
  replace X0F_ := hid (Own.ext X0F_.out EK)
  replace EX := hid (Ext.trans EX.out EK)
  clear EK E0
  have X1F_ := hid (Own.base X1F (B' := w5.heap.size + 1) (by simp))
  have X1F_I := hid (Own.block X1F_.out)
  clear X1F
  have X1G_ := hid (Own.base X1G (B' := w5.heap.size + 1) (by simp))
  have X1G_I := hid (Own.block X1G_.out)
  clear X1G
  replace X1N := hid X1N
  obtain ⟨A00, A01, A02, A03, A0l⟩ := Box.cells4 A0.out
  obtain ⟨A10, A11, A1l⟩ := Box.cells2 A1.out
  obtain ⟨A20, A21, A2l⟩ := Box.cells2 A2.out
  obtain ⟨S0B0, S0B1, S0Bl⟩ := Box.cells2 S0B.out
  obtain ⟨X0B0, X0B1, X0B2, X0B3, X0Bl⟩ := Box.cells4 X0B.out
  go_wp2_with fail
  refine (toWaves_any _ _ _ _ _ _ z2 y2 _ (IsRowF.ext Rw2.out (Ext.trans EX.out (ext_alloc _ _))) (IsRowF.ext Rv2.out (Ext.trans EX.out (ext_alloc _ _))) hn2 hm2).mono ?_
  rintro e w7 ⟨X2b, X2d, rfl, X2F, X2G, X2N, E0⟩
  clear A00 A01 A02 A03 A0l A10 A11 A1l A20 A21 A2l S0B0 S0B1 S0Bl X0B0 X0B1 X0B2 X0B3 X0Bl
  have X1B := hid (Box.ext (box_new (w := w6) #[.slice (some ⟨X1b, 0, none⟩) n1 n1, .slice (some ⟨X1d, 0, none⟩) m1 m1] 43) E0)
  have EK := Ext.trans (ext_alloc _ _) E0
  have Z7 := hid (show w6.heap.size + 1 ≤ w7.heap.size from by have := Ext.size E0; simpa using this)
  replace A0 := hid (Box.ext A0.out EK)
  replace A1 := hid (Box.ext A1.out EK)
  replace A2 := hid (Box.ext A2.out EK)
  replace S0B := hid (Box.ext S0B.out EK)
  replace X0B := hid (Box.ext X0B.out EK)
  replace S0F_ := hid (Own.ext S0F_.out EK)
  replace S0G_ := hid (Own.ext S0G_.out EK)
  replace X0F_ := hid (Own.ext X0F_.out EK)
  replace X1F_ := hid (Own.ext X1F_.out EK)
  replace X1G_ := hid (Own.ext X1G_.out EK)
  replace EX := hid (Ext.trans EX.out EK)
  clear EK E0
  have X2F_ := hid (Own.base X2F (B' := w6.heap.size + 1) (by simp))
  have X2F_I := hid (Own.block X2F_.out)
  clear X2F
  have X2G_ := hid (Own.base X2G (B' := w6.heap.size + 1) (by simp))
  have X2G_I := hid (Own.block X2G_.out)
  clear X2G
  replace X2N := hid X2N
  obtain ⟨A00, A01, A02, A03, A0l⟩ := Box.cells4 A0.out
  obtain ⟨A10, A11, A1l⟩ := Box.cells2 A1.out
  obtain ⟨A20, A21, A2l⟩ := Box.cells2 A2.out
  obtain ⟨S0B0, S0B1, S0Bl⟩ := Box.cells2 S0B.out
  obtain ⟨X0B0, X0B1, X0B2, X0B3, X0Bl⟩ := Box.cells4 X0B.out
  obtain ⟨X1B0, X1B1, X1Bl⟩ := Box.cells2 X1B.out
  go_wp2_with fail
  refine (add_any _ _ _ _ _ _ _ _ _ _ _ _ _ _ _ _ _ _ (z0.take n0) (z1.take n1) (y1.take m1) (z2.take n2) (y2.take m2) R _ (Holds.alloc (own_hold X0F_.out) _) (Holds.alloc (own_hold X1F_.out) _) (Holds.alloc (own_hold X1G_.out) _) (Holds.alloc (own_hold X2F_.out) _) (Holds.alloc (own_hold X2G_.out) _) hn0 hn1 hm1 hn2 hm2 HR.out).mono ?_
  rintro e w8 ⟨Gv0, rfl, GT0, E0⟩
  clear A00 A01 A02 A03 A0l A10 A11 A1l A20 A21 A2l S0B0 S0B1 S0Bl X0B0 X0B1 X0B2 X0B3 X0Bl X1B0 X1B1 X1Bl
  have X2B := hid (Box.ext (box_new (w := w7) #[.slice (some ⟨X2b, 0, none⟩) n2 n2, .slice (some ⟨X2d, 0, none⟩) m2 m2] 43) E0)
  have EK := Ext.trans (ext_alloc _ _) E0
  have Z8 := hid (show w7.heap.size + 1 ≤ w8.heap.size from by have := Ext.size E0; simpa using this)
  replace A0 := hid (Box.ext A0.out EK)
  replace A1 := hid (Box.ext A1.out EK)
  replace A2 := hid (Box.ext A2.out EK)
  replace S0B := hid (Box.ext S0B.out EK)
  replace X0B := hid (Box.ext X0B.out EK)
  replace X1B := hid (Box.ext X1B.out EK)
  replace S0F_ := hid (Own.ext S0F_.out EK)
  replace S0G_ := hid (Own.ext S0G_.out EK)
  replace X0F_ := hid (Own.ext X0F_.out EK)
  replace X1F_ := hid (Own.ext X1F_.out EK)
  replace X1G_ := hid (Own.ext X1G_.out EK)
  replace X2F_ := hid (Own.ext X2F_.out EK)
  replace X2G_ := hid (Own.ext X2G_.out EK)
  replace EX := hid (Ext.trans EX.out EK)
  clear EK E0
  obtain ⟨G0a, G0c, G0b, G0d, G0z, G0y, rfl, G0F, G0G, G0e, G0g, G0N⟩ := GT0
  have G0F_ := hid (Own.base G0F (B' := w7.heap.size + 1) (by simp))
  have G0F_I := hid (Own.block G0F_.out)
  clear G0F
  have G0G_ := hid (Own.base G0G (B' := w7.heap.size + 1) (by simp))
  have G0G_I := hid (Own.block G0G_.out)
  clear G0G
  replace G0e := hid G0e
  replace G0g := hid G0g
  replace G0N := hid G0N
  obtain ⟨A00, A01, A02, A03, A0l⟩ := Box.cells4 A0.out
  obtain ⟨A10, A11, A1l⟩ := Box.cells2 A1.out
  obtain ⟨A20, A21, A2l⟩ := Box.cells2 A2.out
  obtain ⟨S0B0, S0B1, S0Bl⟩ := Box.cells2 S0B.out
  obtain ⟨X0B0, X0B1, X0B2, X0B3, X0Bl⟩ := Box.cells4 X0B.out
  obtain ⟨X1B0, X1B1, X1Bl⟩ := Box.cells2 X1B.out
  obtain ⟨X2B0, X2B1, X2Bl⟩ := Box.cells2 X2B.out
  go_wp2_with fail
  refine (eqWaves_yes _ _ _ _ _ _ _ _ _ _ G0z G0y S0z S0y _ (Holds.alloc (own_hold G0F_.out) _) (Holds.alloc (own_hold G0G_.out) _) (Holds.alloc (own_hold S0F_.out) _) (Holds.alloc (own_hold S0G_.out) _) hL0_0 hL0_1 (by rw [G0e.out, S0e.out]) (by rw [G0g.out, S0g.out])).mono ?_
  rintro e w9 ⟨rfl, E0⟩
  clear A00 A01 A02 A03 A0l A10 A11 A1l A20 A21 A2l S0B0 S0B1 S0Bl X0B0 X0B1 X0B2 X0B3 X0Bl X1B0 X1B1 X1Bl X2B0 X2B1 X2Bl
  have G0B := hid (Box.ext (box_new (w := w8) #[.slice G0a R.r.length G0c, .slice G0b R.l.length G0d] 43) E0)
  have EK := Ext.trans (ext_alloc _ _) E0
  have Z9 := hid (show w8.heap.size + 1 ≤ w9.heap.size from by have := Ext.size E0; simpa using this)
  replace A0 := hid (Box.ext A0.out EK)
  replace A1 := hid (Box.ext A1.out EK)
  replace A2 := hid (Box.ext A2.out EK)
  replace S0B := hid (Box.ext S0B.out EK)
  replace X0B := hid (Box.ext X0B.out EK)
  replace X1B := hid (Box.ext X1B.out EK)
  replace X2B := hid (Box.ext X2B.out EK)
  replace S0F_ := hid (Own.ext S0F_.out EK)
  replace S0G_ := hid (Own.ext S0G_.out EK)
  replace X0F_ := hid (Own.ext X0F_.out EK)
  replace X1F_ := hid (Own.ext X1F_.out EK)
  replace X1G_ := hid (Own.ext X1G_.out EK)
  replace X2F_ := hid (Own.ext X2F_.out EK)
  replace X2G_ := hid (Own.ext X2G_.out EK)
  replace G0F_ := hid (Own.ext G0F_.out EK)
  replace G0G_ := hid (Own.ext G0G_.out EK)
  replace EX := hid (Ext.trans EX.out EK)
  clear EK E0
  obtain ⟨A00, A01, A02, A03, A0l⟩ := Box.cells4 A0.out
  obtain ⟨A10, A11, A1l⟩ := Box.cells2 A1.out
  obtain ⟨A20, A21, A2l⟩ := Box.cells2 A2.out
  obtain ⟨S0B0, S0B1, S0Bl⟩ := Box.cells2 S0B.out
  obtain ⟨X0B0, X0B1, X0B2, X0B3, X0Bl⟩ := Box.cells4 X0B.out
  obtain ⟨X1B0, X1B1, X1Bl⟩ := Box.cells2 X1B.out
  obtain ⟨X2B0, X2B1, X2Bl⟩ := Box.cells2 X2B.out
  obtain ⟨G0B0, G0B1, G0Bl⟩ := Box.cells2 G0B.out
  go_wp2_with fail
  clear A00 A01 A02 A03 A0l A10 A11 A1l A20 A21 A2l S0B0 S0B1 S0Bl X0B0 X0B1 X0B2 X0B3 X0Bl X1B0 X1B1 X1Bl X2B0 X2B1 X2Bl G0B0 G0B1 G0Bl
  obtain ⟨A00, A01, A02, A03, A0l⟩ := Box.cells4 A0.out
  obtain ⟨A10, A11, A1l⟩ := Box.cells2 A1.out
  obtain ⟨A20, A21, A2l⟩ := Box.cells2 A2.out
  obtain ⟨S0B0, S0B1, S0Bl⟩ := Box.cells2 S0B.out
  obtain ⟨X0B0, X0B1, X0B2, X0B3, X0Bl⟩ := Box.cells4 X0B.out
  obtain ⟨X1B0, X1B1, X1Bl⟩ := Box.cells2 X1B.out
  obtain ⟨X2B0, X2B1, X2Bl⟩ := Box.cells2 X2B.out
  obtain ⟨G0B0, G0B1, G0Bl⟩ := Box.cells2 G0B.out
  go_region_held3 (fun w' => (w'.cell? ⟨w.heap.size, 0, none⟩ = some (.slice a0 n0 c0) ∧ w'.cell? ⟨w.heap.size, 1, none⟩ = some (.float .f32 l0) ∧ w'.cell? ⟨w.heap.size, 2, none⟩ = some (.float .f32 t0) ∧ w'.cell? ⟨w.heap.size, 3, none⟩ = some (.float .f32 p0)) ∧ (w'.cell? ⟨w5.heap.size, 0, none⟩ = some (.slice (some ⟨X0b, 0, none⟩) n0 n0) ∧ w'.cell? ⟨w5.heap.size, 1, none⟩ = some (.float .f32 l0) ∧ w'.cell? ⟨w5.heap.size, 2, none⟩ = some (.float .f32 t0) ∧ w'.cell? ⟨w5.heap.size, 3, none⟩ = some (.float .f32 p0)))
    (first | (refine keep_of (c := w9) (S := fun w' => (w'.cell? ⟨w.heap.size, 0, none⟩ = some (.slice a0 n0 c0) ∧ w'.cell? ⟨w.heap.size, 1, none⟩ = some (.float .f32 l0) ∧ w'.cell? ⟨w.heap.size, 2, none⟩ = some (.float .f32 t0) ∧ w'.cell? ⟨w.heap.size, 3, none⟩ = some (.float .f32 p0)) ∧ (w'.cell? ⟨w5.heap.size, 0, none⟩ = some (.slice (some ⟨X0b, 0, none⟩) n0 n0) ∧ w'.cell? ⟨w5.heap.size, 1, none⟩ = some (.float .f32 l0) ∧ w'.cell? ⟨w5.heap.size, 2, none⟩ = some (.float .f32 t0) ∧ w'.cell? ⟨w5.heap.size, 3, none⟩ = some (.float .f32 p0))) (fun u hu => ⟨⟨Box.cell (Box.ext A0.out hu) 0, Box.cell (Box.ext A0.out hu) 1, Box.cell (Box.ext A0.out hu) 2, Box.cell (Box.ext A0.out hu) 3⟩, ⟨Box.cell (Box.ext X0B.out hu) 0, Box.cell (Box.ext X0B.out hu) 1, Box.cell (Box.ext X0B.out hu) 2, Box.cell (Box.ext X0B.out hu) 3⟩⟩) ?_; (repeat with_reducible (first | exact Ext.refl _ | exact ext_alloc _ _ | refine Ext.trans ?_ EC | refine Ext.trans ?_ ED0 | refine Ext.trans ?_ ED1 | refine Ext.trans ?_ ED2 | refine Ext.drewN ?_ _ | refine Ext.drew1 ?_ | refine Ext.alloc ?_ _))))
    (first | (go_at_call 17; with_reducible refine (toTube_any _ _ _ _ _ _ z0 _ (IsRowF.ext Rw0.out (Ext.trans EX.out (by (repeat with_reducible (first | exact Ext.refl _ | exact ext_alloc _ _ | refine Ext.trans ?_ EC | refine Ext.trans ?_ ED0 | refine Ext.trans ?_ ED1 | refine Ext.trans ?_ ED2 | refine Ext.drewN ?_ _ | refine Ext.drew1 ?_ | refine Ext.alloc ?_ _))))) hn0).mono ?_; rintro e wD0 ⟨YYb, rfl, YYF, ED0⟩) | (go_at_call 19; refine (eqTube_yes _ _ _ _ _ _ _ _ _ _ _ _ _ _ (own_hold (Own.ext X0F_.out (by (repeat with_reducible (first | exact Ext.refl _ | exact ext_alloc _ _ | refine Ext.trans ?_ EC | refine Ext.trans ?_ ED0 | refine Ext.trans ?_ ED1 | refine Ext.trans ?_ ED2 | refine Ext.drewN ?_ _ | refine Ext.drew1 ?_ | refine Ext.alloc ?_ _))))) (own_hold YYF) hn0 rfl rfl rfl rfl).mono ?_; rintro e wC ⟨rfl, EC⟩))
  clear A00 A01 A02 A03 A0l A10 A11 A1l A20 A21 A2l S0B0 S0B1 S0Bl X0B0 X0B1 X0B2 X0B3 X0Bl X1B0 X1B1 X1Bl X2B0 X2B1 X2Bl G0B0 G0B1 G0Bl
  have EK : Ext w9 wC := by (repeat with_reducible (first | exact Ext.refl _ | exact ext_alloc _ _ | refine Ext.trans ?_ EC | refine Ext.trans ?_ ED0 | refine Ext.trans ?_ ED1 | refine Ext.trans ?_ ED2 | refine Ext.drewN ?_ _ | refine Ext.drew1 ?_ | refine Ext.alloc ?_ _))
  obtain ⟨w10, hwS⟩ : ∃ u, u = wC := ⟨_, rfl⟩
  subst hwS
  have Z10 := hid (show w9.heap.size ≤ w10.heap.size from Ext.size EK)
  clear ED0 EC YYF
  replace A0 := hid (Box.ext A0.out EK)
  replace A1 := hid (Box.ext A1.out EK)
  replace A2 := hid (Box.ext A2.out EK)
  replace S0B := hid (Box.ext S0B.out EK)
  replace X0B := hid (Box.ext X0B.out EK)
  replace X1B := hid (Box.ext X1B.out EK)
  replace X2B := hid (Box.ext X2B.out EK)
  replace G0B := hid (Box.ext G0B.out EK)
  replace S0F_ := hid (Own.ext S0F_.out EK)
  replace S0G_ := hid (Own.ext S0G_.out EK)
  replace X0F_ := hid (Own.ext X0F_.out EK)
  replace X1F_ := hid (Own.ext X1F_.out EK)
  replace X1G_ := hid (Own.ext X1G_.out EK)
  replace X2F_ := hid (Own.ext X2F_.out EK)
  replace X2G_ := hid (Own.ext X2G_.out EK)
  replace G0F_ := hid (Own.ext G0F_.out EK)
  replace G0G_ := hid (Own.ext G0G_.out EK)
  replace EX := hid (Ext.trans EX.out EK)
  clear EK
  obtain ⟨A00, A01, A02, A03, A0l⟩ := Box.cells4 A0.out
  obtain ⟨A10, A11, A1l⟩ := Box.cells2 A1.out
  obtain ⟨A20, A21, A2l⟩ := Box.cells2 A2.out
  obtain ⟨S0B0, S0B1, S0Bl⟩ := Box.cells2 S0B.out
  obtain ⟨X0B0, X0B1, X0B2, X0B3, X0Bl⟩ := Box.cells4 X0B.out
  obtain ⟨X1B0, X1B1, X1Bl⟩ := Box.cells2 X1B.out
  obtain ⟨X2B0, X2B1, X2Bl⟩ := Box.cells2 X2B.out
  obtain ⟨G0B0, G0B1, G0Bl⟩ := Box.cells2 G0B.out
  go_wp2_with fail
  clear A00 A01 A02 A03 A0l A10 A11 A1l A20 A21 A2l S0B0 S0B1 S0Bl X0B0 X0B1 X0B2 X0B3 X0Bl X1B0 X1B1 X1Bl X2B0 X2B1 X2Bl G0B0 G0B1 G0Bl
  obtain ⟨A00, A01, A02, A03, A0l⟩ := Box.cells4 A0.out
  obtain ⟨A10, A11, A1l⟩ := Box.cells2 A1.out
  obtain ⟨A20, A21, A2l⟩ := Box.cells2 A2.out
  obtain ⟨S0B0, S0B1, S0Bl⟩ := Box.cells2 S0B.out
  obtain ⟨X0B0, X0B1, X0B2, X0B3, X0Bl⟩ := Box.cells4 X0B.out
  obtain ⟨X1B0, X1B1, X1Bl⟩ := Box.cells2 X1B.out
  obtain ⟨X2B0, X2B1, X2Bl⟩ := Box.cells2 X2B.out
  obtain ⟨G0B0, G0B1, G0Bl⟩ := Box.cells2 G0B.out
  go_region_held3 (fun w' => (w'.cell? ⟨w.heap.size + 1, 0, none⟩ = some (.slice a1 n1 c1) ∧ w'.cell? ⟨w.heap.size + 1, 1, none⟩ = some (.slice b1 m1 d1)) ∧ (w'.cell? ⟨w6.heap.size, 0, none⟩ = some (.slice (some ⟨X1b, 0, none⟩) n1 n1) ∧ w'.cell? ⟨w6.heap.size, 1, none⟩ = some (.slice (some ⟨X1d, 0, none⟩) m1 m1)))
    (first | (refine keep_of (c := w10) (S := fun w' => (w'.cell? ⟨w.heap.size + 1, 0, none⟩ = some (.slice a1 n1 c1) ∧ w'.cell? ⟨w.heap.size + 1, 1, none⟩ = some (.slice b1 m1 d1)) ∧ (w'.cell? ⟨w6.heap.size, 0, none⟩ = some (.slice (some ⟨X1b, 0, none⟩) n1 n1) ∧ w'.cell? ⟨w6.heap.size, 1, none⟩ = some (.slice (some ⟨X1d, 0, none⟩) m1 m1))) (fun u hu => ⟨⟨Box.cell (Box.ext A1.out hu) 0, Box.cell (Box.ext A1.out hu) 1⟩, ⟨Box.cell (Box.ext X1B.out hu) 0, Box.cell (Box.ext X1B.out hu) 1⟩⟩) ?_; (repeat with_reducible (first | exact Ext.refl _ | exact ext_alloc _ _ | refine Ext.trans ?_ EC | refine Ext.trans ?_ ED0 | refine Ext.trans ?_ ED1 | refine Ext.trans ?_ ED2 | refine Ext.drewN ?_ _ | refine Ext.drew1 ?_ | refine Ext.alloc ?_ _))))
    (first | (go_at_call 30; with_reducible refine (toWaves_any _ _ _ _ _ _ z1 y1 _ (IsRowF.ext Rw1.out (Ext.trans EX.out (by (repeat with_reducible (first | exact Ext.refl _ | exact ext_alloc _ _ | refine Ext.trans ?_ EC | refine Ext.trans ?_ ED0 | refine Ext.trans ?_ ED1 | refine Ext.trans ?_ ED2 | refine Ext.drewN ?_ _ | refine Ext.drew1 ?_ | refine Ext.alloc ?_ _))))) (IsRowF.ext Rv1.out (Ext.trans EX.out (by (repeat with_reducible (first | exact Ext.refl _ | exact ext_alloc _ _ | refine Ext.trans ?_ EC | refine Ext.trans ?_ ED0 | refine Ext.trans ?_ ED1 | refine Ext.trans ?_ ED2 | refine Ext.drewN ?_ _ | refine Ext.drew1 ?_ | refine Ext.alloc ?_ _))))) hn1 hm1).mono ?_; rintro e wD1 ⟨YYb, YYd, rfl, YYF, YYG, YYN, ED1⟩) | (go_at_call 32; refine (eqWaves_yes _ _ _ _ _ _ _ _ _ _ _ _ _ _ _ (own_hold (Own.ext X1F_.out (by (repeat with_reducible (first | exact Ext.refl _ | exact ext_alloc _ _ | refine Ext.trans ?_ EC | refine Ext.trans ?_ ED0 | refine Ext.trans ?_ ED1 | refine Ext.trans ?_ ED2 | refine Ext.drewN ?_ _ | refine Ext.drew1 ?_ | refine Ext.alloc ?_ _))))) (own_hold (Own.ext X1G_.out (by (repeat with_reducible (first | exact Ext.refl _ | exact ext_alloc _ _ | refine Ext.trans ?_ EC | refine Ext.trans ?_ ED0 | refine Ext.trans ?_ ED1 | refine Ext.trans ?_ ED2 | refine Ext.drewN ?_ _ | refine Ext.drew1 ?_ | refine Ext.alloc ?_ _))))) (own_hold YYF) (own_hold YYG) hn1 hm1 rfl rfl).mono ?_; rintro e wC ⟨rfl, EC⟩))
  clear A00 A01 A02 A03 A0l A10 A11 A1l A20 A21 A2l S0B0 S0B1 S0Bl X0B0 X0B1 X0B2 X0B3 X0Bl X1B0 X1B1 X1Bl X2B0 X2B1 X2Bl G0B0 G0B1 G0Bl
  have EK : Ext w10 wC := by (repeat with_reducible (first | exact Ext.refl _ | exact ext_alloc _ _ | refine Ext.trans ?_ EC | refine Ext.trans ?_ ED0 | refine Ext.trans ?_ ED1 | refine Ext.trans ?_ ED2 | refine Ext.drewN ?_ _ | refine Ext.drew1 ?_ | refine Ext.alloc ?_ _))
  obtain ⟨w11, hwS⟩ : ∃ u, u = wC := ⟨_, rfl⟩
  subst hwS
  have Z11 := hid (show w10.heap.size ≤ w11.heap.size from Ext.size EK)
  clear ED1 EC YYF YYG YYN
  replace A0 := hid (Box.ext A0.out EK)
  replace A1 := hid (Box.ext A1.out EK)
  replace A2 := hid (Box.ext A2.out EK)
  replace S0B := hid (Box.ext S0B.out EK)
  replace X0B := hid (Box.ext X0B.out EK)
  replace X1B := hid (Box.ext X1B.out EK)
  replace X2B := hid (Box.ext X2B.out EK)
  replace G0B := hid (Box.ext G0B.out EK)
  replace S0F_ := hid (Own.ext S0F_.out EK)
  replace S0G_ := hid (Own.ext S0G_.out EK)
  replace X0F_ := hid (Own.ext X0F_.out EK)
  replace X1F_ := hid (Own.ext X1F_.out EK)
  replace X1G_ := hid (Own.ext X1G_.out EK)
  replace X2F_ := hid (Own.ext X2F_.out EK)
  replace X2G_ := hid (Own.ext X2G_.out EK)
  replace G0F_ := hid (Own.ext G0F_.out EK)
  replace G0G_ := hid (Own.ext G0G_.out EK)
  replace EX := hid (Ext.trans EX.out EK)
  clear EK
  obtain ⟨A00, A01, A02, A03, A0l⟩ := Box.cells4 A0.out
  obtain ⟨A10, A11, A1l⟩ := Box.cells2 A1.out
  obtain ⟨A20, A21, A2l⟩ := Box.cells2 A2.out
  obtain ⟨S0B0, S0B1, S0Bl⟩ := Box.cells2 S0B.out
  obtain ⟨X0B0, X0B1, X0B2, X0B3, X0Bl⟩ := Box.cells4 X0B.out
  obtain ⟨X1B0, X1B1, X1Bl⟩ := Box.cells2 X1B.out
  obtain ⟨X2B0, X2B1, X2Bl⟩ := Box.cells2 X2B.out
  obtain ⟨G0B0, G0B1, G0Bl⟩ := Box.cells2 G0B.out
  go_wp2_with fail
  clear A00 A01 A02 A03 A0l A10 A11 A1l A20 A21 A2l S0B0 S0B1 S0Bl X0B0 X0B1 X0B2 X0B3 X0Bl X1B0 X1B1 X1Bl X2B0 X2B1 X2Bl G0B0 G0B1 G0Bl
  obtain ⟨A00, A01, A02, A03, A0l⟩ := Box.cells4 A0.out
  obtain ⟨A10, A11, A1l⟩ := Box.cells2 A1.out
  obtain ⟨A20, A21, A2l⟩ := Box.cells2 A2.out
  obtain ⟨S0B0, S0B1, S0Bl⟩ := Box.cells2 S0B.out
  obtain ⟨X0B0, X0B1, X0B2, X0B3, X0Bl⟩ := Box.cells4 X0B.out
  obtain ⟨X1B0, X1B1, X1Bl⟩ := Box.cells2 X1B.out
  obtain ⟨X2B0, X2B1, X2Bl⟩ := Box.cells2 X2B.out
  obtain ⟨G0B0, G0B1, G0Bl⟩ := Box.cells2 G0B.out
  go_region_held3 (fun w' => (w'.cell? ⟨w.heap.size + 1 + 1, 0, none⟩ = some (.slice a2 n2 c2) ∧ w'.cell? ⟨w.heap.size + 1 + 1, 1, none⟩ = some (.slice b2 m2 d2)) ∧ (w'.cell? ⟨w7.heap.size, 0, none⟩ = some (.slice (some ⟨X2b, 0, none⟩) n2 n2) ∧ w'.cell? ⟨w7.heap.size, 1, none⟩ = some (.slice (some ⟨X2d, 0, none⟩) m2 m2)))
    (first | (refine keep_of (c := w11) (S := fun w' => (w'.cell? ⟨w.heap.size + 1 + 1, 0, none⟩ = some (.slice a2 n2 c2) ∧ w'.cell? ⟨w.heap.size + 1 + 1, 1, none⟩ = some (.slice b2 m2 d2)) ∧ (w'.cell? ⟨w7.heap.size, 0, none⟩ = some (.slice (some ⟨X2b, 0, none⟩) n2 n2) ∧ w'.cell? ⟨w7.heap.size, 1, none⟩ = some (.slice (some ⟨X2d, 0, none⟩) m2 m2))) (fun u hu => ⟨⟨Box.cell (Box.ext A2.out hu) 0, Box.cell (Box.ext A2.out hu) 1⟩, ⟨Box.cell (Box.ext X2B.out hu) 0, Box.cell (Box.ext X2B.out hu) 1⟩⟩) ?_; (repeat with_reducible (first | exact Ext.refl _ | exact ext_alloc _ _ | refine Ext.trans ?_ EC | refine Ext.trans ?_ ED0 | refine Ext.trans ?_ ED1 | refine Ext.trans ?_ ED2 | refine Ext.drewN ?_ _ | refine Ext.drew1 ?_ | refine Ext.alloc ?_ _))))
    (first | (go_at_call 30; with_reducible refine (toWaves_any _ _ _ _ _ _ z2 y2 _ (IsRowF.ext Rw2.out (Ext.trans EX.out (by (repeat with_reducible (first | exact Ext.refl _ | exact ext_alloc _ _ | refine Ext.trans ?_ EC | refine Ext.trans ?_ ED0 | refine Ext.trans ?_ ED1 | refine Ext.trans ?_ ED2 | refine Ext.drewN ?_ _ | refine Ext.drew1 ?_ | refine Ext.alloc ?_ _))))) (IsRowF.ext Rv2.out (Ext.trans EX.out (by (repeat with_reducible (first | exact Ext.refl _ | exact ext_alloc _ _ | refine Ext.trans ?_ EC | refine Ext.trans ?_ ED0 | refine Ext.trans ?_ ED1 | refine Ext.trans ?_ ED2 | refine Ext.drewN ?_ _ | refine Ext.drew1 ?_ | refine Ext.alloc ?_ _))))) hn2 hm2).mono ?_; rintro e wD2 ⟨YYb, YYd, rfl, YYF, YYG, YYN, ED2⟩) | (go_at_call 32; refine (eqWaves_yes _ _ _ _ _ _ _ _ _ _ _ _ _ _ _ (own_hold (Own.ext X2F_.out (by (repeat with_reducible (first | exact Ext.refl _ | exact ext_alloc _ _ | refine Ext.trans ?_ EC | refine Ext.trans ?_ ED0 | refine Ext.trans ?_ ED1 | refine Ext.trans ?_ ED2 | refine Ext.drewN ?_ _ | refine Ext.drew1 ?_ | refine Ext.alloc ?_ _))))) (own_hold (Own.ext X2G_.out (by (repeat with_reducible (first | exact Ext.refl _ | exact ext_alloc _ _ | refine Ext.trans ?_ EC | refine Ext.trans ?_ ED0 | refine Ext.trans ?_ ED1 | refine Ext.trans ?_ ED2 | refine Ext.drewN ?_ _ | refine Ext.drew1 ?_ | refine Ext.alloc ?_ _))))) (own_hold YYF) (own_hold YYG) hn2 hm2 rfl rfl).mono ?_; rintro e wC ⟨rfl, EC⟩))
  clear A00 A01 A02 A03 A0l A10 A11 A1l A20 A21 A2l S0B0 S0B1 S0Bl X0B0 X0B1 X0B2 X0B3 X0Bl X1B0 X1B1 X1Bl X2B0 X2B1 X2Bl G0B0 G0B1 G0Bl
  have EK : Ext w11 wC := by (repeat with_reducible (first | exact Ext.refl _ | exact ext_alloc _ _ | refine Ext.trans ?_ EC | refine Ext.trans ?_ ED0 | refine Ext.trans ?_ ED1 | refine Ext.trans ?_ ED2 | refine Ext.drewN ?_ _ | refine Ext.drew1 ?_ | refine Ext.alloc ?_ _))
  obtain ⟨w12, hwS⟩ : ∃ u, u = wC := ⟨_, rfl⟩
  subst hwS
  have Z12 := hid (show w11.heap.size ≤ w12.heap.size from Ext.size EK)
  clear ED2 EC YYF YYG YYN
  replace A0 := hid (Box.ext A0.out EK)
  replace A1 := hid (Box.ext A1.out EK)
  replace A2 := hid (Box.ext A2.out EK)
  replace S0B := hid (Box.ext S0B.out EK)
  replace X0B := hid (Box.ext X0B.out EK)
  replace X1B := hid (Box.ext X1B.out EK)
  replace X2B := hid (Box.ext X2B.out EK)
  replace G0B := hid (Box.ext G0B.out EK)
  replace S0F_ := hid (Own.ext S0F_.out EK)
  replace S0G_ := hid (Own.ext S0G_.out EK)
  replace X0F_ := hid (Own.ext X0F_.out EK)
  replace X1F_ := hid (Own.ext X1F_.out EK)
  replace X1G_ := hid (Own.ext X1G_.out EK)
  replace X2F_ := hid (Own.ext X2F_.out EK)
  replace X2G_ := hid (Own.ext X2G_.out EK)
  replace G0F_ := hid (Own.ext G0F_.out EK)
  replace G0G_ := hid (Own.ext G0G_.out EK)
  replace EX := hid (Ext.trans EX.out EK)
  clear EK
  obtain ⟨A00, A01, A02, A03, A0l⟩ := Box.cells4 A0.out
  obtain ⟨A10, A11, A1l⟩ := Box.cells2 A1.out
  obtain ⟨A20, A21, A2l⟩ := Box.cells2 A2.out
  obtain ⟨S0B0, S0B1, S0Bl⟩ := Box.cells2 S0B.out
  obtain ⟨X0B0, X0B1, X0B2, X0B3, X0Bl⟩ := Box.cells4 X0B.out
  obtain ⟨X1B0, X1B1, X1Bl⟩ := Box.cells2 X1B.out
  obtain ⟨X2B0, X2B1, X2Bl⟩ := Box.cells2 X2B.out
  obtain ⟨G0B0, G0B1, G0Bl⟩ := Box.cells2 G0B.out
  go_wp2_with fail
  refine (markTube_any _ n0 _ (1) _ _ _ _ (z0.take n0) _ X0F_.out hn0 (by omega)).mono ?_
  rintro e w13 ⟨rfl, MO, MB⟩
  clear A00 A01 A02 A03 A0l A10 A11 A1l A20 A21 A2l S0B0 S0B1 S0Bl X0B0 X0B1 X0B2 X0B3 X0Bl X1B0 X1B1 X1Bl X2B0 X2B1 X2Bl G0B0 G0B1 G0Bl
  have Z13 := hid (show w12.heap.size ≤ w13.heap.size from MB.size)
  replace A0 := hid (But.box MB A0.out (fun hk => by have h1 := X0F_I.out _ hk; have qZ1 := Z1.out; have qZ2 := Z2.out; have qZ3 := Z3.out; have qZ4 := Z4.out; have qS0K := S0K.out; have qS0K2 := S0K2.out; have qZ5 := Z5.out; have qZ6 := Z6.out; have qZ7 := Z7.out; have qZ8 := Z8.out; have qZ9 := Z9.out; have qZ10 := Z10.out; have qZ11 := Z11.out; have qZ12 := Z12.out; omega))
  replace A1 := hid (But.box MB A1.out (fun hk => by have h1 := X0F_I.out _ hk; have qZ1 := Z1.out; have qZ2 := Z2.out; have qZ3 := Z3.out; have qZ4 := Z4.out; have qS0K := S0K.out; have qS0K2 := S0K2.out; have qZ5 := Z5.out; have qZ6 := Z6.out; have qZ7 := Z7.out; have qZ8 := Z8.out; have qZ9 := Z9.out; have qZ10 := Z10.out; have qZ11 := Z11.out; have qZ12 := Z12.out; omega))
  replace A2 := hid (But.box MB A2.out (fun hk => by have h1 := X0F_I.out _ hk; have qZ1 := Z1.out; have qZ2 := Z2.out; have qZ3 := Z3.out; have qZ4 := Z4.out; have qS0K := S0K.out; have qS0K2 := S0K2.out; have qZ5 := Z5.out; have qZ6 := Z6.out; have qZ7 := Z7.out; have qZ8 := Z8.out; have qZ9 := Z9.out; have qZ10 := Z10.out; have qZ11 := Z11.out; have qZ12 := Z12.out; omega))
  replace S0B := hid (But.box MB S0B.out (fun hk => by have h1 := X0F_I.out _ hk; have qZ1 := Z1.out; have qZ2 := Z2.out; have qZ3 := Z3.out; have qZ4 := Z4.out; have qS0K := S0K.out; have qS0K2 := S0K2.out; have qZ5 := Z5.out; have qZ6 := Z6.out; have qZ7 := Z7.out; have qZ8 := Z8.out; have qZ9 := Z9.out; have qZ10 := Z10.out; have qZ11 := Z11.out; have qZ12 := Z12.out; omega))
  replace X0B := hid (But.box MB X0B.out (fun hk => by have h1 := X0F_I.out _ hk; have qZ1 := Z1.out; have qZ2 := Z2.out; have qZ3 := Z3.out; have qZ4 := Z4.out; have qS0K := S0K.out; have qS0K2 := S0K2.out; have qZ5 := Z5.out; have qZ6 := Z6.out; have qZ7 := Z7.out; have qZ8 := Z8.out; have qZ9 := Z9.out; have qZ10 := Z10.out; have qZ11 := Z11.out; have qZ12 := Z12.out; omega))
  replace X1B := hid (But.box MB X1B.out (fun hk => by have h1 := X0F_I.out _ hk; have qZ1 := Z1.out; have qZ2 := Z2.out; have qZ3 := Z3.out; have qZ4 := Z4.out; have qS0K := S0K.out; have qS0K2 := S0K2.out; have qZ5 := Z5.out; have qZ6 := Z6.out; have qZ7 := Z7.out; have qZ8 := Z8.out; have qZ9 := Z9.out; have qZ10 := Z10.out; have qZ11 := Z11.out; have qZ12 := Z12.out; omega))
  replace X2B := hid (But.box MB X2B.out (fun hk => by have h1 := X0F_I.out _ hk; have qZ1 := Z1.out; have qZ2 := Z2.out; have qZ3 := Z3.out; have qZ4 := Z4.out; have qS0K := S0K.out; have qS0K2 := S0K2.out; have qZ5 := Z5.out; have qZ6 := Z6.out; have qZ7 := Z7.out; have qZ8 := Z8.out; have qZ9 := Z9.out; have qZ10 := Z10.out; have qZ11 := Z11.out; have qZ12 := Z12.out; omega))
  replace G0B := hid (But.box MB G0B.out (fun hk => by have h1 := X0F_I.out _ hk; have qZ1 := Z1.out; have qZ2 := Z2.out; have qZ3 := Z3.out; have qZ4 := Z4.out; have qS0K := S0K.out; have qS0K2 := S0K2.out; have qZ5 := Z5.out; have qZ6 := Z6.out; have qZ7 := Z7.out; have qZ8 := Z8.out; have qZ9 := Z9.out; have qZ10 := Z10.out; have qZ11 := Z11.out; have qZ12 := Z12.out; omega))
  replace S0F_ := hid (But.own MB S0F_.out (fun k hk hk2 => by have h1 := X0F_I.out _ hk2; have h2 := S0F_I.out _ hk; have qZ1 := Z1.out; have qZ2 := Z2.out; have qZ3 := Z3.out; have qZ4 := Z4.out; have qS0K := S0K.out; have qS0K2 := S0K2.out; have qZ5 := Z5.out; have qZ6 := Z6.out; have qZ7 := Z7.out; have qZ8 := Z8.out; have qZ9 := Z9.out; have qZ10 := Z10.out; have qZ11 := Z11.out; have qZ12 := Z12.out; omega))
  replace S0G_ := hid (But.own MB S0G_.out (fun k hk hk2 => by have h1 := X0F_I.out _ hk2; have h2 := S0G_I.out _ hk; have qZ1 := Z1.out; have qZ2 := Z2.out; have qZ3 := Z3.out; have qZ4 := Z4.out; have qS0K := S0K.out; have qS0K2 := S0K2.out; have qZ5 := Z5.out; have qZ6 := Z6.out; have qZ7 := Z7.out; have qZ8 := Z8.out; have qZ9 := Z9.out; have qZ10 := Z10.out; have qZ11 := Z11.out; have qZ12 := Z12.out; omega))
  replace X1F_ := hid (But.own MB X1F_.out (fun k hk hk2 => by have h1 := X0F_I.out _ hk2; have h2 := X1F_I.out _ hk; have qZ1 := Z1.out; have qZ2 := Z2.out; have qZ3 := Z3.out; have qZ4 := Z4.out; have qS0K := S0K.out; have qS0K2 := S0K2.out; have qZ5 := Z5.out; have qZ6 := Z6.out; have qZ7 := Z7.out; have qZ8 := Z8.out; have qZ9 := Z9.out; have qZ10 := Z10.out; have qZ11 := Z11.out; have qZ12 := Z12.out; omega))
  replace X1G_ := hid (But.own MB X1G_.out (fun k hk hk2 => by have h1 := X0F_I.out _ hk2; have h2 := X1G_I.out _ hk; have qZ1 := Z1.out; have qZ2 := Z2.out; have qZ3 := Z3.out; have qZ4 := Z4.out; have qS0K := S0K.out; have qS0K2 := S0K2.out; have qZ5 := Z5.out; have qZ6 := Z6.out; have qZ7 := Z7.out; have qZ8 := Z8.out; have qZ9 := Z9.out; have qZ10 := Z10.out; have qZ11 := Z11.out; have qZ12 := Z12.out; omega))
  replace X2F_ := hid (But.own MB X2F_.out (fun k hk hk2 => by have h1 := X0F_I.out _ hk2; have h2 := X2F_I.out _ hk; have qZ1 := Z1.out; have qZ2 := Z2.out; have qZ3 := Z3.out; have qZ4 := Z4.out; have qS0K := S0K.out; have qS0K2 := S0K2.out; have qZ5 := Z5.out; have qZ6 := Z6.out; have qZ7 := Z7.out; have qZ8 := Z8.out; have qZ9 := Z9.out; have qZ10 := Z10.out; have qZ11 := Z11.out; have qZ12 := Z12.out; omega))
  replace X2G_ := hid (But.own MB X2G_.out (fun k hk hk2 => by have h1 := X0F_I.out _ hk2; have h2 := X2G_I.out _ hk; have qZ1 := Z1.out; have qZ2 := Z2.out; have qZ3 := Z3.out; have qZ4 := Z4.out; have qS0K := S0K.out; have qS0K2 := S0K2.out; have qZ5 := Z5.out; have qZ6 := Z6.out; have qZ7 := Z7.out; have qZ8 := Z8.out; have qZ9 := Z9.out; have qZ10 := Z10.out; have qZ11 := Z11.out; have qZ12 := Z12.out; omega))
  replace G0F_ := hid (But.own MB G0F_.out (fun k hk hk2 => by have h1 := X0F_I.out _ hk2; have h2 := G0F_I.out _ hk; have qZ1 := Z1.out; have qZ2 := Z2.out; have qZ3 := Z3.out; have qZ4 := Z4.out; have qS0K := S0K.out; have qS0K2 := S0K2.out; have qZ5 := Z5.out; have qZ6 := Z6.out; have qZ7 := Z7.out; have qZ8 := Z8.out; have qZ9 := Z9.out; have qZ10 := Z10.out; have qZ11 := Z11.out; have qZ12 := Z12.out; omega))
  replace G0G_ := hid (But.own MB G0G_.out (fun k hk hk2 => by have h1 := X0F_I.out _ hk2; have h2 := G0G_I.out _ hk; have qZ1 := Z1.out; have qZ2 := Z2.out; have qZ3 := Z3.out; have qZ4 := Z4.out; have qS0K := S0K.out; have qS0K2 := S0K2.out; have qZ5 := Z5.out; have qZ6 := Z6.out; have qZ7 := Z7.out; have qZ8 := Z8.out; have qZ9 := Z9.out; have qZ10 := Z10.out; have qZ11 := Z11.out; have qZ12 := Z12.out; omega))
  replace EX := hid (But.below MB EX.out (fun k hk => by have h1 := X0F_I.out _ hk; have qZ1 := Z1.out; have qZ2 := Z2.out; have qZ3 := Z3.out; have qZ4 := Z4.out; have qS0K := S0K.out; have qS0K2 := S0K2.out; have qZ5 := Z5.out; have qZ6 := Z6.out; have qZ7 := Z7.out; have qZ8 := Z8.out; have qZ9 := Z9.out; have qZ10 := Z10.out; have qZ11 := Z11.out; have qZ12 := Z12.out; omega))
  replace X0F_ := hid MO
  clear MO MB
  clear X0F_ X0F_I
  obtain ⟨A00, A01, A02, A03, A0l⟩ := Box.cells4 A0.out
  obtain ⟨A10, A11, A1l⟩ := Box.cells2 A1.out
  obtain ⟨A20, A21, A2l⟩ := Box.cells2 A2.out
  obtain ⟨S0B0, S0B1, S0Bl⟩ := Box.cells2 S0B.out
  obtain ⟨X0B0, X0B1, X0B2, X0B3, X0Bl⟩ := Box.cells4 X0B.out
  obtain ⟨X1B0, X1B1, X1Bl⟩ := Box.cells2 X1B.out
  obtain ⟨X2B0, X2B1, X2Bl⟩ := Box.cells2 X2B.out
  obtain ⟨G0B0, G0B1, G0Bl⟩ := Box.cells2 G0B.out
  go_wp2_with fail
  refine (markWavesK_any (1 + n0) _ _ n1 m1 _ _ _ (z1.take n1) (y1.take m1) _ X1F_.out X1G_.out hn1 hm1 X1N.out (by omega)).mono ?_
  rintro e w14 ⟨rfl, MO, MP, MB⟩
  clear A00 A01 A02 A03 A0l A10 A11 A1l A20 A21 A2l S0B0 S0B1 S0Bl X0B0 X0B1 X0B2 X0B3 X0Bl X1B0 X1B1 X1Bl X2B0 X2B1 X2Bl G0B0 G0B1 G0Bl
  have Z14 := hid (show w13.heap.size ≤ w14.heap.size from MB.size)
  replace A0 := hid (But2.box MB A0.out (fun hk => by have h1 := X1F_I.out _ hk; have qZ1 := Z1.out; have qZ2 := Z2.out; have qZ3 := Z3.out; have qZ4 := Z4.out; have qS0K := S0K.out; have qS0K2 := S0K2.out; have qZ5 := Z5.out; have qZ6 := Z6.out; have qZ7 := Z7.out; have qZ8 := Z8.out; have qZ9 := Z9.out; have qZ10 := Z10.out; have qZ11 := Z11.out; have qZ12 := Z12.out; have qZ13 := Z13.out; omega) (fun hk => by have h1 := X1G_I.out _ hk; have qZ1 := Z1.out; have qZ2 := Z2.out; have qZ3 := Z3.out; have qZ4 := Z4.out; have qS0K := S0K.out; have qS0K2 := S0K2.out; have qZ5 := Z5.out; have qZ6 := Z6.out; have qZ7 := Z7.out; have qZ8 := Z8.out; have qZ9 := Z9.out; have qZ10 := Z10.out; have qZ11 := Z11.out; have qZ12 := Z12.out; have qZ13 := Z13.out; omega))
  replace A1 := hid (But2.box MB A1.out (fun hk => by have h1 := X1F_I.out _ hk; have qZ1 := Z1.out; have qZ2 := Z2.out; have qZ3 := Z3.out; have qZ4 := Z4.out; have qS0K := S0K.out; have qS0K2 := S0K2.out; have qZ5 := Z5.out; have qZ6 := Z6.out; have qZ7 := Z7.out; have qZ8 := Z8.out; have qZ9 := Z9.out; have qZ10 := Z10.out; have qZ11 := Z11.out; have qZ12 := Z12.out; have qZ13 := Z13.out; omega) (fun hk => by have h1 := X1G_I.out _ hk; have qZ1 := Z1.out; have qZ2 := Z2.out; have qZ3 := Z3.out; have qZ4 := Z4.out; have qS0K := S0K.out; have qS0K2 := S0K2.out; have qZ5 := Z5.out; have qZ6 := Z6.out; have qZ7 := Z7.out; have qZ8 := Z8.out; have qZ9 := Z9.out; have qZ10 := Z10.out; have qZ11 := Z11.out; have qZ12 := Z12.out; have qZ13 := Z13.out; omega))
  replace A2 := hid (But2.box MB A2.out (fun hk => by have h1 := X1F_I.out _ hk; have qZ1 := Z1.out; have qZ2 := Z2.out; have qZ3 := Z3.out; have qZ4 := Z4.out; have qS0K := S0K.out; have qS0K2 := S0K2.out; have qZ5 := Z5.out; have qZ6 := Z6.out; have qZ7 := Z7.out; have qZ8 := Z8.out; have qZ9 := Z9.out; have qZ10 := Z10.out; have qZ11 := Z11.out; have qZ12 := Z12.out; have qZ13 := Z13.out; omega) (fun hk => by have h1 := X1G_I.out _ hk; have qZ1 := Z1.out; have qZ2 := Z2.out; have qZ3 := Z3.out; have qZ4 := Z4.out; have qS0K := S0K.out; have qS0K2 := S0K2.out; have qZ5 := Z5.out; have qZ6 := Z6.out; have qZ7 := Z7.out; have qZ8 := Z8.out; have qZ9 := Z9.out; have qZ10 := Z10.out; have qZ11 := Z11.out; have qZ12 := Z12.out; have qZ13 := Z13.out; omega))
  replace S0B := hid (But2.box MB S0B.out (fun hk => by have h1 := X1F_I.out _ hk; have qZ1 := Z1.out; have qZ2 := Z2.out; have qZ3 := Z3.out; have qZ4 := Z4.out; have qS0K := S0K.out; have qS0K2 := S0K2.out; have qZ5 := Z5.out; have qZ6 := Z6.out; have qZ7 := Z7.out; have qZ8 := Z8.out; have qZ9 := Z9.out; have qZ10 := Z10.out; have qZ11 := Z11.out; have qZ12 := Z12.out; have qZ13 := Z13.out; omega) (fun hk => by have h1 := X1G_I.out _ hk; have qZ1 := Z1.out; have qZ2 := Z2.out; have qZ3 := Z3.out; have qZ4 := Z4.out; have qS0K := S0K.out; have qS0K2 := S0K2.out; have qZ5 := Z5.out; have qZ6 := Z6.out; have qZ7 := Z7.out; have qZ8 := Z8.out; have qZ9 := Z9.out; have qZ10 := Z10.out; have qZ11 := Z11.out; have qZ12 := Z12.out; have qZ13 := Z13.out; omega))
  replace X0B := hid (But2.box MB X0B.out (fun hk => by have h1 := X1F_I.out _ hk; have qZ1 := Z1.out; have qZ2 := Z2.out; have qZ3 := Z3.out; have qZ4 := Z4.out; have qS0K := S0K.out; have qS0K2 := S0K2.out; have qZ5 := Z5.out; have qZ6 := Z6.out; have qZ7 := Z7.out; have qZ8 := Z8.out; have qZ9 := Z9.out; have qZ10 := Z10.out; have qZ11 := Z11.out; have qZ12 := Z12.out; have qZ13 := Z13.out; omega) (fun hk => by have h1 := X1G_I.out _ hk; have qZ1 := Z1.out; have qZ2 := Z2.out; have qZ3 := Z3.out; have qZ4 := Z4.out; have qS0K := S0K.out; have qS0K2 := S0K2.out; have qZ5 := Z5.out; have qZ6 := Z6.out; have qZ7 := Z7.out; have qZ8 := Z8.out; have qZ9 := Z9.out; have qZ10 := Z10.out; have qZ11 := Z11.out; have qZ12 := Z12.out; have qZ13 := Z13.out; omega))
  replace X1B := hid (But2.box MB X1B.out (fun hk => by have h1 := X1F_I.out _ hk; have qZ1 := Z1.out; have qZ2 := Z2.out; have qZ3 := Z3.out; have qZ4 := Z4.out; have qS0K := S0K.out; have qS0K2 := S0K2.out; have qZ5 := Z5.out; have qZ6 := Z6.out; have qZ7 := Z7.out; have qZ8 := Z8.out; have qZ9 := Z9.out; have qZ10 := Z10.out; have qZ11 := Z11.out; have qZ12 := Z12.out; have qZ13 := Z13.out; omega) (fun hk => by have h1 := X1G_I.out _ hk; have qZ1 := Z1.out; have qZ2 := Z2.out; have qZ3 := Z3.out; have qZ4 := Z4.out; have qS0K := S0K.out; have qS0K2 := S0K2.out; have qZ5 := Z5.out; have qZ6 := Z6.out; have qZ7 := Z7.out; have qZ8 := Z8.out; have qZ9 := Z9.out; have qZ10 := Z10.out; have qZ11 := Z11.out; have qZ12 := Z12.out; have qZ13 := Z13.out; omega))
  replace X2B := hid (But2.box MB X2B.out (fun hk => by have h1 := X1F_I.out _ hk; have qZ1 := Z1.out; have qZ2 := Z2.out; have qZ3 := Z3.out; have qZ4 := Z4.out; have qS0K := S0K.out; have qS0K2 := S0K2.out; have qZ5 := Z5.out; have qZ6 := Z6.out; have qZ7 := Z7.out; have qZ8 := Z8.out; have qZ9 := Z9.out; have qZ10 := Z10.out; have qZ11 := Z11.out; have qZ12 := Z12.out; have qZ13 := Z13.out; omega) (fun hk => by have h1 := X1G_I.out _ hk; have qZ1 := Z1.out; have qZ2 := Z2.out; have qZ3 := Z3.out; have qZ4 := Z4.out; have qS0K := S0K.out; have qS0K2 := S0K2.out; have qZ5 := Z5.out; have qZ6 := Z6.out; have qZ7 := Z7.out; have qZ8 := Z8.out; have qZ9 := Z9.out; have qZ10 := Z10.out; have qZ11 := Z11.out; have qZ12 := Z12.out; have qZ13 := Z13.out; omega))
  replace G0B := hid (But2.box MB G0B.out (fun hk => by have h1 := X1F_I.out _ hk; have qZ1 := Z1.out; have qZ2 := Z2.out; have qZ3 := Z3.out; have qZ4 := Z4.out; have qS0K := S0K.out; have qS0K2 := S0K2.out; have qZ5 := Z5.out; have qZ6 := Z6.out; have qZ7 := Z7.out; have qZ8 := Z8.out; have qZ9 := Z9.out; have qZ10 := Z10.out; have qZ11 := Z11.out; have qZ12 := Z12.out; have qZ13 := Z13.out; omega) (fun hk => by have h1 := X1G_I.out _ hk; have qZ1 := Z1.out; have qZ2 := Z2.out; have qZ3 := Z3.out; have qZ4 := Z4.out; have qS0K := S0K.out; have qS0K2 := S0K2.out; have qZ5 := Z5.out; have qZ6 := Z6.out; have qZ7 := Z7.out; have qZ8 := Z8.out; have qZ9 := Z9.out; have qZ10 := Z10.out; have qZ11 := Z11.out; have qZ12 := Z12.out; have qZ13 := Z13.out; omega))
  replace S0F_ := hid (But2.own MB S0F_.out (fun k hk hk2 => by have h1 := X1F_I.out _ hk2; have h2 := S0F_I.out _ hk; have qZ1 := Z1.out; have qZ2 := Z2.out; have qZ3 := Z3.out; have qZ4 := Z4.out; have qS0K := S0K.out; have qS0K2 := S0K2.out; have qZ5 := Z5.out; have qZ6 := Z6.out; have qZ7 := Z7.out; have qZ8 := Z8.out; have qZ9 := Z9.out; have qZ10 := Z10.out; have qZ11 := Z11.out; have qZ12 := Z12.out; have qZ13 := Z13.out; omega) (fun k hk hk2 => by have h1 := X1G_I.out _ hk2; have h2 := S0F_I.out _ hk; have qZ1 := Z1.out; have qZ2 := Z2.out; have qZ3 := Z3.out; have qZ4 := Z4.out; have qS0K := S0K.out; have qS0K2 := S0K2.out; have qZ5 := Z5.out; have qZ6 := Z6.out; have qZ7 := Z7.out; have qZ8 := Z8.out; have qZ9 := Z9.out; have qZ10 := Z10.out; have qZ11 := Z11.out; have qZ12 := Z12.out; have qZ13 := Z13.out; omega))
  replace S0G_ := hid (But2.own MB S0G_.out (fun k hk hk2 => by have h1 := X1F_I.out _ hk2; have h2 := S0G_I.out _ hk; have qZ1 := Z1.out; have qZ2 := Z2.out; have qZ3 := Z3.out; have qZ4 := Z4.out; have qS0K := S0K.out; have qS0K2 := S0K2.out; have qZ5 := Z5.out; have qZ6 := Z6.out; have qZ7 := Z7.out; have qZ8 := Z8.out; have qZ9 := Z9.out; have qZ10 := Z10.out; have qZ11 := Z11.out; have qZ12 := Z12.out; have qZ13 := Z13.out; omega) (fun k hk hk2 => by have h1 := X1G_I.out _ hk2; have h2 := S0G_I.out _ hk; have qZ1 := Z1.out; have qZ2 := Z2.out; have qZ3 := Z3.out; have qZ4 := Z4.out; have qS0K := S0K.out; have qS0K2 := S0K2.out; have qZ5 := Z5.out; have qZ6 := Z6.out; have qZ7 := Z7.out; have qZ8 := Z8.out; have qZ9 := Z9.out; have qZ10 := Z10.out; have qZ11 := Z11.out; have qZ12 := Z12.out; have qZ13 := Z13.out; omega))
  replace X2F_ := hid (But2.own MB X2F_.out (fun k hk hk2 => by have h1 := X1F_I.out _ hk2; have h2 := X2F_I.out _ hk; have qZ1 := Z1.out; have qZ2 := Z2.out; have qZ3 := Z3.out; have qZ4 := Z4.out; have qS0K := S0K.out; have qS0K2 := S0K2.out; have qZ5 := Z5.out; have qZ6 := Z6.out; have qZ7 := Z7.out; have qZ8 := Z8.out; have qZ9 := Z9.out; have qZ10 := Z10.out; have qZ11 := Z11.out; have qZ12 := Z12.out; have qZ13 := Z13.out; omega) (fun k hk hk2 => by have h1 := X1G_I.out _ hk2; have h2 := X2F_I.out _ hk; have qZ1 := Z1.out; have qZ2 := Z2.out; have qZ3 := Z3.out; have qZ4 := Z4.out; have qS0K := S0K.out; have qS0K2 := S0K2.out; have qZ5 := Z5.out; have qZ6 := Z6.out; have qZ7 := Z7.out; have qZ8 := Z8.out; have qZ9 := Z9.out; have qZ10 := Z10.out; have qZ11 := Z11.out; have qZ12 := Z12.out; have qZ13 := Z13.out; omega))
  replace X2G_ := hid (But2.own MB X2G_.out (fun k hk hk2 => by have h1 := X1F_I.out _ hk2; have h2 := X2G_I.out _ hk; have qZ1 := Z1.out; have qZ2 := Z2.out; have qZ3 := Z3.out; have qZ4 := Z4.out; have qS0K := S0K.out; have qS0K2 := S0K2.out; have qZ5 := Z5.out; have qZ6 := Z6.out; have qZ7 := Z7.out; have qZ8 := Z8.out; have qZ9 := Z9.out; have qZ10 := Z10.out; have qZ11 := Z11.out; have qZ12 := Z12.out; have qZ13 := Z13.out; omega) (fun k hk hk2 => by have h1 := X1G_I.out _ hk2; have h2 := X2G_I.out _ hk; have qZ1 := Z1.out; have qZ2 := Z2.out; have qZ3 := Z3.out; have qZ4 := Z4.out; have qS0K := S0K.out; have qS0K2 := S0K2.out; have qZ5 := Z5.out; have qZ6 := Z6.out; have qZ7 := Z7.out; have qZ8 := Z8.out; have qZ9 := Z9.out; have qZ10 := Z10.out; have qZ11 := Z11.out; have qZ12 := Z12.out; have qZ13 := Z13.out; omega))
  replace G0F_ := hid (But2.own MB G0F_.out (fun k hk hk2 => by have h1 := X1F_I.out _ hk2; have h2 := G0F_I.out _ hk; have qZ1 := Z1.out; have qZ2 := Z2.out; have qZ3 := Z3.out; have qZ4 := Z4.out; have qS0K := S0K.out; have qS0K2 := S0K2.out; have qZ5 := Z5.out; have qZ6 := Z6.out; have qZ7 := Z7.out; have qZ8 := Z8.out; have qZ9 := Z9.out; have qZ10 := Z10.out; have qZ11 := Z11.out; have qZ12 := Z12.out; have qZ13 := Z13.out; omega) (fun k hk hk2 => by have h1 := X1G_I.out _ hk2; have h2 := G0F_I.out _ hk; have qZ1 := Z1.out; have qZ2 := Z2.out; have qZ3 := Z3.out; have qZ4 := Z4.out; have qS0K := S0K.out; have qS0K2 := S0K2.out; have qZ5 := Z5.out; have qZ6 := Z6.out; have qZ7 := Z7.out; have qZ8 := Z8.out; have qZ9 := Z9.out; have qZ10 := Z10.out; have qZ11 := Z11.out; have qZ12 := Z12.out; have qZ13 := Z13.out; omega))
  replace G0G_ := hid (But2.own MB G0G_.out (fun k hk hk2 => by have h1 := X1F_I.out _ hk2; have h2 := G0G_I.out _ hk; have qZ1 := Z1.out; have qZ2 := Z2.out; have qZ3 := Z3.out; have qZ4 := Z4.out; have qS0K := S0K.out; have qS0K2 := S0K2.out; have qZ5 := Z5.out; have qZ6 := Z6.out; have qZ7 := Z7.out; have qZ8 := Z8.out; have qZ9 := Z9.out; have qZ10 := Z10.out; have qZ11 := Z11.out; have qZ12 := Z12.out; have qZ13 := Z13.out; omega) (fun k hk hk2 => by have h1 := X1G_I.out _ hk2; have h2 := G0G_I.out _ hk; have qZ1 := Z1.out; have qZ2 := Z2.out; have qZ3 := Z3.out; have qZ4 := Z4.out; have qS0K := S0K.out; have qS0K2 := S0K2.out; have qZ5 := Z5.out; have qZ6 := Z6.out; have qZ7 := Z7.out; have qZ8 := Z8.out; have qZ9 := Z9.out; have qZ10 := Z10.out; have qZ11 := Z11.out; have qZ12 := Z12.out; have qZ13 := Z13.out; omega))
  replace EX := hid (But2.below MB EX.out (fun k hk => by have h1 := X1F_I.out _ hk; have qZ1 := Z1.out; have qZ2 := Z2.out; have qZ3 := Z3.out; have qZ4 := Z4.out; have qS0K := S0K.out; have qS0K2 := S0K2.out; have qZ5 := Z5.out; have qZ6 := Z6.out; have qZ7 := Z7.out; have qZ8 := Z8.out; have qZ9 := Z9.out; have qZ10 := Z10.out; have qZ11 := Z11.out; have qZ12 := Z12.out; have qZ13 := Z13.out; omega) (fun k hk => by have h1 := X1G_I.out _ hk; have qZ1 := Z1.out; have qZ2 := Z2.out; have qZ3 := Z3.out; have qZ4 := Z4.out; have qS0K := S0K.out; have qS0K2 := S0K2.out; have qZ5 := Z5.out; have qZ6 := Z6.out; have qZ7 := Z7.out; have qZ8 := Z8.out; have qZ9 := Z9.out; have qZ10 := Z10.out; have qZ11 := Z11.out; have qZ12 := Z12.out; have qZ13 := Z13.out; omega))
  replace X1F_ := hid MO
  replace X1G_ := hid MP
  clear MO MP MB
  clear X1F_ X1F_I
  clear X1G_ X1G_I
  obtain ⟨A00, A01, A02, A03, A0l⟩ := Box.cells4 A0.out
  obtain ⟨A10, A11, A1l⟩ := Box.cells2 A1.out
  obtain ⟨A20, A21, A2l⟩ := Box.cells2 A2.out
  obtain ⟨S0B0, S0B1, S0Bl⟩ := Box.cells2 S0B.out
  obtain ⟨X0B0, X0B1, X0B2, X0B3, X0Bl⟩ := Box.cells4 X0B.out
  obtain ⟨X1B0, X1B1, X1Bl⟩ := Box.cells2 X1B.out
  obtain ⟨X2B0, X2B1, X2Bl⟩ := Box.cells2 X2B.out
  obtain ⟨G0B0, G0B1, G0Bl⟩ := Box.cells2 G0B.out
  go_wp2_with fail
  refine (markWavesK_any (1 + n0 + n1 + m1) _ _ n2 m2 _ _ _ (z2.take n2) (y2.take m2) _ X2F_.out X2G_.out hn2 hm2 X2N.out (by omega)).mono ?_
  rintro e w15 ⟨rfl, MO, MP, MB⟩
  clear A00 A01 A02 A03 A0l A10 A11 A1l A20 A21 A2l S0B0 S0B1 S0Bl X0B0 X0B1 X0B2 X0B3 X0Bl X1B0 X1B1 X1Bl X2B0 X2B1 X2Bl G0B0 G0B1 G0Bl
  have Z15 := hid (show w14.heap.size ≤ w15.heap.size from MB.size)
  replace A0 := hid (But2.box MB A0.out (fun hk => by have h1 := X2F_I.out _ hk; have qZ1 := Z1.out; have qZ2 := Z2.out; have qZ3 := Z3.out; have qZ4 := Z4.out; have qS0K := S0K.out; have qS0K2 := S0K2.out; have qZ5 := Z5.out; have qZ6 := Z6.out; have qZ7 := Z7.out; have qZ8 := Z8.out; have qZ9 := Z9.out; have qZ10 := Z10.out; have qZ11 := Z11.out; have qZ12 := Z12.out; have qZ13 := Z13.out; have qZ14 := Z14.out; omega) (fun hk => by have h1 := X2G_I.out _ hk; have qZ1 := Z1.out; have qZ2 := Z2.out; have qZ3 := Z3.out; have qZ4 := Z4.out; have qS0K := S0K.out; have qS0K2 := S0K2.out; have qZ5 := Z5.out; have qZ6 := Z6.out; have qZ7 := Z7.out; have qZ8 := Z8.out; have qZ9 := Z9.out; have qZ10 := Z10.out; have qZ11 := Z11.out; have qZ12 := Z12.out; have qZ13 := Z13.out; have qZ14 := Z14.out; omega))
  replace A1 := hid (But2.box MB A1.out (fun hk => by have h1 := X2F_I.out _ hk; have qZ1 := Z1.out; have qZ2 := Z2.out; have qZ3 := Z3.out; have qZ4 := Z4.out; have qS0K := S0K.out; have qS0K2 := S0K2.out; have qZ5 := Z5.out; have qZ6 := Z6.out; have qZ7 := Z7.out; have qZ8 := Z8.out; have qZ9 := Z9.out; have qZ10 := Z10.out; have qZ11 := Z11.out; have qZ12 := Z12.out; have qZ13 := Z13.out; have qZ14 := Z14.out; omega) (fun hk => by have h1 := X2G_I.out _ hk; have qZ1 := Z1.out; have qZ2 := Z2.out; have qZ3 := Z3.out; have qZ4 := Z4.out; have qS0K := S0K.out; have qS0K2 := S0K2.out; have qZ5 := Z5.out; have qZ6 := Z6.out; have qZ7 := Z7.out; have qZ8 := Z8.out; have qZ9 := Z9.out; have qZ10 := Z10.out; have qZ11 := Z11.out; have qZ12 := Z12.out; have qZ13 := Z13.out; have qZ14 := Z14.out; omega))
  replace A2 := hid (But2.box MB A2.out (fun hk => by have h1 := X2F_I.out _ hk; have qZ1 := Z1.out; have qZ2 := Z2.out; have qZ3 := Z3.out; have qZ4 := Z4.out; have qS0K := S0K.out; have qS0K2 := S0K2.out; have qZ5 := Z5.out; have qZ6 := Z6.out; have qZ7 := Z7.out; have qZ8 := Z8.out; have qZ9 := Z9.out; have qZ10 := Z10.out; have qZ11 := Z11.out; have qZ12 := Z12.out; have qZ13 := Z13.out; have qZ14 := Z14.out; omega) (fun hk => by have h1 := X2G_I.out _ hk; have qZ1 := Z1.out; have qZ2 := Z2.out; have qZ3 := Z3.out; have qZ4 := Z4.out; have qS0K := S0K.out; have qS0K2 := S0K2.out; have qZ5 := Z5.out; have qZ6 := Z6.out; have qZ7 := Z7.out; have qZ8 := Z8.out; have qZ9 := Z9.out; have qZ10 := Z10.out; have qZ11 := Z11.out; have qZ12 := Z12.out; have qZ13 := Z13.out; have qZ14 := Z14.out; omega))
  replace S0B := hid (But2.box MB S0B.out (fun hk => by have h1 := X2F_I.out _ hk; have qZ1 := Z1.out; have qZ2 := Z2.out; have qZ3 := Z3.out; have qZ4 := Z4.out; have qS0K := S0K.out; have qS0K2 := S0K2.out; have qZ5 := Z5.out; have qZ6 := Z6.out; have qZ7 := Z7.out; have qZ8 := Z8.out; have qZ9 := Z9.out; have qZ10 := Z10.out; have qZ11 := Z11.out; have qZ12 := Z12.out; have qZ13 := Z13.out; have qZ14 := Z14.out; omega) (fun hk => by have h1 := X2G_I.out _ hk; have qZ1 := Z1.out; have qZ2 := Z2.out; have qZ3 := Z3.out; have qZ4 := Z4.out; have qS0K := S0K.out; have qS0K2 := S0K2.out; have qZ5 := Z5.out; have qZ6 := Z6.out; have qZ7 := Z7.out; have qZ8 := Z8.out; have qZ9 := Z9.out; have qZ10 := Z10.out; have qZ11 := Z11.out; have qZ12 := Z12.out; have qZ13 := Z13.out; have qZ14 := Z14.out; omega))
  replace X0B := hid (But2.box MB X0B.out (fun hk => by have h1 := X2F_I.out _ hk; have qZ1 := Z1.out; have qZ2 := Z2.out; have qZ3 := Z3.out; have qZ4 := Z4.out; have qS0K := S0K.out; have qS0K2 := S0K2.out; have qZ5 := Z5.out; have qZ6 := Z6.out; have qZ7 := Z7.out; have qZ8 := Z8.out; have qZ9 := Z9.out; have qZ10 := Z10.out; have qZ11 := Z11.out; have qZ12 := Z12.out; have qZ13 := Z13.out; have qZ14 := Z14.out; omega) (fun hk => by have h1 := X2G_I.out _ hk; have qZ1 := Z1.out; have qZ2 := Z2.out; have qZ3 := Z3.out; have qZ4 := Z4.out; have qS0K := S0K.out; have qS0K2 := S0K2.out; have qZ5 := Z5.out; have qZ6 := Z6.out; have qZ7 := Z7.out; have qZ8 := Z8.out; have qZ9 := Z9.out; have qZ10 := Z10.out; have qZ11 := Z11.out; have qZ12 := Z12.out; have qZ13 := Z13.out; have qZ14 := Z14.out; omega))
  replace X1B := hid (But2.box MB X1B.out (fun hk => by have h1 := X2F_I.out _ hk; have qZ1 := Z1.out; have qZ2 := Z2.out; have qZ3 := Z3.out; have qZ4 := Z4.out; have qS0K := S0K.out; have qS0K2 := S0K2.out; have qZ5 := Z5.out; have qZ6 := Z6.out; have qZ7 := Z7.out; have qZ8 := Z8.out; have qZ9 := Z9.out; have qZ10 := Z10.out; have qZ11 := Z11.out; have qZ12 := Z12.out; have qZ13 := Z13.out; have qZ14 := Z14.out; omega) (fun hk => by have h1 := X2G_I.out _ hk; have qZ1 := Z1.out; have qZ2 := Z2.out; have qZ3 := Z3.out; have qZ4 := Z4.out; have qS0K := S0K.out; have qS0K2 := S0K2.out; have qZ5 := Z5.out; have qZ6 := Z6.out; have qZ7 := Z7.out; have qZ8 := Z8.out; have qZ9 := Z9.out; have qZ10 := Z10.out; have qZ11 := Z11.out; have qZ12 := Z12.out; have qZ13 := Z13.out; have qZ14 := Z14.out; omega))
  replace X2B := hid (But2.box MB X2B.out (fun hk => by have h1 := X2F_I.out _ hk; have qZ1 := Z1.out; have qZ2 := Z2.out; have qZ3 := Z3.out; have qZ4 := Z4.out; have qS0K := S0K.out; have qS0K2 := S0K2.out; have qZ5 := Z5.out; have qZ6 := Z6.out; have qZ7 := Z7.out; have qZ8 := Z8.out; have qZ9 := Z9.out; have qZ10 := Z10.out; have qZ11 := Z11.out; have qZ12 := Z12.out; have qZ13 := Z13.out; have qZ14 := Z14.out; omega) (fun hk => by have h1 := X2G_I.out _ hk; have qZ1 := Z1.out; have qZ2 := Z2.out; have qZ3 := Z3.out; have qZ4 := Z4.out; have qS0K := S0K.out; have qS0K2 := S0K2.out; have qZ5 := Z5.out; have qZ6 := Z6.out; have qZ7 := Z7.out; have qZ8 := Z8.out; have qZ9 := Z9.out; have qZ10 := Z10.out; have qZ11 := Z11.out; have qZ12 := Z12.out; have qZ13 := Z13.out; have qZ14 := Z14.out; omega))
  replace G0B := hid (But2.box MB G0B.out (fun hk => by have h1 := X2F_I.out _ hk; have qZ1 := Z1.out; have qZ2 := Z2.out; have qZ3 := Z3.out; have qZ4 := Z4.out; have qS0K := S0K.out; have qS0K2 := S0K2.out; have qZ5 := Z5.out; have qZ6 := Z6.out; have qZ7 := Z7.out; have qZ8 := Z8.out; have qZ9 := Z9.out; have qZ10 := Z10.out; have qZ11 := Z11.out; have qZ12 := Z12.out; have qZ13 := Z13.out; have qZ14 := Z14.out; omega) (fun hk => by have h1 := X2G_I.out _ hk; have qZ1 := Z1.out; have qZ2 := Z2.out; have qZ3 := Z3.out; have qZ4 := Z4.out; have qS0K := S0K.out; have qS0K2 := S0K2.out; have qZ5 := Z5.out; have qZ6 := Z6.out; have qZ7 := Z7.out; have qZ8 := Z8.out; have qZ9 := Z9.out; have qZ10 := Z10.out; have qZ11 := Z11.out; have qZ12 := Z12.out; have qZ13 := Z13.out; have qZ14 := Z14.out; omega))
  replace S0F_ := hid (But2.own MB S0F_.out (fun k hk hk2 => by have h1 := X2F_I.out _ hk2; have h2 := S0F_I.out _ hk; have qZ1 := Z1.out; have qZ2 := Z2.out; have qZ3 := Z3.out; have qZ4 := Z4.out; have qS0K := S0K.out; have qS0K2 := S0K2.out; have qZ5 := Z5.out; have qZ6 := Z6.out; have qZ7 := Z7.out; have qZ8 := Z8.out; have qZ9 := Z9.out; have qZ10 := Z10.out; have qZ11 := Z11.out; have qZ12 := Z12.out; have qZ13 := Z13.out; have qZ14 := Z14.out; omega) (fun k hk hk2 => by have h1 := X2G_I.out _ hk2; have h2 := S0F_I.out _ hk; have qZ1 := Z1.out; have qZ2 := Z2.out; have qZ3 := Z3.out; have qZ4 := Z4.out; have qS0K := S0K.out; have qS0K2 := S0K2.out; have qZ5 := Z5.out; have qZ6 := Z6.out; have qZ7 := Z7.out; have qZ8 := Z8.out; have qZ9 := Z9.out; have qZ10 := Z10.out; have qZ11 := Z11.out; have qZ12 := Z12.out; have qZ13 := Z13.out; have qZ14 := Z14.out; omega))
  replace S0G_ := hid (But2.own MB S0G_.out (fun k hk hk2 => by have h1 := X2F_I.out _ hk2; have h2 := S0G_I.out _ hk; have qZ1 := Z1.out; have qZ2 := Z2.out; have qZ3 := Z3.out; have qZ4 := Z4.out; have qS0K := S0K.out; have qS0K2 := S0K2.out; have qZ5 := Z5.out; have qZ6 := Z6.out; have qZ7 := Z7.out; have qZ8 := Z8.out; have qZ9 := Z9.out; have qZ10 := Z10.out; have qZ11 := Z11.out; have qZ12 := Z12.out; have qZ13 := Z13.out; have qZ14 := Z14.out; omega) (fun k hk hk2 => by have h1 := X2G_I.out _ hk2; have h2 := S0G_I.out _ hk; have qZ1 := Z1.out; have qZ2 := Z2.out; have qZ3 := Z3.out; have qZ4 := Z4.out; have qS0K := S0K.out; have qS0K2 := S0K2.out; have qZ5 := Z5.out; have qZ6 := Z6.out; have qZ7 := Z7.out; have qZ8 := Z8.out; have qZ9 := Z9.out; have qZ10 := Z10.out; have qZ11 := Z11.out; have qZ12 := Z12.out; have qZ13 := Z13.out; have qZ14 := Z14.out; omega))
  replace G0F_ := hid (But2.own MB G0F_.out (fun k hk hk2 => by have h1 := X2F_I.out _ hk2; have h2 := G0F_I.out _ hk; have qZ1 := Z1.out; have qZ2 := Z2.out; have qZ3 := Z3.out; have qZ4 := Z4.out; have qS0K := S0K.out; have qS0K2 := S0K2.out; have qZ5 := Z5.out; have qZ6 := Z6.out; have qZ7 := Z7.out; have qZ8 := Z8.out; have qZ9 := Z9.out; have qZ10 := Z10.out; have qZ11 := Z11.out; have qZ12 := Z12.out; have qZ13 := Z13.out; have qZ14 := Z14.out; omega) (fun k hk hk2 => by have h1 := X2G_I.out _ hk2; have h2 := G0F_I.out _ hk; have qZ1 := Z1.out; have qZ2 := Z2.out; have qZ3 := Z3.out; have qZ4 := Z4.out; have qS0K := S0K.out; have qS0K2 := S0K2.out; have qZ5 := Z5.out; have qZ6 := Z6.out; have qZ7 := Z7.out; have qZ8 := Z8.out; have qZ9 := Z9.out; have qZ10 := Z10.out; have qZ11 := Z11.out; have qZ12 := Z12.out; have qZ13 := Z13.out; have qZ14 := Z14.out; omega))
  replace G0G_ := hid (But2.own MB G0G_.out (fun k hk hk2 => by have h1 := X2F_I.out _ hk2; have h2 := G0G_I.out _ hk; have qZ1 := Z1.out; have qZ2 := Z2.out; have qZ3 := Z3.out; have qZ4 := Z4.out; have qS0K := S0K.out; have qS0K2 := S0K2.out; have qZ5 := Z5.out; have qZ6 := Z6.out; have qZ7 := Z7.out; have qZ8 := Z8.out; have qZ9 := Z9.out; have qZ10 := Z10.out; have qZ11 := Z11.out; have qZ12 := Z12.out; have qZ13 := Z13.out; have qZ14 := Z14.out; omega) (fun k hk hk2 => by have h1 := X2G_I.out _ hk2; have h2 := G0G_I.out _ hk; have qZ1 := Z1.out; have qZ2 := Z2.out; have qZ3 := Z3.out; have qZ4 := Z4.out; have qS0K := S0K.out; have qS0K2 := S0K2.out; have qZ5 := Z5.out; have qZ6 := Z6.out; have qZ7 := Z7.out; have qZ8 := Z8.out; have qZ9 := Z9.out; have qZ10 := Z10.out; have qZ11 := Z11.out; have qZ12 := Z12.out; have qZ13 := Z13.out; have qZ14 := Z14.out; omega))
  replace EX := hid (But2.below MB EX.out (fun k hk => by have h1 := X2F_I.out _ hk; have qZ1 := Z1.out; have qZ2 := Z2.out; have qZ3 := Z3.out; have qZ4 := Z4.out; have qS0K := S0K.out; have qS0K2 := S0K2.out; have qZ5 := Z5.out; have qZ6 := Z6.out; have qZ7 := Z7.out; have qZ8 := Z8.out; have qZ9 := Z9.out; have qZ10 := Z10.out; have qZ11 := Z11.out; have qZ12 := Z12.out; have qZ13 := Z13.out; have qZ14 := Z14.out; omega) (fun k hk => by have h1 := X2G_I.out _ hk; have qZ1 := Z1.out; have qZ2 := Z2.out; have qZ3 := Z3.out; have qZ4 := Z4.out; have qS0K := S0K.out; have qS0K2 := S0K2.out; have qZ5 := Z5.out; have qZ6 := Z6.out; have qZ7 := Z7.out; have qZ8 := Z8.out; have qZ9 := Z9.out; have qZ10 := Z10.out; have qZ11 := Z11.out; have qZ12 := Z12.out; have qZ13 := Z13.out; have qZ14 := Z14.out; omega))
  replace X2F_ := hid MO
  replace X2G_ := hid MP
  clear MO MP MB
  clear X2F_ X2F_I
  clear X2G_ X2G_I
  obtain ⟨A00, A01, A02, A03, A0l⟩ := Box.cells4 A0.out
  obtain ⟨A10, A11, A1l⟩ := Box.cells2 A1.out
  obtain ⟨A20, A21, A2l⟩ := Box.cells2 A2.out
  obtain ⟨S0B0, S0B1, S0Bl⟩ := Box.cells2 S0B.out
  obtain ⟨X0B0, X0B1, X0B2, X0B3, X0Bl⟩ := Box.cells4 X0B.out
  obtain ⟨X1B0, X1B1, X1Bl⟩ := Box.cells2 X1B.out
  obtain ⟨X2B0, X2B1, X2Bl⟩ := Box.cells2 X2B.out
  obtain ⟨G0B0, G0B1, G0Bl⟩ := Box.cells2 G0B.out
  go_wp2_with fail
  refine (eqWaves_yes _ _ _ _ _ _ _ _ _ _ G0z G0y S0z S0y _ (own_hold G0F_.out) (own_hold G0G_.out) (own_hold S0F_.out) (own_hold S0G_.out) hL0_0 hL0_1 (by rw [G0e.out, S0e.out]) (by rw [G0g.out, S0g.out])).mono ?_
  rintro e w16 ⟨rfl, E0⟩
  clear A00 A01 A02 A03 A0l A10 A11 A1l A20 A21 A2l S0B0 S0B1 S0Bl X0B0 X0B1 X0B2 X0B3 X0Bl X1B0 X1B1 X1Bl X2B0 X2B1 X2Bl G0B0 G0B1 G0Bl
  have EK := E0
  have Z16 := hid (show w15.heap.size ≤ w16.heap.size from Ext.size E0)
  replace A0 := hid (Box.ext A0.out EK)
  replace A1 := hid (Box.ext A1.out EK)
  replace A2 := hid (Box.ext A2.out EK)
  replace S0B := hid (Box.ext S0B.out EK)
  replace X0B := hid (Box.ext X0B.out EK)
  replace X1B := hid (Box.ext X1B.out EK)
  replace X2B := hid (Box.ext X2B.out EK)
  replace G0B := hid (Box.ext G0B.out EK)
  replace S0F_ := hid (Own.ext S0F_.out EK)
  replace S0G_ := hid (Own.ext S0G_.out EK)
  replace G0F_ := hid (Own.ext G0F_.out EK)
  replace G0G_ := hid (Own.ext G0G_.out EK)
  replace EX := hid (Ext.trans EX.out EK)
  clear EK E0
  obtain ⟨A00, A01, A02, A03, A0l⟩ := Box.cells4 A0.out
  obtain ⟨A10, A11, A1l⟩ := Box.cells2 A1.out
  obtain ⟨A20, A21, A2l⟩ := Box.cells2 A2.out
  obtain ⟨S0B0, S0B1, S0Bl⟩ := Box.cells2 S0B.out
  obtain ⟨X0B0, X0B1, X0B2, X0B3, X0Bl⟩ := Box.cells4 X0B.out
  obtain ⟨X1B0, X1B1, X1Bl⟩ := Box.cells2 X1B.out
  obtain ⟨X2B0, X2B1, X2Bl⟩ := Box.cells2 X2B.out
  obtain ⟨G0B0, G0B1, G0Bl⟩ := Box.cells2 G0B.out
  go_wp2_with fail
  refine (markWavesK_any (1) _ _ R.r.length R.l.length _ _ _ G0z G0y _ G0F_.out G0G_.out hL0_0 hL0_1 G0N.out (by omega)).mono ?_
  rintro e w17 ⟨rfl, MO, MP, MB⟩
  clear A00 A01 A02 A03 A0l A10 A11 A1l A20 A21 A2l S0B0 S0B1 S0Bl X0B0 X0B1 X0B2 X0B3 X0Bl X1B0 X1B1 X1Bl X2B0 X2B1 X2Bl G0B0 G0B1 G0Bl
  have Z17 := hid (show w16.heap.size ≤ w17.heap.size from MB.size)
  replace A0 := hid (But2.box MB A0.out (fun hk => by have h1 := G0F_I.out _ hk; have qZ1 := Z1.out; have qZ2 := Z2.out; have qZ3 := Z3.out; have qZ4 := Z4.out; have qS0K := S0K.out; have qS0K2 := S0K2.out; have qZ5 := Z5.out; have qZ6 := Z6.out; have qZ7 := Z7.out; have qZ8 := Z8.out; have qZ9 := Z9.out; have qZ10 := Z10.out; have qZ11 := Z11.out; have qZ12 := Z12.out; have qZ13 := Z13.out; have qZ14 := Z14.out; have qZ15 := Z15.out; have qZ16 := Z16.out; omega) (fun hk => by have h1 := G0G_I.out _ hk; have qZ1 := Z1.out; have qZ2 := Z2.out; have qZ3 := Z3.out; have qZ4 := Z4.out; have qS0K := S0K.out; have qS0K2 := S0K2.out; have qZ5 := Z5.out; have qZ6 := Z6.out; have qZ7 := Z7.out; have qZ8 := Z8.out; have qZ9 := Z9.out; have qZ10 := Z10.out; have qZ11 := Z11.out; have qZ12 := Z12.out; have qZ13 := Z13.out; have qZ14 := Z14.out; have qZ15 := Z15.out; have qZ16 := Z16.out; omega))
  replace A1 := hid (But2.box MB A1.out (fun hk => by have h1 := G0F_I.out _ hk; have qZ1 := Z1.out; have qZ2 := Z2.out; have qZ3 := Z3.out; have qZ4 := Z4.out; have qS0K := S0K.out; have qS0K2 := S0K2.out; have qZ5 := Z5.out; have qZ6 := Z6.out; have qZ7 := Z7.out; have qZ8 := Z8.out; have qZ9 := Z9.out; have qZ10 := Z10.out; have qZ11 := Z11.out; have qZ12 := Z12.out; have qZ13 := Z13.out; have qZ14 := Z14.out; have qZ15 := Z15.out; have qZ16 := Z16.out; omega) (fun hk => by have h1 := G0G_I.out _ hk; have qZ1 := Z1.out; have qZ2 := Z2.out; have qZ3 := Z3.out; have qZ4 := Z4.out; have qS0K := S0K.out; have qS0K2 := S0K2.out; have qZ5 := Z5.out; have qZ6 := Z6.out; have qZ7 := Z7.out; have qZ8 := Z8.out; have qZ9 := Z9.out; have qZ10 := Z10.out; have qZ11 := Z11.out; have qZ12 := Z12.out; have qZ13 := Z13.out; have qZ14 := Z14.out; have qZ15 := Z15.out; have qZ16 := Z16.out; omega))
  replace A2 := hid (But2.box MB A2.out (fun hk => by have h1 := G0F_I.out _ hk; have qZ1 := Z1.out; have qZ2 := Z2.out; have qZ3 := Z3.out; have qZ4 := Z4.out; have qS0K := S0K.out; have qS0K2 := S0K2.out; have qZ5 := Z5.out; have qZ6 := Z6.out; have qZ7 := Z7.out; have qZ8 := Z8.out; have qZ9 := Z9.out; have qZ10 := Z10.out; have qZ11 := Z11.out; have qZ12 := Z12.out; have qZ13 := Z13.out; have qZ14 := Z14.out; have qZ15 := Z15.out; have qZ16 := Z16.out; omega) (fun hk => by have h1 := G0G_I.out _ hk; have qZ1 := Z1.out; have qZ2 := Z2.out; have qZ3 := Z3.out; have qZ4 := Z4.out; have qS0K := S0K.out; have qS0K2 := S0K2.out; have qZ5 := Z5.out; have qZ6 := Z6.out; have qZ7 := Z7.out; have qZ8 := Z8.out; have qZ9 := Z9.out; have qZ10 := Z10.out; have qZ11 := Z11.out; have qZ12 := Z12.out; have qZ13 := Z13.out; have qZ14 := Z14.out; have qZ15 := Z15.out; have qZ16 := Z16.out; omega))
  replace S0B := hid (But2.box MB S0B.out (fun hk => by have h1 := G0F_I.out _ hk; have qZ1 := Z1.out; have qZ2 := Z2.out; have qZ3 := Z3.out; have qZ4 := Z4.out; have qS0K := S0K.out; have qS0K2 := S0K2.out; have qZ5 := Z5.out; have qZ6 := Z6.out; have qZ7 := Z7.out; have qZ8 := Z8.out; have qZ9 := Z9.out; have qZ10 := Z10.out; have qZ11 := Z11.out; have qZ12 := Z12.out; have qZ13 := Z13.out; have qZ14 := Z14.out; have qZ15 := Z15.out; have qZ16 := Z16.out; omega) (fun hk => by have h1 := G0G_I.out _ hk; have qZ1 := Z1.out; have qZ2 := Z2.out; have qZ3 := Z3.out; have qZ4 := Z4.out; have qS0K := S0K.out; have qS0K2 := S0K2.out; have qZ5 := Z5.out; have qZ6 := Z6.out; have qZ7 := Z7.out; have qZ8 := Z8.out; have qZ9 := Z9.out; have qZ10 := Z10.out; have qZ11 := Z11.out; have qZ12 := Z12.out; have qZ13 := Z13.out; have qZ14 := Z14.out; have qZ15 := Z15.out; have qZ16 := Z16.out; omega))
  replace X0B := hid (But2.box MB X0B.out (fun hk => by have h1 := G0F_I.out _ hk; have qZ1 := Z1.out; have qZ2 := Z2.out; have qZ3 := Z3.out; have qZ4 := Z4.out; have qS0K := S0K.out; have qS0K2 := S0K2.out; have qZ5 := Z5.out; have qZ6 := Z6.out; have qZ7 := Z7.out; have qZ8 := Z8.out; have qZ9 := Z9.out; have qZ10 := Z10.out; have qZ11 := Z11.out; have qZ12 := Z12.out; have qZ13 := Z13.out; have qZ14 := Z14.out; have qZ15 := Z15.out; have qZ16 := Z16.out; omega) (fun hk => by have h1 := G0G_I.out _ hk; have qZ1 := Z1.out; have qZ2 := Z2.out; have qZ3 := Z3.out; have qZ4 := Z4.out; have qS0K := S0K.out; have qS0K2 := S0K2.out; have qZ5 := Z5.out; have qZ6 := Z6.out; have qZ7 := Z7.out; have qZ8 := Z8.out; have qZ9 := Z9.out; have qZ10 := Z10.out; have qZ11 := Z11.out; have qZ12 := Z12.out; have qZ13 := Z13.out; have qZ14 := Z14.out; have qZ15 := Z15.out; have qZ16 := Z16.out; omega))
  replace X1B := hid (But2.box MB X1B.out (fun hk => by have h1 := G0F_I.out _ hk; have qZ1 := Z1.out; have qZ2 := Z2.out; have qZ3 := Z3.out; have qZ4 := Z4.out; have qS0K := S0K.out; have qS0K2 := S0K2.out; have qZ5 := Z5.out; have qZ6 := Z6.out; have qZ7 := Z7.out; have qZ8 := Z8.out; have qZ9 := Z9.out; have qZ10 := Z10.out; have qZ11 := Z11.out; have qZ12 := Z12.out; have qZ13 := Z13.out; have qZ14 := Z14.out; have qZ15 := Z15.out; have qZ16 := Z16.out; omega) (fun hk => by have h1 := G0G_I.out _ hk; have qZ1 := Z1.out; have qZ2 := Z2.out; have qZ3 := Z3.out; have qZ4 := Z4.out; have qS0K := S0K.out; have qS0K2 := S0K2.out; have qZ5 := Z5.out; have qZ6 := Z6.out; have qZ7 := Z7.out; have qZ8 := Z8.out; have qZ9 := Z9.out; have qZ10 := Z10.out; have qZ11 := Z11.out; have qZ12 := Z12.out; have qZ13 := Z13.out; have qZ14 := Z14.out; have qZ15 := Z15.out; have qZ16 := Z16.out; omega))
  replace X2B := hid (But2.box MB X2B.out (fun hk => by have h1 := G0F_I.out _ hk; have qZ1 := Z1.out; have qZ2 := Z2.out; have qZ3 := Z3.out; have qZ4 := Z4.out; have qS0K := S0K.out; have qS0K2 := S0K2.out; have qZ5 := Z5.out; have qZ6 := Z6.out; have qZ7 := Z7.out; have qZ8 := Z8.out; have qZ9 := Z9.out; have qZ10 := Z10.out; have qZ11 := Z11.out; have qZ12 := Z12.out; have qZ13 := Z13.out; have qZ14 := Z14.out; have qZ15 := Z15.out; have qZ16 := Z16.out; omega) (fun hk => by have h1 := G0G_I.out _ hk; have qZ1 := Z1.out; have qZ2 := Z2.out; have qZ3 := Z3.out; have qZ4 := Z4.out; have qS0K := S0K.out; have qS0K2 := S0K2.out; have qZ5 := Z5.out; have qZ6 := Z6.out; have qZ7 := Z7.out; have qZ8 := Z8.out; have qZ9 := Z9.out; have qZ10 := Z10.out; have qZ11 := Z11.out; have qZ12 := Z12.out; have qZ13 := Z13.out; have qZ14 := Z14.out; have qZ15 := Z15.out; have qZ16 := Z16.out; omega))
  replace G0B := hid (But2.box MB G0B.out (fun hk => by have h1 := G0F_I.out _ hk; have qZ1 := Z1.out; have qZ2 := Z2.out; have qZ3 := Z3.out; have qZ4 := Z4.out; have qS0K := S0K.out; have qS0K2 := S0K2.out; have qZ5 := Z5.out; have qZ6 := Z6.out; have qZ7 := Z7.out; have qZ8 := Z8.out; have qZ9 := Z9.out; have qZ10 := Z10.out; have qZ11 := Z11.out; have qZ12 := Z12.out; have qZ13 := Z13.out; have qZ14 := Z14.out; have qZ15 := Z15.out; have qZ16 := Z16.out; omega) (fun hk => by have h1 := G0G_I.out _ hk; have qZ1 := Z1.out; have qZ2 := Z2.out; have qZ3 := Z3.out; have qZ4 := Z4.out; have qS0K := S0K.out; have qS0K2 := S0K2.out; have qZ5 := Z5.out; have qZ6 := Z6.out; have qZ7 := Z7.out; have qZ8 := Z8.out; have qZ9 := Z9.out; have qZ10 := Z10.out; have qZ11 := Z11.out; have qZ12 := Z12.out; have qZ13 := Z13.out; have qZ14 := Z14.out; have qZ15 := Z15.out; have qZ16 := Z16.out; omega))
  replace S0F_ := hid (But2.own MB S0F_.out (fun k hk hk2 => by have h1 := G0F_I.out _ hk2; have h2 := S0F_I.out _ hk; have qZ1 := Z1.out; have qZ2 := Z2.out; have qZ3 := Z3.out; have qZ4 := Z4.out; have qS0K := S0K.out; have qS0K2 := S0K2.out; have qZ5 := Z5.out; have qZ6 := Z6.out; have qZ7 := Z7.out; have qZ8 := Z8.out; have qZ9 := Z9.out; have qZ10 := Z10.out; have qZ11 := Z11.out; have qZ12 := Z12.out; have qZ13 := Z13.out; have qZ14 := Z14.out; have qZ15 := Z15.out; have qZ16 := Z16.out; omega) (fun k hk hk2 => by have h1 := G0G_I.out _ hk2; have h2 := S0F_I.out _ hk; have qZ1 := Z1.out; have qZ2 := Z2.out; have qZ3 := Z3.out; have qZ4 := Z4.out; have qS0K := S0K.out; have qS0K2 := S0K2.out; have qZ5 := Z5.out; have qZ6 := Z6.out; have qZ7 := Z7.out; have qZ8 := Z8.out; have qZ9 := Z9.out; have qZ10 := Z10.out; have qZ11 := Z11.out; have qZ12 := Z12.out; have qZ13 := Z13.out; have qZ14 := Z14.out; have qZ15 := Z15.out; have qZ16 := Z16.out; omega))
  replace S0G_ := hid (But2.own MB S0G_.out (fun k hk hk2 => by have h1 := G0F_I.out _ hk2; have h2 := S0G_I.out _ hk; have qZ1 := Z1.out; have qZ2 := Z2.out; have qZ3 := Z3.out; have qZ4 := Z4.out; have qS0K := S0K.out; have qS0K2 := S0K2.out; have qZ5 := Z5.out; have qZ6 := Z6.out; have qZ7 := Z7.out; have qZ8 := Z8.out; have qZ9 := Z9.out; have qZ10 := Z10.out; have qZ11 := Z11.out; have qZ12 := Z12.out; have qZ13 := Z13.out; have qZ14 := Z14.out; have qZ15 := Z15.out; have qZ16 := Z16.out; omega) (fun k hk hk2 => by have h1 := G0G_I.out _ hk2; have h2 := S0G_I.out _ hk; have qZ1 := Z1.out; have qZ2 := Z2.out; have qZ3 := Z3.out; have qZ4 := Z4.out; have qS0K := S0K.out; have qS0K2 := S0K2.out; have qZ5 := Z5.out; have qZ6 := Z6.out; have qZ7 := Z7.out; have qZ8 := Z8.out; have qZ9 := Z9.out; have qZ10 := Z10.out; have qZ11 := Z11.out; have qZ12 := Z12.out; have qZ13 := Z13.out; have qZ14 := Z14.out; have qZ15 := Z15.out; have qZ16 := Z16.out; omega))
  replace EX := hid (But2.below MB EX.out (fun k hk => by have h1 := G0F_I.out _ hk; have qZ1 := Z1.out; have qZ2 := Z2.out; have qZ3 := Z3.out; have qZ4 := Z4.out; have qS0K := S0K.out; have qS0K2 := S0K2.out; have qZ5 := Z5.out; have qZ6 := Z6.out; have qZ7 := Z7.out; have qZ8 := Z8.out; have qZ9 := Z9.out; have qZ10 := Z10.out; have qZ11 := Z11.out; have qZ12 := Z12.out; have qZ13 := Z13.out; have qZ14 := Z14.out; have qZ15 := Z15.out; have qZ16 := Z16.out; omega) (fun k hk => by have h1 := G0G_I.out _ hk; have qZ1 := Z1.out; have qZ2 := Z2.out; have qZ3 := Z3.out; have qZ4 := Z4.out; have qS0K := S0K.out; have qS0K2 := S0K2.out; have qZ5 := Z5.out; have qZ6 := Z6.out; have qZ7 := Z7.out; have qZ8 := Z8.out; have qZ9 := Z9.out; have qZ10 := Z10.out; have qZ11 := Z11.out; have qZ12 := Z12.out; have qZ13 := Z13.out; have qZ14 := Z14.out; have qZ15 := Z15.out; have qZ16 := Z16.out; omega))
  replace G0F_ := hid MO
  replace G0G_ := hid MP
  clear MO MP MB
  obtain ⟨A00, A01, A02, A03, A0l⟩ := Box.cells4 A0.out
  obtain ⟨A10, A11, A1l⟩ := Box.cells2 A1.out
  obtain ⟨A20, A21, A2l⟩ := Box.cells2 A2.out
  obtain ⟨S0B0, S0B1, S0Bl⟩ := Box.cells2 S0B.out
  obtain ⟨X0B0, X0B1, X0B2, X0B3, X0Bl⟩ := Box.cells4 X0B.out
  obtain ⟨X1B0, X1B1, X1Bl⟩ := Box.cells2 X1B.out
  obtain ⟨X2B0, X2B1, X2Bl⟩ := Box.cells2 X2B.out
  obtain ⟨G0B0, G0B1, G0Bl⟩ := Box.cells2 G0B.out
  go_wp2_with fail
  refine (heldWavesK_any (1) _ _ _ _ _ _ _ _ G0F_.out G0G_.out hL0_0 hL0_1 (by omega)).mono ?_
  rintro e w18 ⟨rfl, E0⟩
  clear A00 A01 A02 A03 A0l A10 A11 A1l A20 A21 A2l S0B0 S0B1 S0Bl X0B0 X0B1 X0B2 X0B3 X0Bl X1B0 X1B1 X1Bl X2B0 X2B1 X2Bl G0B0 G0B1 G0Bl
  have EK := E0
  have Z18 := hid (show w17.heap.size ≤ w18.heap.size from Ext.size E0)
  replace A0 := hid (Box.ext A0.out EK)
  replace A1 := hid (Box.ext A1.out EK)
  replace A2 := hid (Box.ext A2.out EK)
  replace S0B := hid (Box.ext S0B.out EK)
  replace X0B := hid (Box.ext X0B.out EK)
  replace X1B := hid (Box.ext X1B.out EK)
  replace X2B := hid (Box.ext X2B.out EK)
  replace G0B := hid (Box.ext G0B.out EK)
  replace S0F_ := hid (Own.ext S0F_.out EK)
  replace S0G_ := hid (Own.ext S0G_.out EK)
  replace G0F_ := hid (Own.ext G0F_.out EK)
  replace G0G_ := hid (Own.ext G0G_.out EK)
  replace EX := hid (Ext.trans EX.out EK)
  clear EK E0
  obtain ⟨A00, A01, A02, A03, A0l⟩ := Box.cells4 A0.out
  obtain ⟨A10, A11, A1l⟩ := Box.cells2 A1.out
  obtain ⟨A20, A21, A2l⟩ := Box.cells2 A2.out
  obtain ⟨S0B0, S0B1, S0Bl⟩ := Box.cells2 S0B.out
  obtain ⟨X0B0, X0B1, X0B2, X0B3, X0Bl⟩ := Box.cells4 X0B.out
  obtain ⟨X1B0, X1B1, X1Bl⟩ := Box.cells2 X1B.out
  obtain ⟨X2B0, X2B1, X2Bl⟩ := Box.cells2 X2B.out
  obtain ⟨G0B0, G0B1, G0Bl⟩ := Box.cells2 G0B.out
  clear A00 A01 A02 A03 A0l A10 A11 A1l A20 A21 A2l S0B0 S0B1 S0Bl X0B0 X0B1 X0B2 X0B3 X0Bl X1B0 X1B1 X1Bl X2B0 X2B1 X2Bl G0B0 G0B1 G0Bl
  obtain ⟨A00, A01, A02, A03, A0l⟩ := Box.cells4 A0.out
  obtain ⟨A10, A11, A1l⟩ := Box.cells2 A1.out
  obtain ⟨A20, A21, A2l⟩ := Box.cells2 A2.out
  obtain ⟨S0B0, S0B1, S0Bl⟩ := Box.cells2 S0B.out
  obtain ⟨X0B0, X0B1, X0B2, X0B3, X0Bl⟩ := Box.cells4 X0B.out
  obtain ⟨X1B0, X1B1, X1Bl⟩ := Box.cells2 X1B.out
  obtain ⟨X2B0, X2B1, X2Bl⟩ := Box.cells2 X2B.out
  obtain ⟨G0B0, G0B1, G0Bl⟩ := Box.cells2 G0B.out
  go_upto_region 38 with (fail)
  go_cut [18, 19] (fun s18 s19 wx => ∃ (H0k : Nat), ∃ (H0a : Option Addr), ∃ (H0c : Nat), ∃ (H0b : Option Addr), ∃ (H0d : Nat), ∃ (H0z : List Nat), ∃ (H0y : List Nat), s18 = .pointer (some ⟨H0k, 0, none⟩) ∧ s19 = .bool R.ok ∧ Hid (Box wx H0k #[.slice H0a R.r.length H0c, .slice H0b R.l.length H0d]) ∧ Hid (w18.heap.size ≤ H0k) ∧ Hid (Own wx w18.heap.size R.r.length (.slice H0a R.r.length H0c) H0z) ∧ Hid (Own wx w18.heap.size R.l.length (.slice H0b R.l.length H0d) H0y) ∧ Hid (H0z.map (cls .f32) = R.r) ∧ Hid (H0y.map (cls .f32) = R.l) ∧ Hid (∀ k, (Value.slice H0a R.r.length H0c).ownBlock = some k → (Value.slice H0b R.l.length H0d).ownBlock ≠ some k) ∧ Ext w18 wx)
  case first =>
    go_region_held3 (fun w' => (w'.cell? ⟨w.heap.size, 0, none⟩ = some (.slice a0 n0 c0) ∧ w'.cell? ⟨w.heap.size, 1, none⟩ = some (.float .f32 l0) ∧ w'.cell? ⟨w.heap.size, 2, none⟩ = some (.float .f32 t0) ∧ w'.cell? ⟨w.heap.size, 3, none⟩ = some (.float .f32 p0)) ∧ (w'.cell? ⟨w.heap.size + 1, 0, none⟩ = some (.slice a1 n1 c1) ∧ w'.cell? ⟨w.heap.size + 1, 1, none⟩ = some (.slice b1 m1 d1)) ∧ (w'.cell? ⟨w.heap.size + 1 + 1, 0, none⟩ = some (.slice a2 n2 c2) ∧ w'.cell? ⟨w.heap.size + 1 + 1, 1, none⟩ = some (.slice b2 m2 d2)))
      (first | (refine keep_of (c := w18) (S := fun w' => (w'.cell? ⟨w.heap.size, 0, none⟩ = some (.slice a0 n0 c0) ∧ w'.cell? ⟨w.heap.size, 1, none⟩ = some (.float .f32 l0) ∧ w'.cell? ⟨w.heap.size, 2, none⟩ = some (.float .f32 t0) ∧ w'.cell? ⟨w.heap.size, 3, none⟩ = some (.float .f32 p0)) ∧ (w'.cell? ⟨w.heap.size + 1, 0, none⟩ = some (.slice a1 n1 c1) ∧ w'.cell? ⟨w.heap.size + 1, 1, none⟩ = some (.slice b1 m1 d1)) ∧ (w'.cell? ⟨w.heap.size + 1 + 1, 0, none⟩ = some (.slice a2 n2 c2) ∧ w'.cell? ⟨w.heap.size + 1 + 1, 1, none⟩ = some (.slice b2 m2 d2))) (fun u hu => ⟨⟨Box.cell (Box.ext A0.out hu) 0, Box.cell (Box.ext A0.out hu) 1, Box.cell (Box.ext A0.out hu) 2, Box.cell (Box.ext A0.out hu) 3⟩, ⟨Box.cell (Box.ext A1.out hu) 0, Box.cell (Box.ext A1.out hu) 1⟩, ⟨Box.cell (Box.ext A2.out hu) 0, Box.cell (Box.ext A2.out hu) 1⟩⟩) ?_; ((repeat with_reducible (first | exact Ext.refl _ | exact ext_alloc _ _ | refine Ext.trans ?_ EC | refine Ext.trans ?_ ED0 | refine Ext.trans ?_ ED1 | refine Ext.trans ?_ ED2 | refine Ext.drewN ?_ _ | refine Ext.drew1 ?_ | refine Ext.alloc ?_ _ | refine Ext.set ?_ ?_ _)); all_goals ((have s0 := Ext.size ED0; have s1 := Ext.size ED1; have s2 := Ext.size ED2; have sC := Ext.size EC; (try simp at s0); (try simp at s1); (try simp at s2); (try simp at sC); (first | omega | (simp; omega) | (simp; done)))))))
      (first | (go_at_call 17; with_reducible refine (toTube_any _ _ _ _ _ _ z0 _ (IsRowF.ext Rw0.out (Ext.trans EX.out (by (repeat with_reducible (first | exact Ext.refl _ | exact ext_alloc _ _ | refine Ext.trans ?_ EC | refine Ext.trans ?_ ED0 | refine Ext.trans ?_ ED1 | refine Ext.trans ?_ ED2 | refine Ext.drewN ?_ _ | refine Ext.drew1 ?_ | refine Ext.alloc ?_ _))))) hn0).mono ?_; rintro e wD0 ⟨Y0b, rfl, Y0F, ED0⟩) | (go_at_call 30; with_reducible refine (toWaves_any _ _ _ _ _ _ z1 y1 _ (IsRowF.ext Rw1.out (Ext.trans EX.out (by (repeat with_reducible (first | exact Ext.refl _ | exact ext_alloc _ _ | refine Ext.trans ?_ EC | refine Ext.trans ?_ ED0 | refine Ext.trans ?_ ED1 | refine Ext.trans ?_ ED2 | refine Ext.drewN ?_ _ | refine Ext.drew1 ?_ | refine Ext.alloc ?_ _))))) (IsRowF.ext Rv1.out (Ext.trans EX.out (by (repeat with_reducible (first | exact Ext.refl _ | exact ext_alloc _ _ | refine Ext.trans ?_ EC | refine Ext.trans ?_ ED0 | refine Ext.trans ?_ ED1 | refine Ext.trans ?_ ED2 | refine Ext.drewN ?_ _ | refine Ext.drew1 ?_ | refine Ext.alloc ?_ _))))) hn1 hm1).mono ?_; rintro e wD1 ⟨Y1b, Y1d, rfl, Y1F, Y1G, Y1N, ED1⟩) | (go_at_call 30; with_reducible refine (toWaves_any _ _ _ _ _ _ z2 y2 _ (IsRowF.ext Rw2.out (Ext.trans EX.out (by (repeat with_reducible (first | exact Ext.refl _ | exact ext_alloc _ _ | refine Ext.trans ?_ EC | refine Ext.trans ?_ ED0 | refine Ext.trans ?_ ED1 | refine Ext.trans ?_ ED2 | refine Ext.drewN ?_ _ | refine Ext.drew1 ?_ | refine Ext.alloc ?_ _))))) (IsRowF.ext Rv2.out (Ext.trans EX.out (by (repeat with_reducible (first | exact Ext.refl _ | exact ext_alloc _ _ | refine Ext.trans ?_ EC | refine Ext.trans ?_ ED0 | refine Ext.trans ?_ ED1 | refine Ext.trans ?_ ED2 | refine Ext.drewN ?_ _ | refine Ext.drew1 ?_ | refine Ext.alloc ?_ _))))) hn2 hm2).mono ?_; rintro e wD2 ⟨Y2b, Y2d, rfl, Y2F, Y2G, Y2N, ED2⟩) | (go_at_call 31; refine (add_any _ _ _ _ _ _ _ _ _ _ _ _ _ _ _ _ _ _ (z0.take n0) (z1.take n1) (y1.take m1) (z2.take n2) (y2.take m2) R _ (own_hold (Own.ext Y0F (by (repeat with_reducible (first | exact Ext.refl _ | exact ext_alloc _ _ | refine Ext.trans ?_ EC | refine Ext.trans ?_ ED0 | refine Ext.trans ?_ ED1 | refine Ext.trans ?_ ED2 | refine Ext.drewN ?_ _ | refine Ext.drew1 ?_ | refine Ext.alloc ?_ _))))) (own_hold (Own.ext Y1F (by (repeat with_reducible (first | exact Ext.refl _ | exact ext_alloc _ _ | refine Ext.trans ?_ EC | refine Ext.trans ?_ ED0 | refine Ext.trans ?_ ED1 | refine Ext.trans ?_ ED2 | refine Ext.drewN ?_ _ | refine Ext.drew1 ?_ | refine Ext.alloc ?_ _))))) (own_hold (Own.ext Y1G (by (repeat with_reducible (first | exact Ext.refl _ | exact ext_alloc _ _ | refine Ext.trans ?_ EC | refine Ext.trans ?_ ED0 | refine Ext.trans ?_ ED1 | refine Ext.trans ?_ ED2 | refine Ext.drewN ?_ _ | refine Ext.drew1 ?_ | refine Ext.alloc ?_ _))))) (own_hold (Own.ext Y2F (by (repeat with_reducible (first | exact Ext.refl _ | exact ext_alloc _ _ | refine Ext.trans ?_ EC | refine Ext.trans ?_ ED0 | refine Ext.trans ?_ ED1 | refine Ext.trans ?_ ED2 | refine Ext.drewN ?_ _ | refine Ext.drew1 ?_ | refine Ext.alloc ?_ _))))) (own_hold (Own.ext Y2G (by (repeat with_reducible (first | exact Ext.refl _ | exact ext_alloc _ _ | refine Ext.trans ?_ EC | refine Ext.trans ?_ ED0 | refine Ext.trans ?_ ED1 | refine Ext.trans ?_ ED2 | refine Ext.drewN ?_ _ | refine Ext.drew1 ?_ | refine Ext.alloc ?_ _))))) hn0 hn1 hm1 hn2 hm2 HR.out).mono ?_; rintro e wC ⟨Hv0, rfl, HT0, EC⟩; obtain ⟨H0a, H0c, H0b, H0d, H0z, H0y, rfl, H0F, H0G, H0e, H0g, H0N⟩ := HT0; try (apply with_box (w' := wC) (vs := #[.slice none 0 0, .slice none 0 0]) (t := 43); (· (repeat with_reducible (first | exact Ext.refl _ | exact ext_alloc _ _ | refine Ext.trans ?_ EC | refine Ext.trans ?_ ED0 | refine Ext.trans ?_ ED1 | refine Ext.trans ?_ ED2 | refine Ext.drewN ?_ _ | refine Ext.drew1 ?_ | refine Ext.alloc ?_ _))); intro BN; obtain ⟨bn0, bn1, bf0, bf1, bnl⟩ := Box.all2 BN)))
    all_goals
      go_wp2_with fail
      go_meet
      refine ⟨_, H0a, H0c, H0b, H0d, H0z, H0y, rfl, rfl, ?_, ?_, ?_, ?_, ?_, ?_, ?_, ?_⟩
      · first | with_reducible exact hid (box_new _ _) | exact hid (box_set2 BN _ _ )
      · refine hid ?_
        ((have s0 := Ext.size ED0; have s1 := Ext.size ED1; have s2 := Ext.size ED2; have sC := Ext.size EC; (try simp at s0); (try simp at s1); (try simp at s2); (try simp at sC); (first | omega | (simp; omega) | (simp; done))))
      · refine hid ?_
        first | (with_reducible refine Own.base (Own.alloc H0F _) ?_; ((have s0 := Ext.size ED0; have s1 := Ext.size ED1; have s2 := Ext.size ED2; have sC := Ext.size EC; (try simp at s0); (try simp at s1); (try simp at s2); (try simp at sC); (first | omega | (simp; omega) | (simp; done))))) | (refine Own.base (own_far2 H0F ?_ _ _ ) ?_; all_goals ((have s0 := Ext.size ED0; have s1 := Ext.size ED1; have s2 := Ext.size ED2; have sC := Ext.size EC; (try simp at s0); (try simp at s1); (try simp at s2); (try simp at sC); (first | omega | (simp; omega) | (simp; done)))))
      · refine hid ?_
        first | (with_reducible refine Own.base (Own.alloc H0G _) ?_; ((have s0 := Ext.size ED0; have s1 := Ext.size ED1; have s2 := Ext.size ED2; have sC := Ext.size EC; (try simp at s0); (try simp at s1); (try simp at s2); (try simp at sC); (first | omega | (simp; omega) | (simp; done))))) | (refine Own.base (own_far2 H0G ?_ _ _ ) ?_; all_goals ((have s0 := Ext.size ED0; have s1 := Ext.size ED1; have s2 := Ext.size ED2; have sC := Ext.size EC; (try simp at s0); (try simp at s1); (try simp at s2); (try simp at sC); (first | omega | (simp; omega) | (simp; done)))))
      · exact hid H0e
      · exact hid H0g
      · exact hid H0N
      · ((repeat with_reducible (first | exact Ext.refl _ | exact ext_alloc _ _ | refine Ext.trans ?_ EC | refine Ext.trans ?_ ED0 | refine Ext.trans ?_ ED1 | refine Ext.trans ?_ ED2 | refine Ext.drewN ?_ _ | refine Ext.drew1 ?_ | refine Ext.alloc ?_ _ | refine Ext.set ?_ ?_ _)); all_goals ((have s0 := Ext.size ED0; have s1 := Ext.size ED1; have s2 := Ext.size ED2; have sC := Ext.size EC; (try simp at s0); (try simp at s1); (try simp at s2); (try simp at sC); (first | omega | (simp; omega) | (simp; done)))))
  obtain ⟨H0k, H0a, H0c, H0b, H0d, H0z, H0y, rfl, rfl, H0B, H0K, H0F_, H0G_, H0e, H0g, H0N, EC⟩ := hcut
  obtain ⟨w19, hwS⟩ : ∃ u, u = wc := ⟨_, rfl⟩
  subst hwS
  clear A00 A01 A02 A03 A0l A10 A11 A1l A20 A21 A2l S0B0 S0B1 S0Bl X0B0 X0B1 X0B2 X0B3 X0Bl X1B0 X1B1 X1Bl X2B0 X2B1 X2Bl G0B0 G0B1 G0Bl
  have Z19 := hid (show w18.heap.size ≤ w19.heap.size from Ext.size EC)
  replace A0 := hid (Box.ext A0.out EC)
  replace A1 := hid (Box.ext A1.out EC)
  replace A2 := hid (Box.ext A2.out EC)
  replace S0B := hid (Box.ext S0B.out EC)
  replace X0B := hid (Box.ext X0B.out EC)
  replace X1B := hid (Box.ext X1B.out EC)
  replace X2B := hid (Box.ext X2B.out EC)
  replace G0B := hid (Box.ext G0B.out EC)
  replace S0F_ := hid (Own.ext S0F_.out EC)
  replace S0G_ := hid (Own.ext S0G_.out EC)
  replace G0F_ := hid (Own.ext G0F_.out EC)
  replace G0G_ := hid (Own.ext G0G_.out EC)
  replace EX := hid (Ext.trans EX.out EC)
  clear EC
  have H0K2 := hid (show H0k < w19.heap.size from Box.lt H0B.out)
  have H0F_I := hid (Own.block H0F_.out)
  have H0G_I := hid (Own.block H0G_.out)
  obtain ⟨A00, A01, A02, A03, A0l⟩ := Box.cells4 A0.out
  obtain ⟨A10, A11, A1l⟩ := Box.cells2 A1.out
  obtain ⟨A20, A21, A2l⟩ := Box.cells2 A2.out
  obtain ⟨S0B0, S0B1, S0Bl⟩ := Box.cells2 S0B.out
  obtain ⟨X0B0, X0B1, X0B2, X0B3, X0Bl⟩ := Box.cells4 X0B.out
  obtain ⟨X1B0, X1B1, X1Bl⟩ := Box.cells2 X1B.out
  obtain ⟨X2B0, X2B1, X2Bl⟩ := Box.cells2 X2B.out
  obtain ⟨G0B0, G0B1, G0Bl⟩ := Box.cells2 G0B.out
  obtain ⟨H0B0, H0B1, H0Bl⟩ := Box.cells2 H0B.out
  go_wp2_with fail
  refine (eqWaves_yes _ _ _ _ _ _ _ _ _ _ H0z H0y S0z S0y _ (own_hold H0F_.out) (own_hold H0G_.out) (own_hold S0F_.out) (own_hold S0G_.out) hL0_0 hL0_1 (by rw [H0e.out, S0e.out]) (by rw [H0g.out, S0g.out])).mono ?_
  rintro e w20 ⟨rfl, E0⟩
  clear A00 A01 A02 A03 A0l A10 A11 A1l A20 A21 A2l S0B0 S0B1 S0Bl X0B0 X0B1 X0B2 X0B3 X0Bl X1B0 X1B1 X1Bl X2B0 X2B1 X2Bl G0B0 G0B1 G0Bl H0B0 H0B1 H0Bl
  have EK := E0
  have Z20 := hid (show w19.heap.size ≤ w20.heap.size from Ext.size E0)
  replace A0 := hid (Box.ext A0.out EK)
  replace A1 := hid (Box.ext A1.out EK)
  replace A2 := hid (Box.ext A2.out EK)
  replace S0B := hid (Box.ext S0B.out EK)
  replace X0B := hid (Box.ext X0B.out EK)
  replace X1B := hid (Box.ext X1B.out EK)
  replace X2B := hid (Box.ext X2B.out EK)
  replace G0B := hid (Box.ext G0B.out EK)
  replace H0B := hid (Box.ext H0B.out EK)
  replace S0F_ := hid (Own.ext S0F_.out EK)
  replace S0G_ := hid (Own.ext S0G_.out EK)
  replace G0F_ := hid (Own.ext G0F_.out EK)
  replace G0G_ := hid (Own.ext G0G_.out EK)
  replace H0F_ := hid (Own.ext H0F_.out EK)
  replace H0G_ := hid (Own.ext H0G_.out EK)
  replace EX := hid (Ext.trans EX.out EK)
  clear EK E0
  obtain ⟨A00, A01, A02, A03, A0l⟩ := Box.cells4 A0.out
  obtain ⟨A10, A11, A1l⟩ := Box.cells2 A1.out
  obtain ⟨A20, A21, A2l⟩ := Box.cells2 A2.out
  obtain ⟨S0B0, S0B1, S0Bl⟩ := Box.cells2 S0B.out
  obtain ⟨X0B0, X0B1, X0B2, X0B3, X0Bl⟩ := Box.cells4 X0B.out
  obtain ⟨X1B0, X1B1, X1Bl⟩ := Box.cells2 X1B.out
  obtain ⟨X2B0, X2B1, X2Bl⟩ := Box.cells2 X2B.out
  obtain ⟨G0B0, G0B1, G0Bl⟩ := Box.cells2 G0B.out
  obtain ⟨H0B0, H0B1, H0Bl⟩ := Box.cells2 H0B.out
  go_wp2_with fail
  refine (heldWavesK_any (1) _ _ _ _ _ _ _ _ G0F_.out G0G_.out hL0_0 hL0_1 (by omega)).mono ?_
  rintro e w21 ⟨rfl, E0⟩
  clear A00 A01 A02 A03 A0l A10 A11 A1l A20 A21 A2l S0B0 S0B1 S0Bl X0B0 X0B1 X0B2 X0B3 X0Bl X1B0 X1B1 X1Bl X2B0 X2B1 X2Bl G0B0 G0B1 G0Bl H0B0 H0B1 H0Bl
  have EK := E0
  have Z21 := hid (show w20.heap.size ≤ w21.heap.size from Ext.size E0)
  replace A0 := hid (Box.ext A0.out EK)
  replace A1 := hid (Box.ext A1.out EK)
  replace A2 := hid (Box.ext A2.out EK)
  replace S0B := hid (Box.ext S0B.out EK)
  replace X0B := hid (Box.ext X0B.out EK)
  replace X1B := hid (Box.ext X1B.out EK)
  replace X2B := hid (Box.ext X2B.out EK)
  replace G0B := hid (Box.ext G0B.out EK)
  replace H0B := hid (Box.ext H0B.out EK)
  replace S0F_ := hid (Own.ext S0F_.out EK)
  replace S0G_ := hid (Own.ext S0G_.out EK)
  replace G0F_ := hid (Own.ext G0F_.out EK)
  replace G0G_ := hid (Own.ext G0G_.out EK)
  replace H0F_ := hid (Own.ext H0F_.out EK)
  replace H0G_ := hid (Own.ext H0G_.out EK)
  replace EX := hid (Ext.trans EX.out EK)
  clear EK E0
  obtain ⟨A00, A01, A02, A03, A0l⟩ := Box.cells4 A0.out
  obtain ⟨A10, A11, A1l⟩ := Box.cells2 A1.out
  obtain ⟨A20, A21, A2l⟩ := Box.cells2 A2.out
  obtain ⟨S0B0, S0B1, S0Bl⟩ := Box.cells2 S0B.out
  obtain ⟨X0B0, X0B1, X0B2, X0B3, X0Bl⟩ := Box.cells4 X0B.out
  obtain ⟨X1B0, X1B1, X1Bl⟩ := Box.cells2 X1B.out
  obtain ⟨X2B0, X2B1, X2Bl⟩ := Box.cells2 X2B.out
  obtain ⟨G0B0, G0B1, G0Bl⟩ := Box.cells2 G0B.out
  obtain ⟨H0B0, H0B1, H0Bl⟩ := Box.cells2 H0B.out
  go_wp2
  go_ret
  exact ⟨rfl, EX.out⟩
end Go.Proofs.Ytnmigjiaeahekaa
