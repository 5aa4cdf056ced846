/- The law on volumes. -/
import Derived.Test.YtogjehlepdapoabT5
import Derived.Deep.RegionHeld3
namespace Go.Proofs.Ytogjehlepdapoab
open Go.RowKit Flt

set_option maxHeartbeats 4000000 in
set_option maxRecDepth 100000 in
theorem FnExactVolumeOf_walk (a0 : Option Addr) (n0 c0 : Nat) (z0 : List Nat) (l0 t0 p0 : Nat) (w : World) (w0 : IsRowF .f32 w a0 n0 c0 z0) (wl : (Lit.float .f32 l0).wf = true) (wt : (Lit.float .f32 t0).wf = true) (wp : (Lit.float .f32 p0).wf = true) :
    Calls Try.prog 4 #[.agg #[.slice a0 n0 c0, .float .f32 l0, .float .f32 t0, .float .f32 p0]] w fun e w' => e = .returned (.bool true) ∧ Below w.heap.size w w' := by
  have hmx : n0 ≤ maxLen := row_max w0
  by_cases hbig : 1048576 < n0
  · go_enter Try.func4, Try.ntmps4
    go_wp2_with fail
    refine (szTube_no _ _ _ _ _ _ _ hmx (by omega) (by omega) _).mono ?_
    rintro e w1 ⟨rfl, E1⟩
    have EX := hid (Ext.trans (ext_alloc _ _) E1)
    clear E1
    go_wp2
    go_ret
    exact ⟨rfl, EX.out⟩
  have hn : n0 ≤ 1048576 := by omega
  have hk : (n0 : Int) ≤ 1048576 := by omega
  have hk2 : ¬ ((1048576 : Int) - (n0 : Int) < 0) := by omega
  have hk3 : ¬ (1 + (n0 : Int) < 0) := by omega
  have AR := hid w0
  obtain ⟨R, O, hR⟩ : ∃ R O, volR (z0.take n0) (cls .f32 l0) (cls .f32 t0) (cls .f32 p0) = (R, O) := ⟨_, _, rfl⟩
  have HR := hid hR
  clear hR
  clear w0 hmx hbig wl wt wp
  go_enter Try.func4, Try.ntmps4
  go_wp2_with fail
  refine (szTube_yes _ _ _ _ _ _ _ hk (by omega) _).mono ?_
  rintro e w1 ⟨rfl, E0⟩
  have EX := hid (Ext.trans (ext_alloc _ _) E0)
  have A := hid (Box.ext (box_new (w := w) #[.slice a0 n0 c0, .float .f32 l0, .float .f32 t0, .float .f32 p0] 25) E0)
  have Z1 := hid (show w.heap.size + 1 ≤ w1.heap.size from by have := Ext.size E0; simpa using this)
  clear E0
  obtain ⟨A0, A1, A2, A3, Al⟩ := Box.cells4 A.out
  go_wp2_with fail
  refine (toTube_any _ _ _ _ _ _ z0 _ (IsRowF.ext AR.out EX.out) hn).mono ?_
  rintro e w2 ⟨Yb, rfl, YF, E0⟩
  clear A0 A1 A2 A3 Al
  have EK := E0
  have Z2 := hid (show w1.heap.size ≤ w2.heap.size from Ext.size E0)
  replace A := hid (Box.ext A.out EK)
  replace EX := hid (Ext.trans EX.out EK)
  clear EK E0
  have Y := hid (Own.base YF (B' := w1.heap.size) (by simp))
  have YI := hid (Own.block Y.out)
  clear YF
  obtain ⟨A0, A1, A2, A3, Al⟩ := Box.cells4 A.out
  go_wp2_with fail
  refine (sVolume_any _ _ _ _ _ _ (z0.take n0) R O _ (own_hold Y.out) hn HR.out).mono ?_
  rintro e w3 ⟨Sv, rfl, Sr, E0⟩
  clear A0 A1 A2 A3 Al
  have EK := E0
  have Z3 := hid (show w2.heap.size ≤ w3.heap.size from Ext.size E0)
  replace A := hid (Box.ext A.out EK)
  replace Y := hid (Own.ext Y.out EK)
  replace EX := hid (Ext.trans EX.out EK)
  clear EK E0
  replace Sr := hid Sr.out
  clear Y YI
  obtain ⟨A0, A1, A2, A3, Al⟩ := Box.cells4 A.out
  go_wp2_with fail
  refine (toTube_any _ _ _ _ _ _ z0 _ (IsRowF.ext AR.out EX.out) hn).mono ?_
  rintro e w4 ⟨Xb, rfl, XF, E0⟩
  clear A0 A1 A2 A3 Al
  have EK := E0
  have Z4 := hid (show w3.heap.size ≤ w4.heap.size from Ext.size E0)
  replace A := hid (Box.ext A.out EK)
  replace EX := hid (Ext.trans EX.out EK)
  clear EK E0
  have X := hid (Own.base XF (B' := w3.heap.size) (by simp))
  have XI := hid (Own.block X.out)
  clear XF
  obtain ⟨A0, A1, A2, A3, Al⟩ := Box.cells4 A.out
  go_wp2_with fail
  refine (volume_any _ _ _ _ _ _ (z0.take n0) R O _ (Holds.alloc (own_hold X.out) _) hn HR.out).mono ?_
  rintro e w5 ⟨Gv, rfl, Gr, E0⟩
  clear A0 A1 A2 A3 Al
  have XB := hid (Box.ext (box_new (w := w4) #[.slice (some ⟨Xb, 0, none⟩) n0 n0, .float .f32 l0, .float .f32 t0, .float .f32 p0] 27) E0)
  have EK := Ext.trans (ext_alloc _ _) E0
  have Z5 := hid (show w4.heap.size + 1 ≤ w5.heap.size from by have := Ext.size E0; simpa using this)
  replace A := hid (Box.ext A.out EK)
  replace X := hid (Own.ext X.out EK)
  replace EX := hid (Ext.trans EX.out EK)
  clear EK E0
  replace Gr := hid Gr.out
  obtain ⟨A0, A1, A2, A3, Al⟩ := Box.cells4 A.out
  obtain ⟨XB0, XB1, XB2, XB3, XBl⟩ := Box.cells4 XB.out
  go_wp2_with (first | (refine wpList_widen rfl rfl Try.underlying23 Try.underlying37 rfl ?_; intro r m hr hrw) | (go_at_call 24; refine (sameFloat_yes _ _ (fwide R) (by first | (rw [← Gr.out]; assumption) | (rw [← Sr.out]; assumption)) (by first | (rw [← Gr.out]; assumption) | (rw [← Sr.out]; assumption)) _).mono ?_; rintro e w' ⟨rfl, m, rfl⟩))
  go_region_held3 (fun w' => (w'.cell? ⟨w.heap.size, 0, none⟩ = some (.slice a0 n0 c0) ∧ w'.cell? ⟨w.heap.size, 1, none⟩ = some (.float .f32 l0) ∧ w'.cell? ⟨w.heap.size, 2, none⟩ = some (.float .f32 t0) ∧ w'.cell? ⟨w.heap.size, 3, none⟩ = some (.float .f32 p0)) ∧ w'.cell? ⟨w4.heap.size, 0, none⟩ = some (.slice (some ⟨Xb, 0, none⟩) n0 n0) ∧ w'.cell? ⟨w4.heap.size, 1, none⟩ = some (.float .f32 l0) ∧ w'.cell? ⟨w4.heap.size, 2, none⟩ = some (.float .f32 t0) ∧ w'.cell? ⟨w4.heap.size, 3, none⟩ = some (.float .f32 p0))
    (first | exact cells44 A.out XB.out | exact cells44 (Box.ext A.out E6) (Box.ext XB.out E6) | exact cells44 (Box.ext (Box.ext A.out E6) E7) (Box.ext (Box.ext XB.out E6) E7))
    (first | (go_at_call 17; refine (toTube_any _ _ _ _ _ _ z0 _ (by have hq := IsRowF.ext AR.out EX.out; exact hq) hn).mono ?_; rintro e wA ⟨b3, rfl, YO, E60⟩; have E6 : Ext w5 wA := (by first | exact Ext.trans (Ext.drew1 (Ext.drewN (Ext.refl _) _)) E60 | exact Ext.trans (Ext.drew1 (Ext.refl _)) E60); clear E60) | (go_at_call 19; refine (eqTube_yes _ _ _ _ _ _ _ _ _ _ _ _ _ _ (own_hold (Own.ext X.out E6)) (own_hold YO) hn rfl rfl rfl rfl).mono ?_; rintro e w6 ⟨rfl, E7⟩))
  have EK := Ext.trans E6 E7
  have Z6 := hid (show w5.heap.size ≤ w6.heap.size from Ext.size EK)
  clear A0 A1 A2 A3 Al XB0 XB1 XB2 XB3 XBl
  replace A := hid (Box.ext A.out EK)
  replace XB := hid (Box.ext XB.out EK)
  replace X := hid (Own.ext X.out EK)
  replace EX := hid (Ext.trans EX.out EK)
  clear EK E6 E7 YO
  go_wp2
  go_ret
  exact ⟨rfl, EX.out⟩
end Go.Proofs.Ytogjehlepdapoab
