/- Voices that are the same. -/
import Derived.Test.YtkmgkcbbbaioiaaV6
import Derived.Deep.RegionHeld3
namespace Go.Proofs.Ytkmgkcbbbaioiaa
open Go.RowKit Flt
set_option linter.unusedVariables false

set_option maxHeartbeats 8000000 in
set_option maxRecDepth 100000 in
theorem FnExactSameVoice_walk (vp0 vn0 : Nat) (vs0 : Int) (vp1 vn1 : Nat) (vs1 : Int) (w : World) (wvp0 : (Lit.float .f32 vp0).wf = true) (wvn0 : (Lit.float .f32 vn0).wf = true) (wvs0 : (Lit.int .i64 vs0).wf = true) (wvp1 : (Lit.float .f32 vp1).wf = true) (wvn1 : (Lit.float .f32 vn1).wf = true) (wvs1 : (Lit.int .i64 vs1).wf = true) :
    Calls Try.prog 7 #[.agg #[.float .f32 vp0, .float .f32 vn0, .int .i64 vs0], .agg #[.float .f32 vp1, .float .f32 vn1, .int .i64 vs1]] w fun e w' => e = .returned (.bool true) ∧ Below w.heap.size w w' := by
  obtain ⟨V, hV⟩ : ∃ V, sameV vp0 vn0 vs0 vp1 vn1 vs1 = V := ⟨_, rfl⟩
  have HV := hid hV
  have Kvp0 := hid (wf32 wvp0)
  have Kvn0 := hid (wf32 wvn0)
  have Kvp1 := hid (wf32 wvp1)
  have Kvn1 := hid (wf32 wvn1)
  clear hV
  clear wvp0 wvn0 wvs0 wvp1 wvn1 wvs1
  go_enter Try.func7, Try.ntmps7
  go_wp2_with fail
  obtain ⟨w0, hw0⟩ : ∃ u, u = ((w.alloc (.cells #[.float .f32 vp0, .float .f32 vn0, .int .i64 vs0] 37)).alloc (.cells #[.float .f32 vp1, .float .f32 vn1, .int .i64 vs1] 37)) := ⟨_, rfl⟩
  rw [← hw0]
  have EX := hid (show Ext w w0 from by rw [hw0]; (repeat with_reducible (first | exact Ext.refl _ | exact ext_alloc _ _ | refine Ext.drewN ?_ _ | refine Ext.drew1 ?_ | refine Ext.set ?_ (by dsimp only; omega) _ | refine Ext.alloc ?_ _)))
  have A0 : Hid (Box w0 (w.heap.size) #[.float .f32 vp0, .float .f32 vn0, .int .i64 vs0]) := by rw [hw0]; exact hid (Box.cast' (Box.alloc (box_new (w := w) #[.float .f32 vp0, .float .f32 vn0, .int .i64 vs0] 37) _) (by simp))
  have A1 : Hid (Box w0 (w.heap.size + 1) #[.float .f32 vp1, .float .f32 vn1, .int .i64 vs1]) := by rw [hw0]; exact hid (Box.cast' (box_new (w := (w.alloc (.cells #[.float .f32 vp0, .float .f32 vn0, .int .i64 vs0] 37))) #[.float .f32 vp1, .float .f32 vn1, .int .i64 vs1] 37) (by simp))
  have Z0 := hid (show w.heap.size + 2 ≤ w0.heap.size from by rw [hw0]; simp)
  clear hw0
  obtain ⟨A00, A01, A02, A0l⟩ := Box.cells3 A0.out
  obtain ⟨A10, A11, A12, A1l⟩ := Box.cells3 A1.out
  go_region_held3 (fun w' => (w'.cell? ⟨w.heap.size, 0, none⟩ = some (.float .f32 vp0) ∧ w'.cell? ⟨w.heap.size, 1, none⟩ = some (.float .f32 vn0) ∧ w'.cell? ⟨w.heap.size, 2, none⟩ = some (.int .i64 vs0)) ∧ (w'.cell? ⟨w.heap.size + 1, 0, none⟩ = some (.float .f32 vp1) ∧ w'.cell? ⟨w.heap.size + 1, 1, none⟩ = some (.float .f32 vn1) ∧ w'.cell? ⟨w.heap.size + 1, 2, none⟩ = some (.int .i64 vs1)))
    (first | (refine keep_of (c := w0) (S := fun w' => (w'.cell? ⟨w.heap.size, 0, none⟩ = some (.float .f32 vp0) ∧ w'.cell? ⟨w.heap.size, 1, none⟩ = some (.float .f32 vn0) ∧ w'.cell? ⟨w.heap.size, 2, none⟩ = some (.int .i64 vs0)) ∧ (w'.cell? ⟨w.heap.size + 1, 0, none⟩ = some (.float .f32 vp1) ∧ w'.cell? ⟨w.heap.size + 1, 1, none⟩ = some (.float .f32 vn1) ∧ w'.cell? ⟨w.heap.size + 1, 2, none⟩ = some (.int .i64 vs1))) (fun u hu => ⟨⟨Box.cell (Box.ext A0.out hu) 0, Box.cell (Box.ext A0.out hu) 1, Box.cell (Box.ext A0.out hu) 2⟩, ⟨Box.cell (Box.ext A1.out hu) 0, Box.cell (Box.ext A1.out hu) 1, Box.cell (Box.ext A1.out hu) 2⟩⟩) ?_; (repeat with_reducible (first | exact Ext.refl _ | exact ext_alloc _ _ | refine Ext.trans ?_ EC | refine Ext.trans ?_ ED0 | refine Ext.trans ?_ ED1 | refine Ext.drewN ?_ _ | refine Ext.drew1 ?_ | refine Ext.alloc ?_ _))))
    (first | (go_at_call 24; with_reducible refine (toVoice_any (vp0) (vn0) (vs0) _).mono ?_; rintro e wD0 ⟨rfl, ED0⟩) | (go_at_call 24; with_reducible refine (toVoice_any (vp1) (vn1) (vs1) _).mono ?_; rintro e wD1 ⟨rfl, ED1⟩) | (go_at_call 26; refine (sSameVoice_is vp0 vn0 vs0 vp1 vn1 vs1 V _ Kvp0.out Kvn0.out Kvp1.out Kvn1.out HV.out).mono ?_; rintro e wC ⟨rfl, EC⟩))
  clear A00 A01 A02 A0l A10 A11 A12 A1l
  all_goals
    have EK : Ext w0 wC := by (repeat with_reducible (first | exact Ext.refl _ | exact ext_alloc _ _ | refine Ext.trans ?_ EC | refine Ext.trans ?_ ED0 | refine Ext.trans ?_ ED1 | refine Ext.drewN ?_ _ | refine Ext.drew1 ?_ | refine Ext.alloc ?_ _))
    have Z1 := hid (show w0.heap.size ≤ wC.heap.size from Ext.size EK)
    obtain ⟨w1, hwS⟩ : ∃ u, u = wC := ⟨_, rfl⟩
    subst hwS
    clear ED0 ED1 EC
    replace A0 := hid (Box.ext A0.out EK)
    replace A1 := hid (Box.ext A1.out EK)
    replace EX := hid (Ext.trans EX.out EK)
    clear EK
    obtain ⟨A00, A01, A02, A0l⟩ := Box.cells3 A0.out
    obtain ⟨A10, A11, A12, A1l⟩ := Box.cells3 A1.out
    go_wp2_with fail
    obtain ⟨A00, A01, A02, A0l⟩ := Box.cells3 A0.out
    obtain ⟨A10, A11, A12, A1l⟩ := Box.cells3 A1.out
    go_region_held3 (fun w' => (w'.cell? ⟨w.heap.size, 0, none⟩ = some (.float .f32 vp0) ∧ w'.cell? ⟨w.heap.size, 1, none⟩ = some (.float .f32 vn0) ∧ w'.cell? ⟨w.heap.size, 2, none⟩ = some (.int .i64 vs0)) ∧ (w'.cell? ⟨w.heap.size + 1, 0, none⟩ = some (.float .f32 vp1) ∧ w'.cell? ⟨w.heap.size + 1, 1, none⟩ = some (.float .f32 vn1) ∧ w'.cell? ⟨w.heap.size + 1, 2, none⟩ = some (.int .i64 vs1)))
      (first | (refine keep_of (c := w1) (S := fun w' => (w'.cell? ⟨w.heap.size, 0, none⟩ = some (.float .f32 vp0) ∧ w'.cell? ⟨w.heap.size, 1, none⟩ = some (.float .f32 vn0) ∧ w'.cell? ⟨w.heap.size, 2, none⟩ = some (.int .i64 vs0)) ∧ (w'.cell? ⟨w.heap.size + 1, 0, none⟩ = some (.float .f32 vp1) ∧ w'.cell? ⟨w.heap.size + 1, 1, none⟩ = some (.float .f32 vn1) ∧ w'.cell? ⟨w.heap.size + 1, 2, none⟩ = some (.int .i64 vs1))) (fun u hu => ⟨⟨Box.cell (Box.ext A0.out hu) 0, Box.cell (Box.ext A0.out hu) 1, Box.cell (Box.ext A0.out hu) 2⟩, ⟨Box.cell (Box.ext A1.out hu) 0, Box.cell (Box.ext A1.out hu) 1, Box.cell (Box.ext A1.out hu) 2⟩⟩) ?_; (repeat with_reducible (first | exact Ext.refl _ | exact ext_alloc _ _ | refine Ext.trans ?_ EC | refine Ext.trans ?_ ED0 | refine Ext.trans ?_ ED1 | refine Ext.drewN ?_ _ | refine Ext.drew1 ?_ | refine Ext.alloc ?_ _))))
      (first | (go_at_call 24; with_reducible refine (toVoice_any (vp0) (vn0) (vs0) _).mono ?_; rintro e wD0 ⟨rfl, ED0⟩) | (go_at_call 24; with_reducible refine (toVoice_any (vp1) (vn1) (vs1) _).mono ?_; rintro e wD1 ⟨rfl, ED1⟩) | (go_at_call 27; refine (sameVoice_is vp0 vn0 vs0 vp1 vn1 vs1 V _ Kvp0.out Kvn0.out Kvp1.out Kvn1.out HV.out).mono ?_; rintro e wC ⟨rfl, EC⟩))
    clear A00 A01 A02 A0l A10 A11 A12 A1l
    all_goals
      have EK : Ext w1 wC := by (repeat with_reducible (first | exact Ext.refl _ | exact ext_alloc _ _ | refine Ext.trans ?_ EC | refine Ext.trans ?_ ED0 | refine Ext.trans ?_ ED1 | refine Ext.drewN ?_ _ | refine Ext.drew1 ?_ | refine Ext.alloc ?_ _))
      have Z2 := hid (show w1.heap.size ≤ wC.heap.size from Ext.size EK)
      obtain ⟨w2, hwS⟩ : ∃ u, u = wC := ⟨_, rfl⟩
      subst hwS
      clear ED0 ED1 EC
      replace A0 := hid (Box.ext A0.out EK)
      replace A1 := hid (Box.ext A1.out EK)
      replace EX := hid (Ext.trans EX.out EK)
      clear EK
      obtain ⟨A00, A01, A02, A0l⟩ := Box.cells3 A0.out
      obtain ⟨A10, A11, A12, A1l⟩ := Box.cells3 A1.out
      go_wp2_with fail
      go_ret
      refine ⟨rfl, ?_⟩
      exact (show Ext w _ from Ext.trans EX.out (by (repeat with_reducible (first | exact Ext.refl _ | exact ext_alloc _ _ | refine Ext.drewN ?_ _ | refine Ext.drew1 ?_ | refine Ext.set ?_ (by dsimp only; omega) _ | refine Ext.alloc ?_ _))))
end Go.Proofs.Ytkmgkcbbbaioiaa
