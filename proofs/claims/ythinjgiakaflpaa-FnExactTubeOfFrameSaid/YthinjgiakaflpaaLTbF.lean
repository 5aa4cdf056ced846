/- The law on tubes of frames. -/
import Derived.Test.YthinjgiakaflpaaT18
import Derived.Test.YthinjgiakaflpaaF6
import Derived.Deep.RegionHeld3
import Derived.Deep.DeepCutAuto
namespace Go.Proofs.Ythinjgiakaflpaa
open Go.RowKit Flt
set_option linter.unusedVariables false

set_option maxHeartbeats 8000000 in
set_option maxRecDepth 100000 in
theorem FnExactTubeOfFrame_walk (a0 : Option Addr) (n0 c0 : Nat) (z0 : List Nat) (l0 t0 p0 : Nat) (w : World) (w0 : IsRowF .f32 w a0 n0 c0 z0) (wl0 : (Lit.float .f32 l0).wf = true) (wt0 : (Lit.float .f32 t0).wf = true) (wp0 : (Lit.float .f32 p0).wf = true) :
    Calls Try.prog 10 #[.agg #[.slice a0 n0 c0, .float .f32 l0, .float .f32 t0, .float .f32 p0]] w fun e w' => e = .returned (.bool true) ∧ Below w.heap.size w w' := by
  have hmxn0 : n0 ≤ maxLen := row_max w0
  by_cases hb0 : (1048576 : Int) < n0
  · clear wl0 wt0 wp0
    go_enter Try.func10, Try.ntmps10
    go_wp2_with fail
    refine (szFrame_no _ _ _ _ _ _ _ hmxn0 (by omega) (by omega) _).mono ?_
    rintro e w1 ⟨rfl, E0⟩
    have EX := hid (Ext.trans (ext_alloc _ _) E0)
    have A0 := hid (Box.ext (box_new (w := w) #[.slice a0 n0 c0, .float .f32 l0, .float .f32 t0, .float .f32 p0] 44) E0)
    have Z1 := hid (show w.heap.size + 1 ≤ w1.heap.size from by have := Ext.size E0; simpa using this)
    clear E0
    go_wp2
    go_ret
    exact ⟨rfl, EX.out⟩
  have hg0 : ¬ ((1048576 : Int) - (n0 : Int) < 0) := by omega
  have hn0 : n0 ≤ 1048576 := by omega
  have hacc0 : ¬ (1 + (n0 : Int) < 0) := by omega
  have Rw0 := hid w0
  obtain ⟨R, hR⟩ : ∃ R, tubeF ((z0.take n0).map (cls .f32)) (cls .f32 l0) (cls .f32 t0) (cls .f32 p0) = R := ⟨_, rfl⟩
  have HR := hid hR
  have hL0_0 : R.cs.length ≤ 1048576 := by have := tubeF_len ((z0.take n0).map (cls .f32)) (cls .f32 l0) (cls .f32 t0) (cls .f32 p0); rw [hR] at this; omega
  clear hR
  clear w0 hmxn0 hb0 wl0 wt0 wp0
  have hr0 : ¬ (1 + (R.cs.length : Int) < 0) := by omega
  go_enter Try.func10, Try.ntmps10
  go_wp2_with fail
  refine (szFrame_yes _ _ _ _ _ _ _ (by omega) (by omega) _).mono ?_
  rintro e w1 ⟨rfl, E0⟩
  have EX := hid (Ext.trans (ext_alloc _ _) E0)
  have A0 := hid (Box.ext (box_new (w := w) #[.slice a0 n0 c0, .float .f32 l0, .float .f32 t0, .float .f32 p0] 44) E0)
  have Z1 := hid (show w.heap.size + 1 ≤ w1.heap.size from by have := Ext.size E0; simpa using this)
  clear E0
  obtain ⟨A00, A01, A02, A03, A0l⟩ := Box.cells4 A0.out
  go_wp2_with fail
  refine (toFrame_any _ _ _ _ _ _ z0 _ (IsRowF.ext Rw0.out EX.out) hn0).mono ?_
  rintro e w2 ⟨Yb, rfl, YF, E0⟩
  clear A00 A01 A02 A03 A0l
  have EK := E0
  have Z2 := hid (show w1.heap.size ≤ w2.heap.size from Ext.size E0)
  replace A0 := hid (Box.ext A0.out EK)
  replace EX := hid (Ext.trans EX.out EK)
  clear EK E0
  have YF_ := hid (Own.base YF (B' := w1.heap.size) (by simp))
  have YF_I := hid (Own.block YF_.out)
  clear YF
  obtain ⟨A00, A01, A02, A03, A0l⟩ := Box.cells4 A0.out
  go_wp2_with fail
  refine (sTubeF_any _ n0 _ l0 t0 p0 (z0.take n0) R _ (own_hold YF_.out) hn0 HR.out).mono ?_
  rintro e w3 ⟨Sv0, rfl, ST0, E0⟩
  clear A00 A01 A02 A03 A0l
  have EK := E0
  have Z3 := hid (show w2.heap.size ≤ w3.heap.size from Ext.size E0)
  replace A0 := hid (Box.ext A0.out EK)
  replace YF_ := hid (Own.ext YF_.out EK)
  replace EX := hid (Ext.trans EX.out EK)
  clear EK E0
  obtain ⟨S0a, S0c, S0l, S0t, S0p, S0z, rfl, S0F, S0e, S0el, S0et, S0ep⟩ := ST0
  have S0F_ := hid (Own.base S0F (B' := w2.heap.size) (by simp))
  have S0F_I := hid (Own.block S0F_.out)
  clear S0F
  replace S0e := hid S0e
  replace S0el := hid S0el
  replace S0et := hid S0et
  replace S0ep := hid S0ep
  clear YF_ YF_I
  obtain ⟨A00, A01, A02, A03, A0l⟩ := Box.cells4 A0.out
  go_wp2_with fail
  refine (toFrame_any _ _ _ _ _ _ z0 _ (IsRowF.ext Rw0.out (Ext.trans EX.out (ext_alloc _ _))) hn0).mono ?_
  rintro e w4 ⟨X0b, rfl, X0F, E0⟩
  clear A00 A01 A02 A03 A0l
  have S0B := hid (Box.ext (box_new (w := w3) #[.slice S0a R.cs.length S0c, .float .f32 S0l, .float .f32 S0t, .float .f32 S0p] 60) E0)
  have EK := Ext.trans (ext_alloc _ _) E0
  have Z4 := hid (show w3.heap.size + 1 ≤ w4.heap.size from by have := Ext.size E0; simpa using this)
  replace A0 := hid (Box.ext A0.out EK)
  replace S0F_ := hid (Own.ext S0F_.out EK)
  replace EX := hid (Ext.trans EX.out EK)
  clear EK E0
  have X0F_ := hid (Own.base X0F (B' := w3.heap.size + 1) (by simp))
  have X0F_I := hid (Own.block X0F_.out)
  clear X0F
  obtain ⟨A00, A01, A02, A03, A0l⟩ := Box.cells4 A0.out
  obtain ⟨S0B0, S0B1, S0B2, S0B3, S0Bl⟩ := Box.cells4 S0B.out
  go_wp2_with fail
  refine (tubeF_any _ n0 _ l0 t0 p0 (z0.take n0) R _ (Holds.alloc (own_hold X0F_.out) _) hn0 HR.out).mono ?_
  rintro e w5 ⟨Gv0, rfl, GT0, E0⟩
  clear A00 A01 A02 A03 A0l S0B0 S0B1 S0B2 S0B3 S0Bl
  have X0B := hid (Box.ext (box_new (w := w4) #[.slice (some ⟨X0b, 0, none⟩) n0 n0, .float .f32 l0, .float .f32 t0, .float .f32 p0] 47) E0)
  have EK := Ext.trans (ext_alloc _ _) E0
  have Z5 := hid (show w4.heap.size + 1 ≤ w5.heap.size from by have := Ext.size E0; simpa using this)
  replace A0 := hid (Box.ext A0.out EK)
  replace S0B := hid (Box.ext S0B.out EK)
  replace S0F_ := hid (Own.ext S0F_.out EK)
  replace X0F_ := hid (Own.ext X0F_.out EK)
  replace EX := hid (Ext.trans EX.out EK)
  clear EK E0
  obtain ⟨G0a, G0c, G0l, G0t, G0p, G0z, rfl, G0F, G0e, G0el, G0et, G0ep⟩ := GT0
  have G0F_ := hid (Own.base G0F (B' := w4.heap.size + 1) (by simp))
  have G0F_I := hid (Own.block G0F_.out)
  clear G0F
  replace G0e := hid G0e
  replace G0el := hid G0el
  replace G0et := hid G0et
  replace G0ep := hid G0ep
  obtain ⟨A00, A01, A02, A03, A0l⟩ := Box.cells4 A0.out
  obtain ⟨S0B0, S0B1, S0B2, S0B3, S0Bl⟩ := Box.cells4 S0B.out
  obtain ⟨X0B0, X0B1, X0B2, X0B3, X0Bl⟩ := Box.cells4 X0B.out
  go_wp2_with fail
  refine (eqTube_yes _ _ _ _ _ _ _ _ _ _ _ G0z S0z _ (Holds.alloc (own_hold G0F_.out) _) (Holds.alloc (own_hold S0F_.out) _) hL0_0 (by rw [G0e.out, S0e.out]) (by rw [G0el.out, S0el.out]) (by rw [G0et.out, S0et.out]) (by rw [G0ep.out, S0ep.out])).mono ?_
  rintro e w6 ⟨rfl, E0⟩
  clear A00 A01 A02 A03 A0l S0B0 S0B1 S0B2 S0B3 S0Bl X0B0 X0B1 X0B2 X0B3 X0Bl
  have G0B := hid (Box.ext (box_new (w := w5) #[.slice G0a R.cs.length G0c, .float .f32 G0l, .float .f32 G0t, .float .f32 G0p] 60) E0)
  have EK := Ext.trans (ext_alloc _ _) E0
  have Z6 := hid (show w5.heap.size + 1 ≤ w6.heap.size from by have := Ext.size E0; simpa using this)
  replace A0 := hid (Box.ext A0.out EK)
  replace S0B := hid (Box.ext S0B.out EK)
  replace X0B := hid (Box.ext X0B.out EK)
  replace S0F_ := hid (Own.ext S0F_.out EK)
  replace X0F_ := hid (Own.ext X0F_.out EK)
  replace G0F_ := hid (Own.ext G0F_.out EK)
  replace EX := hid (Ext.trans EX.out EK)
  clear EK E0
  obtain ⟨A00, A01, A02, A03, A0l⟩ := Box.cells4 A0.out
  obtain ⟨S0B0, S0B1, S0B2, S0B3, S0Bl⟩ := Box.cells4 S0B.out
  obtain ⟨X0B0, X0B1, X0B2, X0B3, X0Bl⟩ := Box.cells4 X0B.out
  obtain ⟨G0B0, G0B1, G0B2, G0B3, G0Bl⟩ := Box.cells4 G0B.out
  go_wp2_with fail
  clear A00 A01 A02 A03 A0l S0B0 S0B1 S0B2 S0B3 S0Bl X0B0 X0B1 X0B2 X0B3 X0Bl G0B0 G0B1 G0B2 G0B3 G0Bl
  obtain ⟨A00, A01, A02, A03, A0l⟩ := Box.cells4 A0.out
  obtain ⟨S0B0, S0B1, S0B2, S0B3, S0Bl⟩ := Box.cells4 S0B.out
  obtain ⟨X0B0, X0B1, X0B2, X0B3, X0Bl⟩ := Box.cells4 X0B.out
  obtain ⟨G0B0, G0B1, G0B2, G0B3, G0Bl⟩ := Box.cells4 G0B.out
  go_region_held3 (fun w' => (w'.cell? ⟨w.heap.size, 0, none⟩ = some (.slice a0 n0 c0) ∧ w'.cell? ⟨w.heap.size, 1, none⟩ = some (.float .f32 l0) ∧ w'.cell? ⟨w.heap.size, 2, none⟩ = some (.float .f32 t0) ∧ w'.cell? ⟨w.heap.size, 3, none⟩ = some (.float .f32 p0)) ∧ (w'.cell? ⟨w4.heap.size, 0, none⟩ = some (.slice (some ⟨X0b, 0, none⟩) n0 n0) ∧ w'.cell? ⟨w4.heap.size, 1, none⟩ = some (.float .f32 l0) ∧ w'.cell? ⟨w4.heap.size, 2, none⟩ = some (.float .f32 t0) ∧ w'.cell? ⟨w4.heap.size, 3, none⟩ = some (.float .f32 p0)))
    (first | (refine keep_of (c := w6) (S := fun w' => (w'.cell? ⟨w.heap.size, 0, none⟩ = some (.slice a0 n0 c0) ∧ w'.cell? ⟨w.heap.size, 1, none⟩ = some (.float .f32 l0) ∧ w'.cell? ⟨w.heap.size, 2, none⟩ = some (.float .f32 t0) ∧ w'.cell? ⟨w.heap.size, 3, none⟩ = some (.float .f32 p0)) ∧ (w'.cell? ⟨w4.heap.size, 0, none⟩ = some (.slice (some ⟨X0b, 0, none⟩) n0 n0) ∧ w'.cell? ⟨w4.heap.size, 1, none⟩ = some (.float .f32 l0) ∧ w'.cell? ⟨w4.heap.size, 2, none⟩ = some (.float .f32 t0) ∧ w'.cell? ⟨w4.heap.size, 3, none⟩ = some (.float .f32 p0))) (fun u hu => ⟨⟨Box.cell (Box.ext A0.out hu) 0, Box.cell (Box.ext A0.out hu) 1, Box.cell (Box.ext A0.out hu) 2, Box.cell (Box.ext A0.out hu) 3⟩, ⟨Box.cell (Box.ext X0B.out hu) 0, Box.cell (Box.ext X0B.out hu) 1, Box.cell (Box.ext X0B.out hu) 2, Box.cell (Box.ext X0B.out hu) 3⟩⟩) ?_; (repeat with_reducible (first | exact Ext.refl _ | exact ext_alloc _ _ | refine Ext.trans ?_ EC | refine Ext.trans ?_ ED0 | refine Ext.drewN ?_ _ | refine Ext.drew1 ?_ | refine Ext.alloc ?_ _))))
    (first | (go_at_call 28; with_reducible refine (toFrame_any _ _ _ _ _ _ z0 _ (IsRowF.ext Rw0.out (Ext.trans EX.out (by (repeat with_reducible (first | exact Ext.refl _ | exact ext_alloc _ _ | refine Ext.trans ?_ EC | refine Ext.trans ?_ ED0 | refine Ext.drewN ?_ _ | refine Ext.drew1 ?_ | refine Ext.alloc ?_ _))))) hn0).mono ?_; rintro e wD0 ⟨YYb, rfl, YYF, ED0⟩) | (go_at_call 30; refine (eqFrame_yes _ _ _ _ _ _ _ _ _ _ _ _ _ _ (own_hold (Own.ext X0F_.out (by (repeat with_reducible (first | exact Ext.refl _ | exact ext_alloc _ _ | refine Ext.trans ?_ EC | refine Ext.trans ?_ ED0 | refine Ext.drewN ?_ _ | refine Ext.drew1 ?_ | refine Ext.alloc ?_ _))))) (own_hold YYF) hn0 rfl rfl rfl rfl).mono ?_; rintro e wC ⟨rfl, EC⟩))
  clear A00 A01 A02 A03 A0l S0B0 S0B1 S0B2 S0B3 S0Bl X0B0 X0B1 X0B2 X0B3 X0Bl G0B0 G0B1 G0B2 G0B3 G0Bl
  have EK : Ext w6 wC := by (repeat with_reducible (first | exact Ext.refl _ | exact ext_alloc _ _ | refine Ext.trans ?_ EC | refine Ext.trans ?_ ED0 | refine Ext.drewN ?_ _ | refine Ext.drew1 ?_ | refine Ext.alloc ?_ _))
  obtain ⟨w7, hwS⟩ : ∃ u, u = wC := ⟨_, rfl⟩
  subst hwS
  have Z7 := hid (show w6.heap.size ≤ w7.heap.size from Ext.size EK)
  clear ED0 EC YYF
  replace A0 := hid (Box.ext A0.out EK)
  replace S0B := hid (Box.ext S0B.out EK)
  replace X0B := hid (Box.ext X0B.out EK)
  replace G0B := hid (Box.ext G0B.out EK)
  replace S0F_ := hid (Own.ext S0F_.out EK)
  replace X0F_ := hid (Own.ext X0F_.out EK)
  replace G0F_ := hid (Own.ext G0F_.out EK)
  replace EX := hid (Ext.trans EX.out EK)
  clear EK
  obtain ⟨A00, A01, A02, A03, A0l⟩ := Box.cells4 A0.out
  obtain ⟨S0B0, S0B1, S0B2, S0B3, S0Bl⟩ := Box.cells4 S0B.out
  obtain ⟨X0B0, X0B1, X0B2, X0B3, X0Bl⟩ := Box.cells4 X0B.out
  obtain ⟨G0B0, G0B1, G0B2, G0B3, G0Bl⟩ := Box.cells4 G0B.out
  go_wp2_with fail
  refine (markFrame_any _ n0 _ (1) _ _ _ _ (z0.take n0) _ X0F_.out hn0 (by omega)).mono ?_
  rintro e w8 ⟨rfl, MO, MB⟩
  clear A00 A01 A02 A03 A0l S0B0 S0B1 S0B2 S0B3 S0Bl X0B0 X0B1 X0B2 X0B3 X0Bl G0B0 G0B1 G0B2 G0B3 G0Bl
  have Z8 := hid (show w7.heap.size ≤ w8.heap.size from MB.size)
  replace A0 := hid (But.box MB A0.out (fun hk => by have h1 := X0F_I.out _ hk; have qZ1 := Z1.out; have qZ2 := Z2.out; have qZ3 := Z3.out; have qZ4 := Z4.out; have qZ5 := Z5.out; have qZ6 := Z6.out; have qZ7 := Z7.out; omega))
  replace S0B := hid (But.box MB S0B.out (fun hk => by have h1 := X0F_I.out _ hk; have qZ1 := Z1.out; have qZ2 := Z2.out; have qZ3 := Z3.out; have qZ4 := Z4.out; have qZ5 := Z5.out; have qZ6 := Z6.out; have qZ7 := Z7.out; omega))
  replace X0B := hid (But.box MB X0B.out (fun hk => by have h1 := X0F_I.out _ hk; have qZ1 := Z1.out; have qZ2 := Z2.out; have qZ3 := Z3.out; have qZ4 := Z4.out; have qZ5 := Z5.out; have qZ6 := Z6.out; have qZ7 := Z7.out; omega))
  replace G0B := hid (But.box MB G0B.out (fun hk => by have h1 := X0F_I.out _ hk; have qZ1 := Z1.out; have qZ2 := Z2.out; have qZ3 := Z3.out; have qZ4 := Z4.out; have qZ5 := Z5.out; have qZ6 := Z6.out; have qZ7 := Z7.out; omega))
  replace S0F_ := hid (But.own MB S0F_.out (fun k hk hk2 => by have h1 := X0F_I.out _ hk2; have h2 := S0F_I.out _ hk; have qZ1 := Z1.out; have qZ2 := Z2.out; have qZ3 := Z3.out; have qZ4 := Z4.out; have qZ5 := Z5.out; have qZ6 := Z6.out; have qZ7 := Z7.out; omega))
  replace G0F_ := hid (But.own MB G0F_.out (fun k hk hk2 => by have h1 := X0F_I.out _ hk2; have h2 := G0F_I.out _ hk; have qZ1 := Z1.out; have qZ2 := Z2.out; have qZ3 := Z3.out; have qZ4 := Z4.out; have qZ5 := Z5.out; have qZ6 := Z6.out; have qZ7 := Z7.out; omega))
  replace EX := hid (But.below MB EX.out (fun k hk => by have h1 := X0F_I.out _ hk; have qZ1 := Z1.out; have qZ2 := Z2.out; have qZ3 := Z3.out; have qZ4 := Z4.out; have qZ5 := Z5.out; have qZ6 := Z6.out; have qZ7 := Z7.out; omega))
  replace X0F_ := hid MO
  clear MO MB
  clear X0F_ X0F_I
  obtain ⟨A00, A01, A02, A03, A0l⟩ := Box.cells4 A0.out
  obtain ⟨S0B0, S0B1, S0B2, S0B3, S0Bl⟩ := Box.cells4 S0B.out
  obtain ⟨X0B0, X0B1, X0B2, X0B3, X0Bl⟩ := Box.cells4 X0B.out
  obtain ⟨G0B0, G0B1, G0B2, G0B3, G0Bl⟩ := Box.cells4 G0B.out
  go_wp2_with fail
  refine (eqTube_yes _ _ _ _ _ _ _ _ _ _ _ G0z S0z _ (own_hold G0F_.out) (own_hold S0F_.out) hL0_0 (by rw [G0e.out, S0e.out]) (by rw [G0el.out, S0el.out]) (by rw [G0et.out, S0et.out]) (by rw [G0ep.out, S0ep.out])).mono ?_
  rintro e w9 ⟨rfl, E0⟩
  clear A00 A01 A02 A03 A0l S0B0 S0B1 S0B2 S0B3 S0Bl X0B0 X0B1 X0B2 X0B3 X0Bl G0B0 G0B1 G0B2 G0B3 G0Bl
  have EK := E0
  have Z9 := hid (show w8.heap.size ≤ w9.heap.size from Ext.size E0)
  replace A0 := hid (Box.ext A0.out EK)
  replace S0B := hid (Box.ext S0B.out EK)
  replace X0B := hid (Box.ext X0B.out EK)
  replace G0B := hid (Box.ext G0B.out EK)
  replace S0F_ := hid (Own.ext S0F_.out EK)
  replace G0F_ := hid (Own.ext G0F_.out EK)
  replace EX := hid (Ext.trans EX.out EK)
  clear EK E0
  obtain ⟨A00, A01, A02, A03, A0l⟩ := Box.cells4 A0.out
  obtain ⟨S0B0, S0B1, S0B2, S0B3, S0Bl⟩ := Box.cells4 S0B.out
  obtain ⟨X0B0, X0B1, X0B2, X0B3, X0Bl⟩ := Box.cells4 X0B.out
  obtain ⟨G0B0, G0B1, G0B2, G0B3, G0Bl⟩ := Box.cells4 G0B.out
  go_wp2_with fail
  refine (markTube_any _ R.cs.length _ (1) _ _ _ _ G0z _ G0F_.out hL0_0 (by omega)).mono ?_
  rintro e w10 ⟨rfl, MO, MB⟩
  clear A00 A01 A02 A03 A0l S0B0 S0B1 S0B2 S0B3 S0Bl X0B0 X0B1 X0B2 X0B3 X0Bl G0B0 G0B1 G0B2 G0B3 G0Bl
  have Z10 := hid (show w9.heap.size ≤ w10.heap.size from MB.size)
  replace A0 := hid (But.box MB A0.out (fun hk => by have h1 := G0F_I.out _ hk; have qZ1 := Z1.out; have qZ2 := Z2.out; have qZ3 := Z3.out; have qZ4 := Z4.out; have qZ5 := Z5.out; have qZ6 := Z6.out; have qZ7 := Z7.out; have qZ8 := Z8.out; have qZ9 := Z9.out; omega))
  replace S0B := hid (But.box MB S0B.out (fun hk => by have h1 := G0F_I.out _ hk; have qZ1 := Z1.out; have qZ2 := Z2.out; have qZ3 := Z3.out; have qZ4 := Z4.out; have qZ5 := Z5.out; have qZ6 := Z6.out; have qZ7 := Z7.out; have qZ8 := Z8.out; have qZ9 := Z9.out; omega))
  replace X0B := hid (But.box MB X0B.out (fun hk => by have h1 := G0F_I.out _ hk; have qZ1 := Z1.out; have qZ2 := Z2.out; have qZ3 := Z3.out; have qZ4 := Z4.out; have qZ5 := Z5.out; have qZ6 := Z6.out; have qZ7 := Z7.out; have qZ8 := Z8.out; have qZ9 := Z9.out; omega))
  replace G0B := hid (But.box MB G0B.out (fun hk => by have h1 := G0F_I.out _ hk; have qZ1 := Z1.out; have qZ2 := Z2.out; have qZ3 := Z3.out; have qZ4 := Z4.out; have qZ5 := Z5.out; have qZ6 := Z6.out; have qZ7 := Z7.out; have qZ8 := Z8.out; have qZ9 := Z9.out; omega))
  replace S0F_ := hid (But.own MB S0F_.out (fun k hk hk2 => by have h1 := G0F_I.out _ hk2; have h2 := S0F_I.out _ hk; have qZ1 := Z1.out; have qZ2 := Z2.out; have qZ3 := Z3.out; have qZ4 := Z4.out; have qZ5 := Z5.out; have qZ6 := Z6.out; have qZ7 := Z7.out; have qZ8 := Z8.out; have qZ9 := Z9.out; omega))
  replace EX := hid (But.below MB EX.out (fun k hk => by have h1 := G0F_I.out _ hk; have qZ1 := Z1.out; have qZ2 := Z2.out; have qZ3 := Z3.out; have qZ4 := Z4.out; have qZ5 := Z5.out; have qZ6 := Z6.out; have qZ7 := Z7.out; have qZ8 := Z8.out; have qZ9 := Z9.out; omega))
  replace G0F_ := hid MO
  clear MO MB
  obtain ⟨A00, A01, A02, A03, A0l⟩ := Box.cells4 A0.out
  obtain ⟨S0B0, S0B1, S0B2, S0B3, S0Bl⟩ := Box.cells4 S0B.out
  obtain ⟨X0B0, X0B1, X0B2, X0B3, X0Bl⟩ := Box.cells4 X0B.out
  obtain ⟨G0B0, G0B1, G0B2, G0B3, G0Bl⟩ := Box.cells4 G0B.out
  go_wp2_with fail
  refine (heldTube_any _ _ _ (1) _ _ _ _ _ G0F_.out hL0_0 (by omega)).mono ?_
  rintro e w11 ⟨rfl, E0⟩
  clear A00 A01 A02 A03 A0l S0B0 S0B1 S0B2 S0B3 S0Bl X0B0 X0B1 X0B2 X0B3 X0Bl G0B0 G0B1 G0B2 G0B3 G0Bl
  have EK := E0
  have Z11 := hid (show w10.heap.size ≤ w11.heap.size from Ext.size E0)
  replace A0 := hid (Box.ext A0.out EK)
  replace S0B := hid (Box.ext S0B.out EK)
  replace X0B := hid (Box.ext X0B.out EK)
  replace G0B := hid (Box.ext G0B.out EK)
  replace S0F_ := hid (Own.ext S0F_.out EK)
  replace G0F_ := hid (Own.ext G0F_.out EK)
  replace EX := hid (Ext.trans EX.out EK)
  clear EK E0
  obtain ⟨A00, A01, A02, A03, A0l⟩ := Box.cells4 A0.out
  obtain ⟨S0B0, S0B1, S0B2, S0B3, S0Bl⟩ := Box.cells4 S0B.out
  obtain ⟨X0B0, X0B1, X0B2, X0B3, X0Bl⟩ := Box.cells4 X0B.out
  obtain ⟨G0B0, G0B1, G0B2, G0B3, G0Bl⟩ := Box.cells4 G0B.out
  go_wp2_with fail
  refine (toFrame_any _ _ _ _ _ _ z0 _ (IsRowF.ext Rw0.out EX.out) hn0).mono ?_
  rintro e w12 ⟨Vb, rfl, VF, E0⟩
  clear A00 A01 A02 A03 A0l S0B0 S0B1 S0B2 S0B3 S0Bl X0B0 X0B1 X0B2 X0B3 X0Bl G0B0 G0B1 G0B2 G0B3 G0Bl
  have EK := E0
  have Z12 := hid (show w11.heap.size ≤ w12.heap.size from Ext.size E0)
  replace A0 := hid (Box.ext A0.out EK)
  replace S0B := hid (Box.ext S0B.out EK)
  replace X0B := hid (Box.ext X0B.out EK)
  replace G0B := hid (Box.ext G0B.out EK)
  replace S0F_ := hid (Own.ext S0F_.out EK)
  replace G0F_ := hid (Own.ext G0F_.out EK)
  replace EX := hid (Ext.trans EX.out EK)
  clear EK E0
  have VF_ := hid (Own.base VF (B' := w11.heap.size) (by simp))
  have VF_I := hid (Own.block VF_.out)
  clear VF
  obtain ⟨A00, A01, A02, A03, A0l⟩ := Box.cells4 A0.out
  obtain ⟨S0B0, S0B1, S0B2, S0B3, S0Bl⟩ := Box.cells4 S0B.out
  obtain ⟨X0B0, X0B1, X0B2, X0B3, X0Bl⟩ := Box.cells4 X0B.out
  obtain ⟨G0B0, G0B1, G0B2, G0B3, G0Bl⟩ := Box.cells4 G0B.out
  go_wp2_with fail
  refine (tubeF_any _ n0 _ l0 t0 p0 (z0.take n0) R _ (own_hold VF_.out) hn0 HR.out).mono ?_
  rintro e w13 ⟨Hv0, rfl, HT0, E0⟩
  clear A00 A01 A02 A03 A0l S0B0 S0B1 S0B2 S0B3 S0Bl X0B0 X0B1 X0B2 X0B3 X0Bl G0B0 G0B1 G0B2 G0B3 G0Bl
  have EK := E0
  have Z13 := hid (show w12.heap.size ≤ w13.heap.size from Ext.size E0)
  replace A0 := hid (Box.ext A0.out EK)
  replace S0B := hid (Box.ext S0B.out EK)
  replace X0B := hid (Box.ext X0B.out EK)
  replace G0B := hid (Box.ext G0B.out EK)
  replace S0F_ := hid (Own.ext S0F_.out EK)
  replace G0F_ := hid (Own.ext G0F_.out EK)
  replace VF_ := hid (Own.ext VF_.out EK)
  replace EX := hid (Ext.trans EX.out EK)
  clear EK E0
  obtain ⟨H0a, H0c, H0l, H0t, H0p, H0z, rfl, H0F, H0e, H0el, H0et, H0ep⟩ := HT0
  have H0F_ := hid (Own.base H0F (B' := w12.heap.size) (by simp))
  have H0F_I := hid (Own.block H0F_.out)
  clear H0F
  replace H0e := hid H0e
  replace H0el := hid H0el
  replace H0et := hid H0et
  replace H0ep := hid H0ep
  clear VF_ VF_I
  obtain ⟨A00, A01, A02, A03, A0l⟩ := Box.cells4 A0.out
  obtain ⟨S0B0, S0B1, S0B2, S0B3, S0Bl⟩ := Box.cells4 S0B.out
  obtain ⟨X0B0, X0B1, X0B2, X0B3, X0Bl⟩ := Box.cells4 X0B.out
  obtain ⟨G0B0, G0B1, G0B2, G0B3, G0Bl⟩ := Box.cells4 G0B.out
  go_wp2_with fail
  refine (eqTube_yes _ _ _ _ _ _ _ _ _ _ _ H0z S0z _ (Holds.alloc (own_hold H0F_.out) _) (Holds.alloc (own_hold S0F_.out) _) hL0_0 (by rw [H0e.out, S0e.out]) (by rw [H0el.out, S0el.out]) (by rw [H0et.out, S0et.out]) (by rw [H0ep.out, S0ep.out])).mono ?_
  rintro e w14 ⟨rfl, E0⟩
  clear A00 A01 A02 A03 A0l S0B0 S0B1 S0B2 S0B3 S0Bl X0B0 X0B1 X0B2 X0B3 X0Bl G0B0 G0B1 G0B2 G0B3 G0Bl
  have H0B := hid (Box.ext (box_new (w := w13) #[.slice H0a R.cs.length H0c, .float .f32 H0l, .float .f32 H0t, .float .f32 H0p] 60) E0)
  have EK := Ext.trans (ext_alloc _ _) E0
  have Z14 := hid (show w13.heap.size + 1 ≤ w14.heap.size from by have := Ext.size E0; simpa using this)
  replace A0 := hid (Box.ext A0.out EK)
  replace S0B := hid (Box.ext S0B.out EK)
  replace X0B := hid (Box.ext X0B.out EK)
  replace G0B := hid (Box.ext G0B.out EK)
  replace S0F_ := hid (Own.ext S0F_.out EK)
  replace G0F_ := hid (Own.ext G0F_.out EK)
  replace H0F_ := hid (Own.ext H0F_.out EK)
  replace EX := hid (Ext.trans EX.out EK)
  clear EK E0
  obtain ⟨A00, A01, A02, A03, A0l⟩ := Box.cells4 A0.out
  obtain ⟨S0B0, S0B1, S0B2, S0B3, S0Bl⟩ := Box.cells4 S0B.out
  obtain ⟨X0B0, X0B1, X0B2, X0B3, X0Bl⟩ := Box.cells4 X0B.out
  obtain ⟨G0B0, G0B1, G0B2, G0B3, G0Bl⟩ := Box.cells4 G0B.out
  obtain ⟨H0B0, H0B1, H0B2, H0B3, H0Bl⟩ := Box.cells4 H0B.out
  go_wp2_with fail
  refine (heldTube_any _ _ _ (1) _ _ _ _ _ G0F_.out hL0_0 (by omega)).mono ?_
  rintro e w15 ⟨rfl, E0⟩
  clear A00 A01 A02 A03 A0l S0B0 S0B1 S0B2 S0B3 S0Bl X0B0 X0B1 X0B2 X0B3 X0Bl G0B0 G0B1 G0B2 G0B3 G0Bl H0B0 H0B1 H0B2 H0B3 H0Bl
  have EK := E0
  have Z15 := hid (show w14.heap.size ≤ w15.heap.size from Ext.size E0)
  replace A0 := hid (Box.ext A0.out EK)
  replace S0B := hid (Box.ext S0B.out EK)
  replace X0B := hid (Box.ext X0B.out EK)
  replace G0B := hid (Box.ext G0B.out EK)
  replace H0B := hid (Box.ext H0B.out EK)
  replace S0F_ := hid (Own.ext S0F_.out EK)
  replace G0F_ := hid (Own.ext G0F_.out EK)
  replace H0F_ := hid (Own.ext H0F_.out EK)
  replace EX := hid (Ext.trans EX.out EK)
  clear EK E0
  obtain ⟨A00, A01, A02, A03, A0l⟩ := Box.cells4 A0.out
  obtain ⟨S0B0, S0B1, S0B2, S0B3, S0Bl⟩ := Box.cells4 S0B.out
  obtain ⟨X0B0, X0B1, X0B2, X0B3, X0Bl⟩ := Box.cells4 X0B.out
  obtain ⟨G0B0, G0B1, G0B2, G0B3, G0Bl⟩ := Box.cells4 G0B.out
  obtain ⟨H0B0, H0B1, H0B2, H0B3, H0Bl⟩ := Box.cells4 H0B.out
  go_wp2
  go_ret
  exact ⟨rfl, EX.out⟩
end Go.Proofs.Ythinjgiakaflpaa
