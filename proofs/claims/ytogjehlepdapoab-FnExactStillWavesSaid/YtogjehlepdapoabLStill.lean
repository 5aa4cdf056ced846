/- The law on waves that are nothing. -/
import Derived.Test.YtogjehlepdapoabT13
import Derived.Deep.RegionHeld3
namespace Go.Proofs.Ytogjehlepdapoab
open Go.RowKit Flt
set_option linter.unusedVariables false

set_option maxHeartbeats 4000000 in
set_option maxRecDepth 100000 in
theorem FnExactStillWaves_walk (a0 : Option Addr) (n0 c0 : Nat) (z0 : List Nat) (l0 t0 p0 : Nat) (w : World) (w0 : IsRowF .f32 w a0 n0 c0 z0) (wl : (Lit.float .f32 l0).wf = true) (wt : (Lit.float .f32 t0).wf = true) (wp : (Lit.float .f32 p0).wf = true) :
    Calls Try.prog 8 #[.agg #[.slice a0 n0 c0, .float .f32 l0, .float .f32 t0, .float .f32 p0]] w fun e w' => e = .returned (.bool true) ∧ Below w.heap.size w w' := by
  have hmx : n0 ≤ maxLen := row_max w0
  by_cases hbig : 1048576 < n0
  · go_enter Try.func8, Try.ntmps8
    go_wp2_with fail
    refine (szTube_no _ _ _ _ _ _ _ hmx (by omega) (by omega) _).mono ?_
    rintro e w1 ⟨rfl, E1⟩
    have EX := hid (Ext.trans (ext_alloc _ _) E1)
    clear E1
    go_wp2
    go_ret
    exact ⟨rfl, EX.out⟩
  have hn : n0 ≤ 1048576 := by omega
  have hk : (n0 : Int) ≤ 1048576 := by omega
  have hk2 : ¬ ((1048576 : Int) - (n0 : Int) < 0) := by omega
  have hk3 : ¬ (1 + (n0 : Int) < 0) := by omega
  have AR := hid w0
  obtain ⟨R, hR⟩ : ∃ R, stillW ((z0.take n0).map (cls .f32)) (cls .f32 l0) (cls .f32 t0) (cls .f32 p0) = R := ⟨_, rfl⟩
  have hlen : R.r.length ≤ 1048576 := by
    rw [← hR]
    exact Nat.le_trans (still_len _ _ _ _).1 (by omega)
  have hlen2 : R.l.length ≤ 1048576 := by
    rw [← hR]
    exact Nat.le_trans (still_len _ _ _ _).2 (by omega)
  have HR := hid hR
  clear hR
  have hk4 : ¬ (1 + (R.r.length : Int) + (R.l.length : Int) < 0) := by omega
  clear w0 hmx hbig wl wt wp
  go_enter Try.func8, Try.ntmps8
  go_wp2_with fail
  refine (szTube_yes _ _ _ _ _ _ _ hk (by omega) _).mono ?_
  rintro e w1 ⟨rfl, E0⟩
  have EX := hid (Ext.trans (ext_alloc _ _) E0)
  have A := hid (Box.ext (box_new (w := w) #[.slice a0 n0 c0, .float .f32 l0, .float .f32 t0, .float .f32 p0] 25) E0)
  have Z1 := hid (show w.heap.size + 1 ≤ w1.heap.size from by have := Ext.size E0; simpa using this)
  clear E0
  obtain ⟨A0, A1, A2, A3, Al⟩ := Box.cells4 A.out
  go_wp2_with fail
  refine (toTube_any _ _ _ _ _ _ z0 _ (IsRowF.ext AR.out EX.out) hn).mono ?_
  rintro e w2 ⟨Yb, rfl, YF, E0⟩
  clear A0 A1 A2 A3 Al
  have EK := E0
  have Z2 := hid (show w1.heap.size ≤ w2.heap.size from Ext.size E0)
  replace A := hid (Box.ext A.out EK)
  replace EX := hid (Ext.trans EX.out EK)
  clear EK E0
  have Y := hid (Own.base YF (B' := w1.heap.size) (by simp))
  have YI := hid (Own.block Y.out)
  clear YF
  obtain ⟨A0, A1, A2, A3, Al⟩ := Box.cells4 A.out
  go_wp2_with fail
  refine (sStill_any _ _ _ _ _ _ (z0.take n0) R _ (own_hold Y.out) hn HR.out).mono ?_
  rintro e w3 ⟨Sv, rfl, ST, E0⟩
  clear A0 A1 A2 A3 Al
  have EK := E0
  have Z3 := hid (show w2.heap.size ≤ w3.heap.size from Ext.size E0)
  replace A := hid (Box.ext A.out EK)
  replace Y := hid (Own.ext Y.out EK)
  replace EX := hid (Ext.trans EX.out EK)
  clear EK E0
  obtain ⟨Sa, Sc, Sb, Sd, Sy, Sz, rfl, SF1, SF2, Se1, Se2, Sap⟩ := ST
  have SO := hid (Own.base SF1 (B' := w2.heap.size) (by simp))
  have SOI := hid (Own.block SO.out)
  clear SF1
  have SP := hid (Own.base SF2 (B' := w2.heap.size) (by simp))
  have SPI := hid (Own.block SP.out)
  clear SF2
  replace Se1 := hid Se1
  replace Se2 := hid Se2
  replace Sap := hid Sap
  clear Y YI
  obtain ⟨A0, A1, A2, A3, Al⟩ := Box.cells4 A.out
  go_wp2_with fail
  refine (toTube_any _ _ _ _ _ _ z0 _ (IsRowF.ext AR.out (Ext.trans EX.out (ext_alloc _ _))) hn).mono ?_
  rintro e w4 ⟨Xb, rfl, XF, E0⟩
  clear A0 A1 A2 A3 Al
  have SB := hid (Box.ext (box_new (w := w3) #[.slice Sa R.r.length Sc, .slice Sb R.l.length Sd] 49) E0)
  have EK := Ext.trans (ext_alloc _ _) E0
  have Z4 := hid (show w3.heap.size + 1 ≤ w4.heap.size from by have := Ext.size E0; simpa using this)
  replace A := hid (Box.ext A.out EK)
  replace SO := hid (Own.ext SO.out EK)
  replace SP := hid (Own.ext SP.out EK)
  replace EX := hid (Ext.trans EX.out EK)
  clear EK E0
  have X := hid (Own.base XF (B' := w3.heap.size + 1) (by simp))
  have XI := hid (Own.block X.out)
  clear XF
  obtain ⟨A0, A1, A2, A3, Al⟩ := Box.cells4 A.out
  obtain ⟨SB0, SB1, SBl⟩ := Box.cells2 SB.out
  go_wp2_with fail
  refine (still_any _ _ _ _ _ _ (z0.take n0) R _ (Holds.alloc (own_hold X.out) _) hn HR.out).mono ?_
  rintro e w5 ⟨Gv, rfl, GT, E0⟩
  clear A0 A1 A2 A3 Al SB0 SB1 SBl
  have XB := hid (Box.ext (box_new (w := w4) #[.slice (some ⟨Xb, 0, none⟩) n0 n0, .float .f32 l0, .float .f32 t0, .float .f32 p0] 27) E0)
  have EK := Ext.trans (ext_alloc _ _) E0
  have Z5 := hid (show w4.heap.size + 1 ≤ w5.heap.size from by have := Ext.size E0; simpa using this)
  replace A := hid (Box.ext A.out EK)
  replace SB := hid (Box.ext SB.out EK)
  replace SO := hid (Own.ext SO.out EK)
  replace SP := hid (Own.ext SP.out EK)
  replace X := hid (Own.ext X.out EK)
  replace EX := hid (Ext.trans EX.out EK)
  clear EK E0
  obtain ⟨Ga, Gc, Gb, Gd, Gy, Gz, rfl, GF1, GF2, Ge1, Ge2, Gap⟩ := GT
  have GO := hid (Own.base GF1 (B' := w4.heap.size + 1) (by simp))
  have GOI := hid (Own.block GO.out)
  clear GF1
  have GP := hid (Own.base GF2 (B' := w4.heap.size + 1) (by simp))
  have GPI := hid (Own.block GP.out)
  clear GF2
  replace Ge1 := hid Ge1
  replace Ge2 := hid Ge2
  replace Gap := hid Gap
  obtain ⟨A0, A1, A2, A3, Al⟩ := Box.cells4 A.out
  obtain ⟨SB0, SB1, SBl⟩ := Box.cells2 SB.out
  obtain ⟨XB0, XB1, XB2, XB3, XBl⟩ := Box.cells4 XB.out
  go_wp2_with fail
  refine (eqWaves_yes _ _ _ _ _ _ _ _ _ _ Gy Gz Sy Sz _ (Holds.alloc (own_hold GO.out) _) (Holds.alloc (own_hold GP.out) _) (Holds.alloc (own_hold SO.out) _) (Holds.alloc (own_hold SP.out) _) hlen hlen2 (by rw [Ge1.out, Se1.out]) (by rw [Ge2.out, Se2.out])).mono ?_
  rintro e w6 ⟨rfl, E0⟩
  clear A0 A1 A2 A3 Al SB0 SB1 SBl XB0 XB1 XB2 XB3 XBl
  have GB := hid (Box.ext (box_new (w := w5) #[.slice Ga R.r.length Gc, .slice Gb R.l.length Gd] 49) E0)
  have EK := Ext.trans (ext_alloc _ _) E0
  have Z6 := hid (show w5.heap.size + 1 ≤ w6.heap.size from by have := Ext.size E0; simpa using this)
  replace A := hid (Box.ext A.out EK)
  replace SB := hid (Box.ext SB.out EK)
  replace XB := hid (Box.ext XB.out EK)
  replace SO := hid (Own.ext SO.out EK)
  replace SP := hid (Own.ext SP.out EK)
  replace X := hid (Own.ext X.out EK)
  replace GO := hid (Own.ext GO.out EK)
  replace GP := hid (Own.ext GP.out EK)
  replace EX := hid (Ext.trans EX.out EK)
  clear EK E0
  obtain ⟨A0, A1, A2, A3, Al⟩ := Box.cells4 A.out
  obtain ⟨SB0, SB1, SBl⟩ := Box.cells2 SB.out
  obtain ⟨XB0, XB1, XB2, XB3, XBl⟩ := Box.cells4 XB.out
  obtain ⟨GB0, GB1, GBl⟩ := Box.cells2 GB.out
  go_wp2_with fail
  go_region_held3 (fun w' => (w'.cell? ⟨w.heap.size, 0, none⟩ = some (.slice a0 n0 c0) ∧ w'.cell? ⟨w.heap.size, 1, none⟩ = some (.float .f32 l0) ∧ w'.cell? ⟨w.heap.size, 2, none⟩ = some (.float .f32 t0) ∧ w'.cell? ⟨w.heap.size, 3, none⟩ = some (.float .f32 p0)) ∧ w'.cell? ⟨w4.heap.size, 0, none⟩ = some (.slice (some ⟨Xb, 0, none⟩) n0 n0) ∧ w'.cell? ⟨w4.heap.size, 1, none⟩ = some (.float .f32 l0) ∧ w'.cell? ⟨w4.heap.size, 2, none⟩ = some (.float .f32 t0) ∧ w'.cell? ⟨w4.heap.size, 3, none⟩ = some (.float .f32 p0))
    (first | exact cells44 A.out XB.out | exact cells44 (Box.ext A.out E6) (Box.ext XB.out E6) | exact cells44 (Box.ext (Box.ext A.out E6) E7) (Box.ext (Box.ext XB.out E6) E7))
    (first | (go_at_call 17; refine (toTube_any _ _ _ _ _ _ z0 _ (by have hq := IsRowF.ext AR.out EX.out; exact hq) hn).mono ?_; rintro e wA ⟨b3, rfl, YO, E60⟩; have E6 : Ext w6 wA := (by first | exact Ext.trans (Ext.drew1 (Ext.drewN (Ext.refl _) _)) E60 | exact Ext.trans (Ext.drew1 (Ext.refl _)) E60); clear E60) | (go_at_call 19; refine (eqTube_yes _ _ _ _ _ _ _ _ _ _ _ _ _ _ (own_hold (Own.ext X.out E6)) (own_hold YO) hn rfl rfl rfl rfl).mono ?_; rintro e w7 ⟨rfl, E7⟩))
  have EK := Ext.trans E6 E7
  have Z7 := hid (show w6.heap.size ≤ w7.heap.size from Ext.size EK)
  clear A0 A1 A2 A3 Al SB0 SB1 SBl XB0 XB1 XB2 XB3 XBl GB0 GB1 GBl
  replace A := hid (Box.ext A.out EK)
  replace SB := hid (Box.ext SB.out EK)
  replace XB := hid (Box.ext XB.out EK)
  replace GB := hid (Box.ext GB.out EK)
  replace SO := hid (Own.ext SO.out EK)
  replace SP := hid (Own.ext SP.out EK)
  replace X := hid (Own.ext X.out EK)
  replace GO := hid (Own.ext GO.out EK)
  replace GP := hid (Own.ext GP.out EK)
  replace EX := hid (Ext.trans EX.out EK)
  clear EK E6 E7 YO
  obtain ⟨A0, A1, A2, A3, Al⟩ := Box.cells4 A.out
  obtain ⟨SB0, SB1, SBl⟩ := Box.cells2 SB.out
  obtain ⟨XB0, XB1, XB2, XB3, XBl⟩ := Box.cells4 XB.out
  obtain ⟨GB0, GB1, GBl⟩ := Box.cells2 GB.out
  go_wp2_with fail
  refine (markTube_any _ n0 _ 1 _ _ _ _ (z0.take n0) _ X.out hn (by omega)).mono ?_
  rintro e w8 ⟨rfl, MO, MB⟩
  clear A0 A1 A2 A3 Al SB0 SB1 SBl XB0 XB1 XB2 XB3 XBl GB0 GB1 GBl
  have Z8 := hid (show w7.heap.size ≤ w8.heap.size from MB.size)
  replace A := hid (But.box MB A.out (fun hk => by have h1 := XI.out _ hk; have qZ1 := Z1.out; have qZ2 := Z2.out; have qZ3 := Z3.out; have qZ4 := Z4.out; have qZ5 := Z5.out; have qZ6 := Z6.out; have qZ7 := Z7.out; omega))
  replace SB := hid (But.box MB SB.out (fun hk => by have h1 := XI.out _ hk; have qZ1 := Z1.out; have qZ2 := Z2.out; have qZ3 := Z3.out; have qZ4 := Z4.out; have qZ5 := Z5.out; have qZ6 := Z6.out; have qZ7 := Z7.out; omega))
  replace XB := hid (But.box MB XB.out (fun hk => by have h1 := XI.out _ hk; have qZ1 := Z1.out; have qZ2 := Z2.out; have qZ3 := Z3.out; have qZ4 := Z4.out; have qZ5 := Z5.out; have qZ6 := Z6.out; have qZ7 := Z7.out; omega))
  replace GB := hid (But.box MB GB.out (fun hk => by have h1 := XI.out _ hk; have qZ1 := Z1.out; have qZ2 := Z2.out; have qZ3 := Z3.out; have qZ4 := Z4.out; have qZ5 := Z5.out; have qZ6 := Z6.out; have qZ7 := Z7.out; omega))
  replace SO := hid (But.own MB SO.out (fun k hk hk2 => by have h1 := XI.out _ hk2; have h2 := SOI.out _ hk; have qZ1 := Z1.out; have qZ2 := Z2.out; have qZ3 := Z3.out; have qZ4 := Z4.out; have qZ5 := Z5.out; have qZ6 := Z6.out; have qZ7 := Z7.out; omega))
  replace SP := hid (But.own MB SP.out (fun k hk hk2 => by have h1 := XI.out _ hk2; have h2 := SPI.out _ hk; have qZ1 := Z1.out; have qZ2 := Z2.out; have qZ3 := Z3.out; have qZ4 := Z4.out; have qZ5 := Z5.out; have qZ6 := Z6.out; have qZ7 := Z7.out; omega))
  replace GO := hid (But.own MB GO.out (fun k hk hk2 => by have h1 := XI.out _ hk2; have h2 := GOI.out _ hk; have qZ1 := Z1.out; have qZ2 := Z2.out; have qZ3 := Z3.out; have qZ4 := Z4.out; have qZ5 := Z5.out; have qZ6 := Z6.out; have qZ7 := Z7.out; omega))
  replace GP := hid (But.own MB GP.out (fun k hk hk2 => by have h1 := XI.out _ hk2; have h2 := GPI.out _ hk; have qZ1 := Z1.out; have qZ2 := Z2.out; have qZ3 := Z3.out; have qZ4 := Z4.out; have qZ5 := Z5.out; have qZ6 := Z6.out; have qZ7 := Z7.out; omega))
  replace EX := hid (But.below MB EX.out (fun k hk => by have h1 := XI.out _ hk; have qZ1 := Z1.out; have qZ2 := Z2.out; have qZ3 := Z3.out; have qZ4 := Z4.out; have qZ5 := Z5.out; have qZ6 := Z6.out; have qZ7 := Z7.out; omega))
  clear MO MB
  clear X XI
  obtain ⟨A0, A1, A2, A3, Al⟩ := Box.cells4 A.out
  obtain ⟨SB0, SB1, SBl⟩ := Box.cells2 SB.out
  obtain ⟨XB0, XB1, XB2, XB3, XBl⟩ := Box.cells4 XB.out
  obtain ⟨GB0, GB1, GBl⟩ := Box.cells2 GB.out
  go_wp2_with fail
  refine (eqWaves_yes _ _ _ _ _ _ _ _ _ _ Gy Gz Sy Sz _ (own_hold GO.out) (own_hold GP.out) (own_hold SO.out) (own_hold SP.out) hlen hlen2 (by rw [Ge1.out, Se1.out]) (by rw [Ge2.out, Se2.out])).mono ?_
  rintro e w9 ⟨rfl, E0⟩
  clear A0 A1 A2 A3 Al SB0 SB1 SBl XB0 XB1 XB2 XB3 XBl GB0 GB1 GBl
  have EK := E0
  have Z9 := hid (show w8.heap.size ≤ w9.heap.size from Ext.size E0)
  replace A := hid (Box.ext A.out EK)
  replace SB := hid (Box.ext SB.out EK)
  replace XB := hid (Box.ext XB.out EK)
  replace GB := hid (Box.ext GB.out EK)
  replace SO := hid (Own.ext SO.out EK)
  replace SP := hid (Own.ext SP.out EK)
  replace GO := hid (Own.ext GO.out EK)
  replace GP := hid (Own.ext GP.out EK)
  replace EX := hid (Ext.trans EX.out EK)
  clear EK E0
  obtain ⟨A0, A1, A2, A3, Al⟩ := Box.cells4 A.out
  obtain ⟨SB0, SB1, SBl⟩ := Box.cells2 SB.out
  obtain ⟨XB0, XB1, XB2, XB3, XBl⟩ := Box.cells4 XB.out
  obtain ⟨GB0, GB1, GBl⟩ := Box.cells2 GB.out
  go_wp2_with fail
  refine (markWaves_any _ _ _ _ _ _ _ Gy Gz _ GO.out GP.out hlen hlen2 Gap.out).mono ?_
  rintro e w10 ⟨rfl, MO, MP, MB⟩
  clear A0 A1 A2 A3 Al SB0 SB1 SBl XB0 XB1 XB2 XB3 XBl GB0 GB1 GBl
  have Z10 := hid (show w9.heap.size ≤ w10.heap.size from MB.size)
  replace A := hid (But2.box MB A.out (fun hk => by have h1 := GOI.out _ hk; have qZ1 := Z1.out; have qZ2 := Z2.out; have qZ3 := Z3.out; have qZ4 := Z4.out; have qZ5 := Z5.out; have qZ6 := Z6.out; have qZ7 := Z7.out; have qZ8 := Z8.out; have qZ9 := Z9.out; omega) (fun hk => by have h1 := GPI.out _ hk; have qZ1 := Z1.out; have qZ2 := Z2.out; have qZ3 := Z3.out; have qZ4 := Z4.out; have qZ5 := Z5.out; have qZ6 := Z6.out; have qZ7 := Z7.out; have qZ8 := Z8.out; have qZ9 := Z9.out; omega))
  replace SB := hid (But2.box MB SB.out (fun hk => by have h1 := GOI.out _ hk; have qZ1 := Z1.out; have qZ2 := Z2.out; have qZ3 := Z3.out; have qZ4 := Z4.out; have qZ5 := Z5.out; have qZ6 := Z6.out; have qZ7 := Z7.out; have qZ8 := Z8.out; have qZ9 := Z9.out; omega) (fun hk => by have h1 := GPI.out _ hk; have qZ1 := Z1.out; have qZ2 := Z2.out; have qZ3 := Z3.out; have qZ4 := Z4.out; have qZ5 := Z5.out; have qZ6 := Z6.out; have qZ7 := Z7.out; have qZ8 := Z8.out; have qZ9 := Z9.out; omega))
  replace XB := hid (But2.box MB XB.out (fun hk => by have h1 := GOI.out _ hk; have qZ1 := Z1.out; have qZ2 := Z2.out; have qZ3 := Z3.out; have qZ4 := Z4.out; have qZ5 := Z5.out; have qZ6 := Z6.out; have qZ7 := Z7.out; have qZ8 := Z8.out; have qZ9 := Z9.out; omega) (fun hk => by have h1 := GPI.out _ hk; have qZ1 := Z1.out; have qZ2 := Z2.out; have qZ3 := Z3.out; have qZ4 := Z4.out; have qZ5 := Z5.out; have qZ6 := Z6.out; have qZ7 := Z7.out; have qZ8 := Z8.out; have qZ9 := Z9.out; omega))
  replace GB := hid (But2.box MB GB.out (fun hk => by have h1 := GOI.out _ hk; have qZ1 := Z1.out; have qZ2 := Z2.out; have qZ3 := Z3.out; have qZ4 := Z4.out; have qZ5 := Z5.out; have qZ6 := Z6.out; have qZ7 := Z7.out; have qZ8 := Z8.out; have qZ9 := Z9.out; omega) (fun hk => by have h1 := GPI.out _ hk; have qZ1 := Z1.out; have qZ2 := Z2.out; have qZ3 := Z3.out; have qZ4 := Z4.out; have qZ5 := Z5.out; have qZ6 := Z6.out; have qZ7 := Z7.out; have qZ8 := Z8.out; have qZ9 := Z9.out; omega))
  replace SO := hid (But2.own MB SO.out (fun k hk hk2 => by have h1 := GOI.out _ hk2; have h2 := SOI.out _ hk; have qZ1 := Z1.out; have qZ2 := Z2.out; have qZ3 := Z3.out; have qZ4 := Z4.out; have qZ5 := Z5.out; have qZ6 := Z6.out; have qZ7 := Z7.out; have qZ8 := Z8.out; have qZ9 := Z9.out; omega) (fun k hk hk2 => by have h1 := GPI.out _ hk2; have h2 := SOI.out _ hk; have qZ1 := Z1.out; have qZ2 := Z2.out; have qZ3 := Z3.out; have qZ4 := Z4.out; have qZ5 := Z5.out; have qZ6 := Z6.out; have qZ7 := Z7.out; have qZ8 := Z8.out; have qZ9 := Z9.out; omega))
  replace SP := hid (But2.own MB SP.out (fun k hk hk2 => by have h1 := GOI.out _ hk2; have h2 := SPI.out _ hk; have qZ1 := Z1.out; have qZ2 := Z2.out; have qZ3 := Z3.out; have qZ4 := Z4.out; have qZ5 := Z5.out; have qZ6 := Z6.out; have qZ7 := Z7.out; have qZ8 := Z8.out; have qZ9 := Z9.out; omega) (fun k hk hk2 => by have h1 := GPI.out _ hk2; have h2 := SPI.out _ hk; have qZ1 := Z1.out; have qZ2 := Z2.out; have qZ3 := Z3.out; have qZ4 := Z4.out; have qZ5 := Z5.out; have qZ6 := Z6.out; have qZ7 := Z7.out; have qZ8 := Z8.out; have qZ9 := Z9.out; omega))
  replace EX := hid (But2.below MB EX.out (fun k hk => by have h1 := GOI.out _ hk; have qZ1 := Z1.out; have qZ2 := Z2.out; have qZ3 := Z3.out; have qZ4 := Z4.out; have qZ5 := Z5.out; have qZ6 := Z6.out; have qZ7 := Z7.out; have qZ8 := Z8.out; have qZ9 := Z9.out; omega) (fun k hk => by have h1 := GPI.out _ hk; have qZ1 := Z1.out; have qZ2 := Z2.out; have qZ3 := Z3.out; have qZ4 := Z4.out; have qZ5 := Z5.out; have qZ6 := Z6.out; have qZ7 := Z7.out; have qZ8 := Z8.out; have qZ9 := Z9.out; omega))
  replace GO := hid MO
  replace GP := hid MP
  clear MO MP MB
  obtain ⟨A0, A1, A2, A3, Al⟩ := Box.cells4 A.out
  obtain ⟨SB0, SB1, SBl⟩ := Box.cells2 SB.out
  obtain ⟨XB0, XB1, XB2, XB3, XBl⟩ := Box.cells4 XB.out
  obtain ⟨GB0, GB1, GBl⟩ := Box.cells2 GB.out
  go_wp2_with fail
  refine (heldWaves_any _ _ _ _ _ _ _ _ GO.out GP.out hlen hlen2).mono ?_
  rintro e w11 ⟨rfl, E0⟩
  clear A0 A1 A2 A3 Al SB0 SB1 SBl XB0 XB1 XB2 XB3 XBl GB0 GB1 GBl
  have EK := E0
  have Z11 := hid (show w10.heap.size ≤ w11.heap.size from Ext.size E0)
  replace A := hid (Box.ext A.out EK)
  replace SB := hid (Box.ext SB.out EK)
  replace XB := hid (Box.ext XB.out EK)
  replace GB := hid (Box.ext GB.out EK)
  replace SO := hid (Own.ext SO.out EK)
  replace SP := hid (Own.ext SP.out EK)
  replace GO := hid (Own.ext GO.out EK)
  replace GP := hid (Own.ext GP.out EK)
  replace EX := hid (Ext.trans EX.out EK)
  clear EK E0
  obtain ⟨A0, A1, A2, A3, Al⟩ := Box.cells4 A.out
  obtain ⟨SB0, SB1, SBl⟩ := Box.cells2 SB.out
  obtain ⟨XB0, XB1, XB2, XB3, XBl⟩ := Box.cells4 XB.out
  obtain ⟨GB0, GB1, GBl⟩ := Box.cells2 GB.out
  go_wp2_with fail
  refine (toTube_any _ _ _ _ _ _ z0 _ (IsRowF.ext AR.out EX.out) hn).mono ?_
  rintro e w12 ⟨Vb, rfl, VF, E0⟩
  clear A0 A1 A2 A3 Al SB0 SB1 SBl XB0 XB1 XB2 XB3 XBl GB0 GB1 GBl
  have EK := E0
  have Z12 := hid (show w11.heap.size ≤ w12.heap.size from Ext.size E0)
  replace A := hid (Box.ext A.out EK)
  replace SB := hid (Box.ext SB.out EK)
  replace XB := hid (Box.ext XB.out EK)
  replace GB := hid (Box.ext GB.out EK)
  replace SO := hid (Own.ext SO.out EK)
  replace SP := hid (Own.ext SP.out EK)
  replace GO := hid (Own.ext GO.out EK)
  replace GP := hid (Own.ext GP.out EK)
  replace EX := hid (Ext.trans EX.out EK)
  clear EK E0
  have V := hid (Own.base VF (B' := w11.heap.size) (by simp))
  have VI := hid (Own.block V.out)
  clear VF
  obtain ⟨A0, A1, A2, A3, Al⟩ := Box.cells4 A.out
  obtain ⟨SB0, SB1, SBl⟩ := Box.cells2 SB.out
  obtain ⟨XB0, XB1, XB2, XB3, XBl⟩ := Box.cells4 XB.out
  obtain ⟨GB0, GB1, GBl⟩ := Box.cells2 GB.out
  go_wp2_with fail
  refine (still_any _ _ _ _ _ _ (z0.take n0) R _ (own_hold V.out) hn HR.out).mono ?_
  rintro e w13 ⟨Hv, rfl, HT, E0⟩
  clear A0 A1 A2 A3 Al SB0 SB1 SBl XB0 XB1 XB2 XB3 XBl GB0 GB1 GBl
  have EK := E0
  have Z13 := hid (show w12.heap.size ≤ w13.heap.size from Ext.size E0)
  replace A := hid (Box.ext A.out EK)
  replace SB := hid (Box.ext SB.out EK)
  replace XB := hid (Box.ext XB.out EK)
  replace GB := hid (Box.ext GB.out EK)
  replace SO := hid (Own.ext SO.out EK)
  replace SP := hid (Own.ext SP.out EK)
  replace GO := hid (Own.ext GO.out EK)
  replace GP := hid (Own.ext GP.out EK)
  replace V := hid (Own.ext V.out EK)
  replace EX := hid (Ext.trans EX.out EK)
  clear EK E0
  obtain ⟨Ha, Hc, Hb, Hd, Hy, Hz, rfl, HF1, HF2, He1, He2, Hap⟩ := HT
  have HO := hid (Own.base HF1 (B' := w12.heap.size) (by simp))
  have HOI := hid (Own.block HO.out)
  clear HF1
  have HP := hid (Own.base HF2 (B' := w12.heap.size) (by simp))
  have HPI := hid (Own.block HP.out)
  clear HF2
  replace He1 := hid He1
  replace He2 := hid He2
  replace Hap := hid Hap
  clear V VI
  obtain ⟨A0, A1, A2, A3, Al⟩ := Box.cells4 A.out
  obtain ⟨SB0, SB1, SBl⟩ := Box.cells2 SB.out
  obtain ⟨XB0, XB1, XB2, XB3, XBl⟩ := Box.cells4 XB.out
  obtain ⟨GB0, GB1, GBl⟩ := Box.cells2 GB.out
  go_wp2_with fail
  refine (eqWaves_yes _ _ _ _ _ _ _ _ _ _ Hy Hz Sy Sz _ (Holds.alloc (own_hold HO.out) _) (Holds.alloc (own_hold HP.out) _) (Holds.alloc (own_hold SO.out) _) (Holds.alloc (own_hold SP.out) _) hlen hlen2 (by rw [He1.out, Se1.out]) (by rw [He2.out, Se2.out])).mono ?_
  rintro e w14 ⟨rfl, E0⟩
  clear A0 A1 A2 A3 Al SB0 SB1 SBl XB0 XB1 XB2 XB3 XBl GB0 GB1 GBl
  have HB := hid (Box.ext (box_new (w := w13) #[.slice Ha R.r.length Hc, .slice Hb R.l.length Hd] 49) E0)
  have EK := Ext.trans (ext_alloc _ _) E0
  have Z14 := hid (show w13.heap.size + 1 ≤ w14.heap.size from by have := Ext.size E0; simpa using this)
  replace A := hid (Box.ext A.out EK)
  replace SB := hid (Box.ext SB.out EK)
  replace XB := hid (Box.ext XB.out EK)
  replace GB := hid (Box.ext GB.out EK)
  replace SO := hid (Own.ext SO.out EK)
  replace SP := hid (Own.ext SP.out EK)
  replace GO := hid (Own.ext GO.out EK)
  replace GP := hid (Own.ext GP.out EK)
  replace HO := hid (Own.ext HO.out EK)
  replace HP := hid (Own.ext HP.out EK)
  replace EX := hid (Ext.trans EX.out EK)
  clear EK E0
  obtain ⟨A0, A1, A2, A3, Al⟩ := Box.cells4 A.out
  obtain ⟨SB0, SB1, SBl⟩ := Box.cells2 SB.out
  obtain ⟨XB0, XB1, XB2, XB3, XBl⟩ := Box.cells4 XB.out
  obtain ⟨GB0, GB1, GBl⟩ := Box.cells2 GB.out
  obtain ⟨HB0, HB1, HBl⟩ := Box.cells2 HB.out
  go_wp2_with fail
  refine (heldWaves_any _ _ _ _ _ _ _ _ GO.out GP.out hlen hlen2).mono ?_
  rintro e w15 ⟨rfl, E0⟩
  clear A0 A1 A2 A3 Al SB0 SB1 SBl XB0 XB1 XB2 XB3 XBl GB0 GB1 GBl HB0 HB1 HBl
  have EK := E0
  have Z15 := hid (show w14.heap.size ≤ w15.heap.size from Ext.size E0)
  replace A := hid (Box.ext A.out EK)
  replace SB := hid (Box.ext SB.out EK)
  replace XB := hid (Box.ext XB.out EK)
  replace GB := hid (Box.ext GB.out EK)
  replace HB := hid (Box.ext HB.out EK)
  replace SO := hid (Own.ext SO.out EK)
  replace SP := hid (Own.ext SP.out EK)
  replace GO := hid (Own.ext GO.out EK)
  replace GP := hid (Own.ext GP.out EK)
  replace HO := hid (Own.ext HO.out EK)
  replace HP := hid (Own.ext HP.out EK)
  replace EX := hid (Ext.trans EX.out EK)
  clear EK E0
  obtain ⟨A0, A1, A2, A3, Al⟩ := Box.cells4 A.out
  obtain ⟨SB0, SB1, SBl⟩ := Box.cells2 SB.out
  obtain ⟨XB0, XB1, XB2, XB3, XBl⟩ := Box.cells4 XB.out
  obtain ⟨GB0, GB1, GBl⟩ := Box.cells2 GB.out
  obtain ⟨HB0, HB1, HBl⟩ := Box.cells2 HB.out
  go_wp2
  go_ret
  exact ⟨rfl, EX.out⟩
end Go.Proofs.Ytogjehlepdapoab
