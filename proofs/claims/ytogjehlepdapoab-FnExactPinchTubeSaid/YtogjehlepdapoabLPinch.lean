/- The law on pinched tubes. -/
import Derived.Test.YtogjehlepdapoabT11s
import Derived.Deep.RegionHeld3
namespace Go.Proofs.Ytogjehlepdapoab
open Go.RowKit Flt
set_option linter.unusedVariables false

set_option maxHeartbeats 4000000 in
set_option maxRecDepth 100000 in
theorem FnExactPinchTube_walk (a0 : Option Addr) (n0 c0 : Nat) (z0 : List Nat) (l0 t0 p0 : Nat) (x1 : Int) (x2 : Nat) (w : World) (w0 : IsRowF .f32 w a0 n0 c0 z0) (wl : (Lit.float .f32 l0).wf = true) (wt : (Lit.float .f32 t0).wf = true) (wp : (Lit.float .f32 p0).wf = true) (wx1 : (Lit.int .i64 x1).wf = true) (wx2 : (Lit.float .f32 x2).wf = true) :
    Calls Try.prog 3 #[.agg #[.slice a0 n0 c0, .float .f32 l0, .float .f32 t0, .float .f32 p0], .int .i64 x1, .float .f32 x2] w fun e w' => e = .returned (.bool true) ∧ Below w.heap.size w w' := by
  have hmx : n0 ≤ maxLen := row_max w0
  by_cases hbig : 1048576 < n0
  · go_enter Try.func3, Try.ntmps3
    go_wp2_with fail
    refine (szTube_no _ _ _ _ _ _ _ hmx (by omega) (by omega) _).mono ?_
    rintro e w1 ⟨rfl, E1⟩
    have EX := hid (Ext.trans (ext_alloc _ _) E1)
    clear E1
    go_wp2
    go_ret
    exact ⟨rfl, EX.out⟩
  have hn : n0 ≤ 1048576 := by omega
  have hk : (n0 : Int) ≤ 1048576 := by omega
  have hk2 : ¬ ((1048576 : Int) - (n0 : Int) < 0) := by omega
  have hk3 : ¬ (1 + (n0 : Int) < 0) := by omega
  have AR := hid w0
  obtain ⟨R, hR⟩ : ∃ R, pinchT ((z0.take n0).map (cls .f32)) (cls .f32 l0) (cls .f32 t0) (cls .f32 p0) x1 (cls .f32 x2) = R := ⟨_, rfl⟩
  have hlen : R.cs.length ≤ 1048576 := by
    rw [← hR]
    exact Nat.le_trans (pinch_len _ _ _ _ _ _) (by omega)
  have HR := hid hR
  clear hR
  have hk4 : ¬ (1 + (R.cs.length : Int) < 0) := by omega
  clear w0 hmx hbig wl wt wp wx2
  go_enter Try.func3, Try.ntmps3
  go_wp2_with fail
  refine (szTube_yes _ _ _ _ _ _ _ hk (by omega) _).mono ?_
  rintro e w1 ⟨rfl, E0⟩
  have EX := hid (Ext.trans (ext_alloc _ _) E0)
  have A := hid (Box.ext (box_new (w := w) #[.slice a0 n0 c0, .float .f32 l0, .float .f32 t0, .float .f32 p0] 25) E0)
  have Z1 := hid (show w.heap.size + 1 ≤ w1.heap.size from by have := Ext.size E0; simpa using this)
  clear E0
  obtain ⟨A0, A1, A2, A3, Al⟩ := Box.cells4 A.out
  go_wp2_with fail
  refine (toTube_any _ _ _ _ _ _ z0 _ (IsRowF.ext AR.out EX.out) hn).mono ?_
  rintro e w2 ⟨Yb, rfl, YF, E0⟩
  clear A0 A1 A2 A3 Al
  have EK := E0
  have Z2 := hid (show w1.heap.size ≤ w2.heap.size from Ext.size E0)
  replace A := hid (Box.ext A.out EK)
  replace EX := hid (Ext.trans EX.out EK)
  clear EK E0
  have Y := hid (Own.base YF (B' := w1.heap.size) (by simp))
  have YI := hid (Own.block Y.out)
  clear YF
  obtain ⟨A0, A1, A2, A3, Al⟩ := Box.cells4 A.out
  go_wp2_with fail
  refine (sPinch_any _ _ _ _ _ _ x2 (z0.take n0) x1 R _ (own_hold Y.out) hn HR.out).mono ?_
  rintro e w3 ⟨Sv, rfl, ST, E0⟩
  clear A0 A1 A2 A3 Al
  have EK := E0
  have Z3 := hid (show w2.heap.size ≤ w3.heap.size from Ext.size E0)
  replace A := hid (Box.ext A.out EK)
  replace Y := hid (Own.ext Y.out EK)
  replace EX := hid (Ext.trans EX.out EK)
  clear EK E0
  obtain ⟨Sa, Sc, Sl, St, Sp, Sz, rfl, SF, Se, Sel, Set, Sep⟩ := ST
  have SO := hid (Own.base SF (B' := w2.heap.size) (by simp))
  have SOI := hid (Own.block SO.out)
  clear SF
  replace Se := hid Se
  replace Sel := hid Sel
  replace Set := hid Set
  replace Sep := hid Sep
  clear Y YI
  obtain ⟨A0, A1, A2, A3, Al⟩ := Box.cells4 A.out
  go_wp2_with fail
  refine (toTube_any _ _ _ _ _ _ z0 _ (IsRowF.ext AR.out (Ext.trans EX.out (ext_alloc _ _))) hn).mono ?_
  rintro e w4 ⟨Xb, rfl, XF, E0⟩
  clear A0 A1 A2 A3 Al
  have SB := hid (Box.ext (box_new (w := w3) #[.slice Sa R.cs.length Sc, .float .f32 Sl, .float .f32 St, .float .f32 Sp] 27) E0)
  have EK := Ext.trans (ext_alloc _ _) E0
  have Z4 := hid (show w3.heap.size + 1 ≤ w4.heap.size from by have := Ext.size E0; simpa using this)
  replace A := hid (Box.ext A.out EK)
  replace SO := hid (Own.ext SO.out EK)
  replace EX := hid (Ext.trans EX.out EK)
  clear EK E0
  have X := hid (Own.base XF (B' := w3.heap.size + 1) (by simp))
  have XI := hid (Own.block X.out)
  clear XF
  obtain ⟨A0, A1, A2, A3, Al⟩ := Box.cells4 A.out
  obtain ⟨SB0, SB1, SB2, SB3, SBl⟩ := Box.cells4 SB.out
  go_wp2_with fail
  refine (pinch_any _ _ _ _ _ _ x2 (z0.take n0) x1 R _ (Holds.alloc (own_hold X.out) _) hn HR.out).mono ?_
  rintro e w5 ⟨Gv, rfl, GT, E0⟩
  clear A0 A1 A2 A3 Al SB0 SB1 SB2 SB3 SBl
  have XB := hid (Box.ext (box_new (w := w4) #[.slice (some ⟨Xb, 0, none⟩) n0 n0, .float .f32 l0, .float .f32 t0, .float .f32 p0] 27) E0)
  have EK := Ext.trans (ext_alloc _ _) E0
  have Z5 := hid (show w4.heap.size + 1 ≤ w5.heap.size from by have := Ext.size E0; simpa using this)
  replace A := hid (Box.ext A.out EK)
  replace SB := hid (Box.ext SB.out EK)
  replace SO := hid (Own.ext SO.out EK)
  replace X := hid (Own.ext X.out EK)
  replace EX := hid (Ext.trans EX.out EK)
  clear EK E0
  obtain ⟨Ga, Gc, Gl, Gt, Gp, Gz, rfl, GF, Ge, Gel, Get, Gep⟩ := GT
  have GO := hid (Own.base GF (B' := w4.heap.size + 1) (by simp))
  have GOI := hid (Own.block GO.out)
  clear GF
  replace Ge := hid Ge
  replace Gel := hid Gel
  replace Get := hid Get
  replace Gep := hid Gep
  obtain ⟨A0, A1, A2, A3, Al⟩ := Box.cells4 A.out
  obtain ⟨SB0, SB1, SB2, SB3, SBl⟩ := Box.cells4 SB.out
  obtain ⟨XB0, XB1, XB2, XB3, XBl⟩ := Box.cells4 XB.out
  go_wp2_with fail
  refine (eqTube_yes _ _ _ _ _ _ _ _ _ _ _ Gz Sz _ (Holds.alloc (own_hold GO.out) _) (Holds.alloc (own_hold SO.out) _) hlen (by rw [Ge.out, Se.out]) (by rw [Gel.out, Sel.out]) (by rw [Get.out, Set.out]) (by rw [Gep.out, Sep.out])).mono ?_
  rintro e w6 ⟨rfl, E0⟩
  clear A0 A1 A2 A3 Al SB0 SB1 SB2 SB3 SBl XB0 XB1 XB2 XB3 XBl
  have GB := hid (Box.ext (box_new (w := w5) #[.slice Ga R.cs.length Gc, .float .f32 Gl, .float .f32 Gt, .float .f32 Gp] 27) E0)
  have EK := Ext.trans (ext_alloc _ _) E0
  have Z6 := hid (show w5.heap.size + 1 ≤ w6.heap.size from by have := Ext.size E0; simpa using this)
  replace A := hid (Box.ext A.out EK)
  replace SB := hid (Box.ext SB.out EK)
  replace XB := hid (Box.ext XB.out EK)
  replace SO := hid (Own.ext SO.out EK)
  replace X := hid (Own.ext X.out EK)
  replace GO := hid (Own.ext GO.out EK)
  replace EX := hid (Ext.trans EX.out EK)
  clear EK E0
  obtain ⟨A0, A1, A2, A3, Al⟩ := Box.cells4 A.out
  obtain ⟨SB0, SB1, SB2, SB3, SBl⟩ := Box.cells4 SB.out
  obtain ⟨XB0, XB1, XB2, XB3, XBl⟩ := Box.cells4 XB.out
  obtain ⟨GB0, GB1, GB2, GB3, GBl⟩ := Box.cells4 GB.out
  go_wp2_with fail
  go_region_held3 (fun w' => (w'.cell? ⟨w.heap.size, 0, none⟩ = some (.slice a0 n0 c0) ∧ w'.cell? ⟨w.heap.size, 1, none⟩ = some (.float .f32 l0) ∧ w'.cell? ⟨w.heap.size, 2, none⟩ = some (.float .f32 t0) ∧ w'.cell? ⟨w.heap.size, 3, none⟩ = some (.float .f32 p0)) ∧ w'.cell? ⟨w4.heap.size, 0, none⟩ = some (.slice (some ⟨Xb, 0, none⟩) n0 n0) ∧ w'.cell? ⟨w4.heap.size, 1, none⟩ = some (.float .f32 l0) ∧ w'.cell? ⟨w4.heap.size, 2, none⟩ = some (.float .f32 t0) ∧ w'.cell? ⟨w4.heap.size, 3, none⟩ = some (.float .f32 p0))
    (first | exact cells44 A.out XB.out | exact cells44 (Box.ext A.out E6) (Box.ext XB.out E6) | exact cells44 (Box.ext (Box.ext A.out E6) E7) (Box.ext (Box.ext XB.out E6) E7))
    (first | (go_at_call 17; refine (toTube_any _ _ _ _ _ _ z0 _ (by have hq := IsRowF.ext AR.out EX.out; exact hq) hn).mono ?_; rintro e wA ⟨b3, rfl, YO, E60⟩; have E6 : Ext w6 wA := (by first | exact Ext.trans (Ext.drew1 (Ext.drewN (Ext.refl _) _)) E60 | exact Ext.trans (Ext.drew1 (Ext.refl _)) E60); clear E60) | (go_at_call 19; refine (eqTube_yes _ _ _ _ _ _ _ _ _ _ _ _ _ _ (own_hold (Own.ext X.out E6)) (own_hold YO) hn rfl rfl rfl rfl).mono ?_; rintro e w7 ⟨rfl, E7⟩))
  have EK := Ext.trans E6 E7
  have Z7 := hid (show w6.heap.size ≤ w7.heap.size from Ext.size EK)
  clear A0 A1 A2 A3 Al SB0 SB1 SB2 SB3 SBl XB0 XB1 XB2 XB3 XBl GB0 GB1 GB2 GB3 GBl
  replace A := hid (Box.ext A.out EK)
  replace SB := hid (Box.ext SB.out EK)
  replace XB := hid (Box.ext XB.out EK)
  replace GB := hid (Box.ext GB.out EK)
  replace SO := hid (Own.ext SO.out EK)
  replace X := hid (Own.ext X.out EK)
  replace GO := hid (Own.ext GO.out EK)
  replace EX := hid (Ext.trans EX.out EK)
  clear EK E6 E7 YO
  obtain ⟨A0, A1, A2, A3, Al⟩ := Box.cells4 A.out
  obtain ⟨SB0, SB1, SB2, SB3, SBl⟩ := Box.cells4 SB.out
  obtain ⟨XB0, XB1, XB2, XB3, XBl⟩ := Box.cells4 XB.out
  obtain ⟨GB0, GB1, GB2, GB3, GBl⟩ := Box.cells4 GB.out
  go_wp2_with fail
  refine (markTube_any _ n0 _ 1 _ _ _ _ (z0.take n0) _ X.out hn (by omega)).mono ?_
  rintro e w8 ⟨rfl, MO, MB⟩
  clear A0 A1 A2 A3 Al SB0 SB1 SB2 SB3 SBl XB0 XB1 XB2 XB3 XBl GB0 GB1 GB2 GB3 GBl
  have Z8 := hid (show w7.heap.size ≤ w8.heap.size from MB.size)
  replace A := hid (But.box MB A.out (fun hk => by have h1 := XI.out _ hk; have qZ1 := Z1.out; have qZ2 := Z2.out; have qZ3 := Z3.out; have qZ4 := Z4.out; have qZ5 := Z5.out; have qZ6 := Z6.out; have qZ7 := Z7.out; omega))
  replace SB := hid (But.box MB SB.out (fun hk => by have h1 := XI.out _ hk; have qZ1 := Z1.out; have qZ2 := Z2.out; have qZ3 := Z3.out; have qZ4 := Z4.out; have qZ5 := Z5.out; have qZ6 := Z6.out; have qZ7 := Z7.out; omega))
  replace XB := hid (But.box MB XB.out (fun hk => by have h1 := XI.out _ hk; have qZ1 := Z1.out; have qZ2 := Z2.out; have qZ3 := Z3.out; have qZ4 := Z4.out; have qZ5 := Z5.out; have qZ6 := Z6.out; have qZ7 := Z7.out; omega))
  replace GB := hid (But.box MB GB.out (fun hk => by have h1 := XI.out _ hk; have qZ1 := Z1.out; have qZ2 := Z2.out; have qZ3 := Z3.out; have qZ4 := Z4.out; have qZ5 := Z5.out; have qZ6 := Z6.out; have qZ7 := Z7.out; omega))
  replace SO := hid (But.own MB SO.out (fun k hk hk2 => by have h1 := XI.out _ hk2; have h2 := SOI.out _ hk; have qZ1 := Z1.out; have qZ2 := Z2.out; have qZ3 := Z3.out; have qZ4 := Z4.out; have qZ5 := Z5.out; have qZ6 := Z6.out; have qZ7 := Z7.out; omega))
  replace GO := hid (But.own MB GO.out (fun k hk hk2 => by have h1 := XI.out _ hk2; have h2 := GOI.out _ hk; have qZ1 := Z1.out; have qZ2 := Z2.out; have qZ3 := Z3.out; have qZ4 := Z4.out; have qZ5 := Z5.out; have qZ6 := Z6.out; have qZ7 := Z7.out; omega))
  replace EX := hid (But.below MB EX.out (fun k hk => by have h1 := XI.out _ hk; have qZ1 := Z1.out; have qZ2 := Z2.out; have qZ3 := Z3.out; have qZ4 := Z4.out; have qZ5 := Z5.out; have qZ6 := Z6.out; have qZ7 := Z7.out; omega))
  replace X := hid MO
  clear MO MB
  clear X XI
  obtain ⟨A0, A1, A2, A3, Al⟩ := Box.cells4 A.out
  obtain ⟨SB0, SB1, SB2, SB3, SBl⟩ := Box.cells4 SB.out
  obtain ⟨XB0, XB1, XB2, XB3, XBl⟩ := Box.cells4 XB.out
  obtain ⟨GB0, GB1, GB2, GB3, GBl⟩ := Box.cells4 GB.out
  go_wp2_with fail
  refine (eqTube_yes _ _ _ _ _ _ _ _ _ _ _ Gz Sz _ (own_hold GO.out) (own_hold SO.out) hlen (by rw [Ge.out, Se.out]) (by rw [Gel.out, Sel.out]) (by rw [Get.out, Set.out]) (by rw [Gep.out, Sep.out])).mono ?_
  rintro e w9 ⟨rfl, E0⟩
  clear A0 A1 A2 A3 Al SB0 SB1 SB2 SB3 SBl XB0 XB1 XB2 XB3 XBl GB0 GB1 GB2 GB3 GBl
  have EK := E0
  have Z9 := hid (show w8.heap.size ≤ w9.heap.size from Ext.size E0)
  replace A := hid (Box.ext A.out EK)
  replace SB := hid (Box.ext SB.out EK)
  replace XB := hid (Box.ext XB.out EK)
  replace GB := hid (Box.ext GB.out EK)
  replace SO := hid (Own.ext SO.out EK)
  replace GO := hid (Own.ext GO.out EK)
  replace EX := hid (Ext.trans EX.out EK)
  clear EK E0
  obtain ⟨A0, A1, A2, A3, Al⟩ := Box.cells4 A.out
  obtain ⟨SB0, SB1, SB2, SB3, SBl⟩ := Box.cells4 SB.out
  obtain ⟨XB0, XB1, XB2, XB3, XBl⟩ := Box.cells4 XB.out
  obtain ⟨GB0, GB1, GB2, GB3, GBl⟩ := Box.cells4 GB.out
  go_wp2_with fail
  refine (markTube_any _ R.cs.length _ 1 _ _ _ _ Gz _ GO.out hlen (by omega)).mono ?_
  rintro e w10 ⟨rfl, MO, MB⟩
  clear A0 A1 A2 A3 Al SB0 SB1 SB2 SB3 SBl XB0 XB1 XB2 XB3 XBl GB0 GB1 GB2 GB3 GBl
  have Z10 := hid (show w9.heap.size ≤ w10.heap.size from MB.size)
  replace A := hid (But.box MB A.out (fun hk => by have h1 := GOI.out _ hk; have qZ1 := Z1.out; have qZ2 := Z2.out; have qZ3 := Z3.out; have qZ4 := Z4.out; have qZ5 := Z5.out; have qZ6 := Z6.out; have qZ7 := Z7.out; have qZ8 := Z8.out; have qZ9 := Z9.out; omega))
  replace SB := hid (But.box MB SB.out (fun hk => by have h1 := GOI.out _ hk; have qZ1 := Z1.out; have qZ2 := Z2.out; have qZ3 := Z3.out; have qZ4 := Z4.out; have qZ5 := Z5.out; have qZ6 := Z6.out; have qZ7 := Z7.out; have qZ8 := Z8.out; have qZ9 := Z9.out; omega))
  replace XB := hid (But.box MB XB.out (fun hk => by have h1 := GOI.out _ hk; have qZ1 := Z1.out; have qZ2 := Z2.out; have qZ3 := Z3.out; have qZ4 := Z4.out; have qZ5 := Z5.out; have qZ6 := Z6.out; have qZ7 := Z7.out; have qZ8 := Z8.out; have qZ9 := Z9.out; omega))
  replace GB := hid (But.box MB GB.out (fun hk => by have h1 := GOI.out _ hk; have qZ1 := Z1.out; have qZ2 := Z2.out; have qZ3 := Z3.out; have qZ4 := Z4.out; have qZ5 := Z5.out; have qZ6 := Z6.out; have qZ7 := Z7.out; have qZ8 := Z8.out; have qZ9 := Z9.out; omega))
  replace SO := hid (But.own MB SO.out (fun k hk hk2 => by have h1 := GOI.out _ hk2; have h2 := SOI.out _ hk; have qZ1 := Z1.out; have qZ2 := Z2.out; have qZ3 := Z3.out; have qZ4 := Z4.out; have qZ5 := Z5.out; have qZ6 := Z6.out; have qZ7 := Z7.out; have qZ8 := Z8.out; have qZ9 := Z9.out; omega))
  replace EX := hid (But.below MB EX.out (fun k hk => by have h1 := GOI.out _ hk; have qZ1 := Z1.out; have qZ2 := Z2.out; have qZ3 := Z3.out; have qZ4 := Z4.out; have qZ5 := Z5.out; have qZ6 := Z6.out; have qZ7 := Z7.out; have qZ8 := Z8.out; have qZ9 := Z9.out; omega))
  replace GO := hid MO
  clear MO MB
  obtain ⟨A0, A1, A2, A3, Al⟩ := Box.cells4 A.out
  obtain ⟨SB0, SB1, SB2, SB3, SBl⟩ := Box.cells4 SB.out
  obtain ⟨XB0, XB1, XB2, XB3, XBl⟩ := Box.cells4 XB.out
  obtain ⟨GB0, GB1, GB2, GB3, GBl⟩ := Box.cells4 GB.out
  go_wp2_with fail
  refine (heldTube_any _ _ _ 1 _ _ _ _ _ GO.out hlen (by omega)).mono ?_
  rintro e w11 ⟨rfl, E0⟩
  clear A0 A1 A2 A3 Al SB0 SB1 SB2 SB3 SBl XB0 XB1 XB2 XB3 XBl GB0 GB1 GB2 GB3 GBl
  have EK := E0
  have Z11 := hid (show w10.heap.size ≤ w11.heap.size from Ext.size E0)
  replace A := hid (Box.ext A.out EK)
  replace SB := hid (Box.ext SB.out EK)
  replace XB := hid (Box.ext XB.out EK)
  replace GB := hid (Box.ext GB.out EK)
  replace SO := hid (Own.ext SO.out EK)
  replace GO := hid (Own.ext GO.out EK)
  replace EX := hid (Ext.trans EX.out EK)
  clear EK E0
  obtain ⟨A0, A1, A2, A3, Al⟩ := Box.cells4 A.out
  obtain ⟨SB0, SB1, SB2, SB3, SBl⟩ := Box.cells4 SB.out
  obtain ⟨XB0, XB1, XB2, XB3, XBl⟩ := Box.cells4 XB.out
  obtain ⟨GB0, GB1, GB2, GB3, GBl⟩ := Box.cells4 GB.out
  go_wp2_with fail
  refine (toTube_any _ _ _ _ _ _ z0 _ (IsRowF.ext AR.out EX.out) hn).mono ?_
  rintro e w12 ⟨Vb, rfl, VF, E0⟩
  clear A0 A1 A2 A3 Al SB0 SB1 SB2 SB3 SBl XB0 XB1 XB2 XB3 XBl GB0 GB1 GB2 GB3 GBl
  have EK := E0
  have Z12 := hid (show w11.heap.size ≤ w12.heap.size from Ext.size E0)
  replace A := hid (Box.ext A.out EK)
  replace SB := hid (Box.ext SB.out EK)
  replace XB := hid (Box.ext XB.out EK)
  replace GB := hid (Box.ext GB.out EK)
  replace SO := hid (Own.ext SO.out EK)
  replace GO := hid (Own.ext GO.out EK)
  replace EX := hid (Ext.trans EX.out EK)
  clear EK E0
  have V := hid (Own.base VF (B' := w11.heap.size) (by simp))
  have VI := hid (Own.block V.out)
  clear VF
  obtain ⟨A0, A1, A2, A3, Al⟩ := Box.cells4 A.out
  obtain ⟨SB0, SB1, SB2, SB3, SBl⟩ := Box.cells4 SB.out
  obtain ⟨XB0, XB1, XB2, XB3, XBl⟩ := Box.cells4 XB.out
  obtain ⟨GB0, GB1, GB2, GB3, GBl⟩ := Box.cells4 GB.out
  go_wp2_with fail
  refine (pinch_any _ _ _ _ _ _ x2 (z0.take n0) x1 R _ (own_hold V.out) hn HR.out).mono ?_
  rintro e w13 ⟨Hv, rfl, HT, E0⟩
  clear A0 A1 A2 A3 Al SB0 SB1 SB2 SB3 SBl XB0 XB1 XB2 XB3 XBl GB0 GB1 GB2 GB3 GBl
  have EK := E0
  have Z13 := hid (show w12.heap.size ≤ w13.heap.size from Ext.size E0)
  replace A := hid (Box.ext A.out EK)
  replace SB := hid (Box.ext SB.out EK)
  replace XB := hid (Box.ext XB.out EK)
  replace GB := hid (Box.ext GB.out EK)
  replace SO := hid (Own.ext SO.out EK)
  replace GO := hid (Own.ext GO.out EK)
  replace V := hid (Own.ext V.out EK)
  replace EX := hid (Ext.trans EX.out EK)
  clear EK E0
  obtain ⟨Ha, Hc, Hl, Ht, Hp, Hz, rfl, HF, He, Hel, Het, Hep⟩ := HT
  have HO := hid (Own.base HF (B' := w12.heap.size) (by simp))
  have HOI := hid (Own.block HO.out)
  clear HF
  replace He := hid He
  replace Hel := hid Hel
  replace Het := hid Het
  replace Hep := hid Hep
  clear V VI
  obtain ⟨A0, A1, A2, A3, Al⟩ := Box.cells4 A.out
  obtain ⟨SB0, SB1, SB2, SB3, SBl⟩ := Box.cells4 SB.out
  obtain ⟨XB0, XB1, XB2, XB3, XBl⟩ := Box.cells4 XB.out
  obtain ⟨GB0, GB1, GB2, GB3, GBl⟩ := Box.cells4 GB.out
  go_wp2_with fail
  refine (eqTube_yes _ _ _ _ _ _ _ _ _ _ _ Hz Sz _ (Holds.alloc (own_hold HO.out) _) (Holds.alloc (own_hold SO.out) _) hlen (by rw [He.out, Se.out]) (by rw [Hel.out, Sel.out]) (by rw [Het.out, Set.out]) (by rw [Hep.out, Sep.out])).mono ?_
  rintro e w14 ⟨rfl, E0⟩
  clear A0 A1 A2 A3 Al SB0 SB1 SB2 SB3 SBl XB0 XB1 XB2 XB3 XBl GB0 GB1 GB2 GB3 GBl
  have HB := hid (Box.ext (box_new (w := w13) #[.slice Ha R.cs.length Hc, .float .f32 Hl, .float .f32 Ht, .float .f32 Hp] 27) E0)
  have EK := Ext.trans (ext_alloc _ _) E0
  have Z14 := hid (show w13.heap.size + 1 ≤ w14.heap.size from by have := Ext.size E0; simpa using this)
  replace A := hid (Box.ext A.out EK)
  replace SB := hid (Box.ext SB.out EK)
  replace XB := hid (Box.ext XB.out EK)
  replace GB := hid (Box.ext GB.out EK)
  replace SO := hid (Own.ext SO.out EK)
  replace GO := hid (Own.ext GO.out EK)
  replace HO := hid (Own.ext HO.out EK)
  replace EX := hid (Ext.trans EX.out EK)
  clear EK E0
  obtain ⟨A0, A1, A2, A3, Al⟩ := Box.cells4 A.out
  obtain ⟨SB0, SB1, SB2, SB3, SBl⟩ := Box.cells4 SB.out
  obtain ⟨XB0, XB1, XB2, XB3, XBl⟩ := Box.cells4 XB.out
  obtain ⟨GB0, GB1, GB2, GB3, GBl⟩ := Box.cells4 GB.out
  obtain ⟨HB0, HB1, HB2, HB3, HBl⟩ := Box.cells4 HB.out
  go_wp2_with fail
  refine (heldTube_any _ _ _ 1 _ _ _ _ _ GO.out hlen (by omega)).mono ?_
  rintro e w15 ⟨rfl, E0⟩
  clear A0 A1 A2 A3 Al SB0 SB1 SB2 SB3 SBl XB0 XB1 XB2 XB3 XBl GB0 GB1 GB2 GB3 GBl HB0 HB1 HB2 HB3 HBl
  have EK := E0
  have Z15 := hid (show w14.heap.size ≤ w15.heap.size from Ext.size E0)
  replace A := hid (Box.ext A.out EK)
  replace SB := hid (Box.ext SB.out EK)
  replace XB := hid (Box.ext XB.out EK)
  replace GB := hid (Box.ext GB.out EK)
  replace HB := hid (Box.ext HB.out EK)
  replace SO := hid (Own.ext SO.out EK)
  replace GO := hid (Own.ext GO.out EK)
  replace HO := hid (Own.ext HO.out EK)
  replace EX := hid (Ext.trans EX.out EK)
  clear EK E0
  obtain ⟨A0, A1, A2, A3, Al⟩ := Box.cells4 A.out
  obtain ⟨SB0, SB1, SB2, SB3, SBl⟩ := Box.cells4 SB.out
  obtain ⟨XB0, XB1, XB2, XB3, XBl⟩ := Box.cells4 XB.out
  obtain ⟨GB0, GB1, GB2, GB3, GBl⟩ := Box.cells4 GB.out
  obtain ⟨HB0, HB1, HB2, HB3, HBl⟩ := Box.cells4 HB.out
  go_wp2
  go_ret
  exact ⟨rfl, EX.out⟩
end Go.Proofs.Ytogjehlepdapoab
