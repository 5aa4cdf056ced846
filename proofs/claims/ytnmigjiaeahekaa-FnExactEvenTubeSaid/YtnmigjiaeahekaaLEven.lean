/- The law on even tubes. -/
import Derived.Test.YtnmigjiaeahekaaT25
import Derived.Deep.RegionHeld3
namespace Go.Proofs.Ytnmigjiaeahekaa
open Go.RowKit Flt
set_option linter.unusedVariables false

set_option maxHeartbeats 4000000 in
set_option maxRecDepth 100000 in
theorem FnExactEvenTube_walk (x1 : Int) (x2 : Nat) (w : World) (wx1 : (Lit.int .i64 x1).wf = true) (wx2 : (Lit.float .f32 x2).wf = true) :
    Calls Try.prog 5 #[.int .i64 x1, .float .f32 x2] w fun e w' => e = .returned (.bool true) ∧ Below w.heap.size w w' := by
  have EX := hid (Ext.refl w)
  obtain ⟨R, hR⟩ : ∃ R, evenT x1 (cls .f32 x2) = R := ⟨_, rfl⟩
  have hlen : R.cs.length ≤ 1048576 := by
    rw [← hR]
    exact Nat.le_trans (even_len _ _) (by omega)
  have HR := hid hR
  clear hR
  have hk4 : ¬ (1 + (R.cs.length : Int) < 0) := by omega
  clear wx2
  go_enter Try.func5, Try.ntmps5
  go_wp2_with fail
  refine (sEven_any x1 x2 R _ HR.out).mono ?_
  rintro e w1 ⟨Sv, rfl, ST, E0⟩
  have EK := E0
  have Z1 := hid (show w.heap.size ≤ w1.heap.size from Ext.size E0)
  replace EX := hid (Ext.trans EX.out EK)
  clear EK E0
  obtain ⟨Sa, Sc, Sl, St, Sp, Sz, rfl, SF, Se, Sel, Set, Sep⟩ := ST
  have SO := hid (Own.base SF (B' := w.heap.size) (by simp))
  have SOI := hid (Own.block SO.out)
  clear SF
  replace Se := hid Se
  replace Sel := hid Sel
  replace Set := hid Set
  replace Sep := hid Sep
  go_wp2_with fail
  refine (even_any x1 x2 R _ HR.out).mono ?_
  rintro e w2 ⟨Gv, rfl, GT, E0⟩
  have SB := hid (Box.ext (box_new (w := w1) #[.slice Sa R.cs.length Sc, .float .f32 Sl, .float .f32 St, .float .f32 Sp] 27) E0)
  have EK := Ext.trans (ext_alloc _ _) E0
  have Z2 := hid (show w1.heap.size + 1 ≤ w2.heap.size from by have := Ext.size E0; simpa using this)
  replace SO := hid (Own.ext SO.out EK)
  replace EX := hid (Ext.trans EX.out EK)
  clear EK E0
  obtain ⟨Ga, Gc, Gl, Gt, Gp, Gz, rfl, GF, Ge, Gel, Get, Gep⟩ := GT
  have GO := hid (Own.base GF (B' := w1.heap.size + 1) (by simp))
  have GOI := hid (Own.block GO.out)
  clear GF
  replace Ge := hid Ge
  replace Gel := hid Gel
  replace Get := hid Get
  replace Gep := hid Gep
  obtain ⟨SB0, SB1, SB2, SB3, SBl⟩ := Box.cells4 SB.out
  go_wp2_with fail
  refine (eqTube_yes _ _ _ _ _ _ _ _ _ _ _ Gz Sz _ (Holds.alloc (own_hold GO.out) _) (Holds.alloc (own_hold SO.out) _) hlen (by rw [Ge.out, Se.out]) (by rw [Gel.out, Sel.out]) (by rw [Get.out, Set.out]) (by rw [Gep.out, Sep.out])).mono ?_
  rintro e w3 ⟨rfl, E0⟩
  clear SB0 SB1 SB2 SB3 SBl
  have GB := hid (Box.ext (box_new (w := w2) #[.slice Ga R.cs.length Gc, .float .f32 Gl, .float .f32 Gt, .float .f32 Gp] 27) E0)
  have EK := Ext.trans (ext_alloc _ _) E0
  have Z3 := hid (show w2.heap.size + 1 ≤ w3.heap.size from by have := Ext.size E0; simpa using this)
  replace SB := hid (Box.ext SB.out EK)
  replace SO := hid (Own.ext SO.out EK)
  replace GO := hid (Own.ext GO.out EK)
  replace EX := hid (Ext.trans EX.out EK)
  clear EK E0
  obtain ⟨SB0, SB1, SB2, SB3, SBl⟩ := Box.cells4 SB.out
  obtain ⟨GB0, GB1, GB2, GB3, GBl⟩ := Box.cells4 GB.out
  go_wp2_with fail
  refine (markTube_any _ R.cs.length _ 1 _ _ _ _ Gz _ GO.out hlen (by omega)).mono ?_
  rintro e w4 ⟨rfl, MO, MB⟩
  clear SB0 SB1 SB2 SB3 SBl GB0 GB1 GB2 GB3 GBl
  have Z4 := hid (show w3.heap.size ≤ w4.heap.size from MB.size)
  replace SB := hid (But.box MB SB.out (fun hk => by have h1 := GOI.out _ hk; have qZ1 := Z1.out; have qZ2 := Z2.out; have qZ3 := Z3.out; omega))
  replace GB := hid (But.box MB GB.out (fun hk => by have h1 := GOI.out _ hk; have qZ1 := Z1.out; have qZ2 := Z2.out; have qZ3 := Z3.out; omega))
  replace SO := hid (But.own MB SO.out (fun k hk hk2 => by have h1 := GOI.out _ hk2; have h2 := SOI.out _ hk; have qZ1 := Z1.out; have qZ2 := Z2.out; have qZ3 := Z3.out; omega))
  replace EX := hid (But.below MB EX.out (fun k hk => by have h1 := GOI.out _ hk; have qZ1 := Z1.out; have qZ2 := Z2.out; have qZ3 := Z3.out; omega))
  replace GO := hid MO
  clear MO MB
  obtain ⟨SB0, SB1, SB2, SB3, SBl⟩ := Box.cells4 SB.out
  obtain ⟨GB0, GB1, GB2, GB3, GBl⟩ := Box.cells4 GB.out
  go_wp2_with fail
  refine (heldTube_any _ _ _ 1 _ _ _ _ _ GO.out hlen (by omega)).mono ?_
  rintro e w5 ⟨rfl, E0⟩
  clear SB0 SB1 SB2 SB3 SBl GB0 GB1 GB2 GB3 GBl
  have EK := E0
  have Z5 := hid (show w4.heap.size ≤ w5.heap.size from Ext.size E0)
  replace SB := hid (Box.ext SB.out EK)
  replace GB := hid (Box.ext GB.out EK)
  replace SO := hid (Own.ext SO.out EK)
  replace GO := hid (Own.ext GO.out EK)
  replace EX := hid (Ext.trans EX.out EK)
  clear EK E0
  obtain ⟨SB0, SB1, SB2, SB3, SBl⟩ := Box.cells4 SB.out
  obtain ⟨GB0, GB1, GB2, GB3, GBl⟩ := Box.cells4 GB.out
  go_wp2_with fail
  refine (even_any x1 x2 R _ HR.out).mono ?_
  rintro e w6 ⟨Hv, rfl, HT, E0⟩
  clear SB0 SB1 SB2 SB3 SBl GB0 GB1 GB2 GB3 GBl
  have EK := E0
  have Z6 := hid (show w5.heap.size ≤ w6.heap.size from Ext.size E0)
  replace SB := hid (Box.ext SB.out EK)
  replace GB := hid (Box.ext GB.out EK)
  replace SO := hid (Own.ext SO.out EK)
  replace GO := hid (Own.ext GO.out EK)
  replace EX := hid (Ext.trans EX.out EK)
  clear EK E0
  obtain ⟨Ha, Hc, Hl, Ht, Hp, Hz, rfl, HF, He, Hel, Het, Hep⟩ := HT
  have HO := hid (Own.base HF (B' := w5.heap.size) (by simp))
  have HOI := hid (Own.block HO.out)
  clear HF
  replace He := hid He
  replace Hel := hid Hel
  replace Het := hid Het
  replace Hep := hid Hep
  obtain ⟨SB0, SB1, SB2, SB3, SBl⟩ := Box.cells4 SB.out
  obtain ⟨GB0, GB1, GB2, GB3, GBl⟩ := Box.cells4 GB.out
  go_wp2_with fail
  refine (eqTube_yes _ _ _ _ _ _ _ _ _ _ _ Hz Sz _ (Holds.alloc (own_hold HO.out) _) (Holds.alloc (own_hold SO.out) _) hlen (by rw [He.out, Se.out]) (by rw [Hel.out, Sel.out]) (by rw [Het.out, Set.out]) (by rw [Hep.out, Sep.out])).mono ?_
  rintro e w7 ⟨rfl, E0⟩
  clear SB0 SB1 SB2 SB3 SBl GB0 GB1 GB2 GB3 GBl
  have HB := hid (Box.ext (box_new (w := w6) #[.slice Ha R.cs.length Hc, .float .f32 Hl, .float .f32 Ht, .float .f32 Hp] 27) E0)
  have EK := Ext.trans (ext_alloc _ _) E0
  have Z7 := hid (show w6.heap.size + 1 ≤ w7.heap.size from by have := Ext.size E0; simpa using this)
  replace SB := hid (Box.ext SB.out EK)
  replace GB := hid (Box.ext GB.out EK)
  replace SO := hid (Own.ext SO.out EK)
  replace GO := hid (Own.ext GO.out EK)
  replace HO := hid (Own.ext HO.out EK)
  replace EX := hid (Ext.trans EX.out EK)
  clear EK E0
  obtain ⟨SB0, SB1, SB2, SB3, SBl⟩ := Box.cells4 SB.out
  obtain ⟨GB0, GB1, GB2, GB3, GBl⟩ := Box.cells4 GB.out
  obtain ⟨HB0, HB1, HB2, HB3, HBl⟩ := Box.cells4 HB.out
  go_wp2_with fail
  refine (heldTube_any _ _ _ 1 _ _ _ _ _ GO.out hlen (by omega)).mono ?_
  rintro e w8 ⟨rfl, E0⟩
  clear SB0 SB1 SB2 SB3 SBl GB0 GB1 GB2 GB3 GBl HB0 HB1 HB2 HB3 HBl
  have EK := E0
  have Z8 := hid (show w7.heap.size ≤ w8.heap.size from Ext.size E0)
  replace SB := hid (Box.ext SB.out EK)
  replace GB := hid (Box.ext GB.out EK)
  replace HB := hid (Box.ext HB.out EK)
  replace SO := hid (Own.ext SO.out EK)
  replace GO := hid (Own.ext GO.out EK)
  replace HO := hid (Own.ext HO.out EK)
  replace EX := hid (Ext.trans EX.out EK)
  clear EK E0
  obtain ⟨SB0, SB1, SB2, SB3, SBl⟩ := Box.cells4 SB.out
  obtain ⟨GB0, GB1, GB2, GB3, GBl⟩ := Box.cells4 GB.out
  obtain ⟨HB0, HB1, HB2, HB3, HBl⟩ := Box.cells4 HB.out
  go_wp2
  go_ret
  exact ⟨rfl, EX.out⟩
end Go.Proofs.Ytnmigjiaeahekaa
