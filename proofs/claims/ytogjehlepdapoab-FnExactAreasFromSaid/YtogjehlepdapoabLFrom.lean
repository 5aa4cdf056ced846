/- The law on areas out of reflections. -/
import Derived.Test.YtogjehlepdapoabT9
import Derived.Deep.RegionHeld3
namespace Go.Proofs.Ytogjehlepdapoab
open Go.RowKit Flt
set_option linter.unusedVariables false

theorem toList_any (a : Option Addr) (len cap : Nat) (zs : List Nat) (w : World) (h : IsRowF .f32 w a len cap zs) (hl : len ≤ 1048576) :
    Calls Try.prog 33 #[.slice a len cap] w fun e w' => ∃ b, e = .returned (.slice (some ⟨b, 0, none⟩) len len) ∧ Own w' w.heap.size len (.slice (some ⟨b, 0, none⟩) len len) (zs.take len) ∧ Ext w w' := by
  have hz := (holds_row h).1
  refine (toFloat32S_any _ _ _ zs _ h hl).mono ?_
  rintro e w' ⟨cs, rfl, hc, rfl⟩
  exact ⟨_, rfl, own_fresh hc hz rfl (Nat.le_refl _) (by unfold maxLen; omega), ext_alloc _ _⟩
theorem eqList_any (a1 a2 : Option Addr) (n c1 c2 : Nat) (xs ys : List Nat) (w : World) (h1 : Holds .f32 w a1 n xs) (h2 : Holds .f32 w a2 n ys) (hn : n ≤ 1048576) (he : xs.map (cls .f32) = ys.map (cls .f32)) :
    Calls Try.prog 29 #[.slice a1 n c1, .slice a2 n c2] w fun e w' => e = .returned (.bool true) ∧ Ext w w' := by
  refine (eqFloat32S_yes _ _ _ _ _ xs ys _ h1 h2 hn (fun i _ => map_cls_get he i)).mono ?_
  rintro e w' ⟨rfl, m, rfl⟩
  exact ⟨rfl, Ext.drewN (Ext.refl _) _⟩
set_option maxHeartbeats 4000000 in
set_option maxRecDepth 100000 in
theorem FnExactAreasFrom_walk (a0 : Option Addr) (n0 c0 : Nat) (z0 : List Nat) (x1 : Nat) (w : World) (w0 : IsRowF .f32 w a0 n0 c0 z0) (wx1 : (Lit.float .f32 x1).wf = true) :
    Calls Try.prog 7 #[.slice a0 n0 c0, .float .f32 x1] w fun e w' => e = .returned (.bool true) ∧ Below w.heap.size w w' := by
  by_cases hbig : 1048576 < n0
  · go_enter Try.func7, Try.ntmps7
    go_wp2
    go_ret
    exact ⟨rfl, Below.refl _ _⟩
  have hn : n0 ≤ 1048576 := by omega
  have hk3 : ¬ (1 + (n0 : Int) < 0) := by omega
  have AR := hid w0
  have HZ := hid (holds_row w0).1
  have EX := hid (Ext.refl w)
  obtain ⟨R, O, hR⟩ : ∃ R O, fromR (cls .f32 x1) ((z0.take n0).map (cls .f32)) = (R, O) := ⟨_, _, rfl⟩
  have hlen : R.length ≤ 1048576 := by
    have h9 := from_len (cls .f32 x1) ((z0.take n0).map (cls .f32))
    rw [hR] at h9
    exact Nat.le_trans h9 (by omega)
  have HR := hid hR
  clear hR
  have hk4 : ¬ (1 + (R.length : Int) < 0) := by omega
  clear w0 hbig wx1
  go_enter Try.func7, Try.ntmps7
  go_wp2_with fail
  refine (toList_any _ _ _ z0 _ (IsRowF.ext AR.out EX.out) hn).mono ?_
  rintro e w1 ⟨Yb, rfl, YF, E0⟩
  have Z1 := hid (show w.heap.size ≤ w1.heap.size from Ext.size E0)
  replace EX := hid (Ext.trans EX.out E0)
  clear E0
  have Y := hid (Own.base YF (B' := w.heap.size) (by simp))
  have YI := hid (Own.block Y.out)
  clear YF
  go_wp2_with fail
  refine (sAreasFrom_any _ _ _ x1 (z0.take n0) R O _ (own_hold Y.out) hn HR.out).mono ?_
  rintro e w2 ⟨Sv, rfl, SL, E0⟩
  have Z2 := hid (show w1.heap.size ≤ w2.heap.size from Ext.size E0)
  replace Y := hid (Own.ext Y.out E0)
  replace EX := hid (Ext.trans EX.out E0)
  clear E0
  obtain ⟨Sa, Sc, Sz, rfl, SF, Se⟩ := SL
  have SO := hid (Own.base SF (B' := w1.heap.size) (by simp))
  have SOI := hid (Own.block SO.out)
  clear SF
  replace Se := hid Se
  clear Y YI
  go_wp2_with fail
  refine (toList_any _ _ _ z0 _ (IsRowF.ext AR.out EX.out) hn).mono ?_
  rintro e w3 ⟨Xb, rfl, XF, E0⟩
  have Z3 := hid (show w2.heap.size ≤ w3.heap.size from Ext.size E0)
  replace SO := hid (Own.ext SO.out E0)
  replace EX := hid (Ext.trans EX.out E0)
  clear E0
  have X := hid (Own.base XF (B' := w2.heap.size) (by simp))
  have XI := hid (Own.block X.out)
  clear XF
  go_wp2_with fail
  refine (areasFrom_any _ _ _ x1 (z0.take n0) R O _ (own_hold X.out) hn HR.out).mono ?_
  rintro e w4 ⟨Gv, rfl, GL, E0⟩
  have Z4 := hid (show w3.heap.size ≤ w4.heap.size from Ext.size E0)
  replace SO := hid (Own.ext SO.out E0)
  replace X := hid (Own.ext X.out E0)
  replace EX := hid (Ext.trans EX.out E0)
  clear E0
  obtain ⟨Ga, Gc, Gz, rfl, GF, Ge⟩ := GL
  have GO := hid (Own.base GF (B' := w3.heap.size) (by simp))
  have GOI := hid (Own.block GO.out)
  clear GF
  replace Ge := hid Ge
  go_wp2_with fail
  refine (eqList_any _ _ _ _ _ Gz Sz _ (own_hold GO.out) (own_hold SO.out) hlen (by rw [Ge.out, Se.out])).mono ?_
  rintro e w5 ⟨rfl, E0⟩
  have Z5 := hid (show w4.heap.size ≤ w5.heap.size from Ext.size E0)
  replace SO := hid (Own.ext SO.out E0)
  replace X := hid (Own.ext X.out E0)
  replace GO := hid (Own.ext GO.out E0)
  replace EX := hid (Ext.trans EX.out E0)
  clear E0
  go_wp2_with fail
  refine (toList_any _ _ _ z0 _ (IsRowF.ext AR.out EX.out) hn).mono ?_
  rintro e w6 ⟨Vb, rfl, VF, E0⟩
  have Z6 := hid (show w5.heap.size ≤ w6.heap.size from Ext.size E0)
  replace SO := hid (Own.ext SO.out E0)
  replace X := hid (Own.ext X.out E0)
  replace GO := hid (Own.ext GO.out E0)
  replace EX := hid (Ext.trans EX.out E0)
  clear E0
  have V := hid (Own.base VF (B' := w5.heap.size) (by simp))
  have VI := hid (Own.block V.out)
  clear VF
  go_wp2_with fail
  refine (eqList_any _ _ _ _ _ _ _ _ (own_hold X.out) (own_hold V.out) hn rfl).mono ?_
  rintro e w7 ⟨rfl, E0⟩
  have Z7 := hid (show w6.heap.size ≤ w7.heap.size from Ext.size E0)
  replace SO := hid (Own.ext SO.out E0)
  replace X := hid (Own.ext X.out E0)
  replace GO := hid (Own.ext GO.out E0)
  replace V := hid (Own.ext V.out E0)
  replace EX := hid (Ext.trans EX.out E0)
  clear E0
  clear V VI
  go_wp2_with fail
  refine (markF_any _ n0 _ 1 _ (z0.take n0) _ X.out hn (by omega)).mono ?_
  rintro e w8 ⟨rfl, MO, MB⟩
  have Z8 := hid (show w7.heap.size ≤ w8.heap.size from MB.size)
  replace SO := hid (But.own MB SO.out (fun k hk hk2 => by have h1 := XI.out _ hk2; have h2 := SOI.out _ hk; have qZ1 := Z1.out; have qZ2 := Z2.out; have qZ3 := Z3.out; have qZ4 := Z4.out; have qZ5 := Z5.out; have qZ6 := Z6.out; have qZ7 := Z7.out; omega))
  replace GO := hid (But.own MB GO.out (fun k hk hk2 => by have h1 := XI.out _ hk2; have h2 := GOI.out _ hk; have qZ1 := Z1.out; have qZ2 := Z2.out; have qZ3 := Z3.out; have qZ4 := Z4.out; have qZ5 := Z5.out; have qZ6 := Z6.out; have qZ7 := Z7.out; omega))
  replace EX := hid (But.below MB EX.out (fun k hk => by have h1 := XI.out _ hk; have qZ1 := Z1.out; have qZ2 := Z2.out; have qZ3 := Z3.out; have qZ4 := Z4.out; have qZ5 := Z5.out; have qZ6 := Z6.out; have qZ7 := Z7.out; omega))
  replace X := hid MO
  clear MO MB
  clear X XI
  go_wp2_with fail
  refine (eqList_any _ _ _ _ _ Gz Sz _ (own_hold GO.out) (own_hold SO.out) hlen (by rw [Ge.out, Se.out])).mono ?_
  rintro e w9 ⟨rfl, E0⟩
  have Z9 := hid (show w8.heap.size ≤ w9.heap.size from Ext.size E0)
  replace SO := hid (Own.ext SO.out E0)
  replace GO := hid (Own.ext GO.out E0)
  replace EX := hid (Ext.trans EX.out E0)
  clear E0
  go_wp2_with fail
  refine (markF_any _ R.length _ 1 _ Gz _ GO.out hlen (by omega)).mono ?_
  rintro e w10 ⟨rfl, MO, MB⟩
  have Z10 := hid (show w9.heap.size ≤ w10.heap.size from MB.size)
  replace SO := hid (But.own MB SO.out (fun k hk hk2 => by have h1 := GOI.out _ hk2; have h2 := SOI.out _ hk; have qZ1 := Z1.out; have qZ2 := Z2.out; have qZ3 := Z3.out; have qZ4 := Z4.out; have qZ5 := Z5.out; have qZ6 := Z6.out; have qZ7 := Z7.out; have qZ8 := Z8.out; have qZ9 := Z9.out; omega))
  replace EX := hid (But.below MB EX.out (fun k hk => by have h1 := GOI.out _ hk; have qZ1 := Z1.out; have qZ2 := Z2.out; have qZ3 := Z3.out; have qZ4 := Z4.out; have qZ5 := Z5.out; have qZ6 := Z6.out; have qZ7 := Z7.out; have qZ8 := Z8.out; have qZ9 := Z9.out; omega))
  replace GO := hid MO
  clear MO MB
  go_wp2_with fail
  refine (heldF_any _ _ _ 1 _ _ GO.out hlen (by omega)).mono ?_
  rintro e w' ⟨rfl, rfl⟩
  go_wp2_with fail
  refine (toList_any _ _ _ z0 _ (IsRowF.ext AR.out EX.out) hn).mono ?_
  rintro e w11 ⟨Vb, rfl, VF, E0⟩
  have Z11 := hid (show w10.heap.size ≤ w11.heap.size from Ext.size E0)
  replace SO := hid (Own.ext SO.out E0)
  replace GO := hid (Own.ext GO.out E0)
  replace EX := hid (Ext.trans EX.out E0)
  clear E0
  have V := hid (Own.base VF (B' := w10.heap.size) (by simp))
  have VI := hid (Own.block V.out)
  clear VF
  go_wp2_with fail
  refine (areasFrom_any _ _ _ x1 (z0.take n0) R O _ (own_hold V.out) hn HR.out).mono ?_
  rintro e w12 ⟨Hv, rfl, HL, E0⟩
  have Z12 := hid (show w11.heap.size ≤ w12.heap.size from Ext.size E0)
  replace SO := hid (Own.ext SO.out E0)
  replace GO := hid (Own.ext GO.out E0)
  replace V := hid (Own.ext V.out E0)
  replace EX := hid (Ext.trans EX.out E0)
  clear E0
  obtain ⟨Ha, Hc, Hz, rfl, HF, He⟩ := HL
  have HO := hid (Own.base HF (B' := w11.heap.size) (by simp))
  have HOI := hid (Own.block HO.out)
  clear HF
  replace He := hid He
  clear V VI
  go_wp2_with fail
  refine (eqList_any _ _ _ _ _ Hz Sz _ (own_hold HO.out) (own_hold SO.out) hlen (by rw [He.out, Se.out])).mono ?_
  rintro e w13 ⟨rfl, E0⟩
  have Z13 := hid (show w12.heap.size ≤ w13.heap.size from Ext.size E0)
  replace SO := hid (Own.ext SO.out E0)
  replace GO := hid (Own.ext GO.out E0)
  replace HO := hid (Own.ext HO.out E0)
  replace EX := hid (Ext.trans EX.out E0)
  clear E0
  go_wp2_with fail
  refine (heldF_any _ _ _ 1 _ _ GO.out hlen (by omega)).mono ?_
  rintro e w' ⟨rfl, rfl⟩
  go_wp2
  go_ret
  exact ⟨rfl, EX.out⟩
end Go.Proofs.Ytogjehlepdapoab
