/- The law on tunes with one accent more. -/
import Derived.Test.YthinjgiakaflpabAAdd
import Derived.Test.YthinjgiakaflpabV4
import Derived.Test.YthinjgiakaflpabT18
import Derived.Deep.RegionHeld3
import Derived.Deep.DeepCutAuto
namespace Go.Proofs.Ythinjgiakaflpab
open Go.RowKit Flt
set_option linter.unusedVariables false

theorem ownA_far4 {w : World} {B n b : Nat} {v : Value} {zs : List Nat} (h : OwnA w B n v zs) (hb : b < B) (u0 u1 u2 u3 : Value) : OwnA ((((w.setCell ⟨b, 0, none⟩ u0).setCell ⟨b, 1, none⟩ u1).setCell ⟨b, 2, none⟩ u2).setCell ⟨b, 3, none⟩ u3) B n v zs := OwnA.far (OwnA.far (OwnA.far (OwnA.far h hb _ _) hb _ _) hb _ _) hb _ _
set_option maxHeartbeats 8000000 in
set_option maxRecDepth 100000 in
theorem FnExactAddAccent_walk (tb0 tf0 tr0 : Nat) (a0 : Option Addr) (n0 c0 : Nat) (z0 : List Nat) (aa1 as1 ad1 : Nat) (w : World) (wtb0 : (Lit.float .f32 tb0).wf = true) (wtf0 : (Lit.float .f32 tf0).wf = true) (wtr0 : (Lit.float .f32 tr0).wf = true) (w0 : IsRowA w a0 n0 c0 z0) (waa1 : (Lit.float .f32 aa1).wf = true) (was1 : (Lit.float .f32 as1).wf = true) (wad1 : (Lit.float .f32 ad1).wf = true) :
    Calls Try.prog 3 #[.agg #[.float .f32 tb0, .float .f32 tf0, .float .f32 tr0, .slice a0 n0 c0], .agg #[.float .f32 aa1, .float .f32 as1, .float .f32 ad1]] w fun e w' => e = .returned (.bool true) ∧ Below w.heap.size w w' := by
  have hmx0 : n0 ≤ maxLen := rowA_max w0
  by_cases hgn0 : (1048576 : Int) < (n0 : Int)
  · clear wtb0 wtf0 wtr0 waa1 was1 wad1 w0
    go_enter Try.func3, Try.ntmps3
    go_wp2_with fail
    obtain ⟨w0, hw0⟩ : ∃ u, u = ((w.alloc (.cells #[.float .f32 tb0, .float .f32 tf0, .float .f32 tr0, .slice a0 n0 c0] 25)).alloc (.cells #[.float .f32 aa1, .float .f32 as1, .float .f32 ad1] 27)) := ⟨_, rfl⟩
    rw [← hw0]
    have EX0 := hid (show Ext w w0 from by rw [hw0]; (repeat with_reducible (first | exact Ext.refl _ | exact ext_alloc _ _ | refine Ext.drewN ?_ _ | refine Ext.drew1 ?_ | refine Ext.set ?_ (by dsimp only; omega) _ | refine Ext.alloc ?_ _)))
    have A0 : Hid (Box w0 (w.heap.size) #[.float .f32 tb0, .float .f32 tf0, .float .f32 tr0, .slice a0 n0 c0]) := by rw [hw0]; exact hid (Box.cast' (Box.alloc (box_new (w := w) #[.float .f32 tb0, .float .f32 tf0, .float .f32 tr0, .slice a0 n0 c0] 25) _) (by simp))
    have A1 : Hid (Box w0 (w.heap.size + 1) #[.float .f32 aa1, .float .f32 as1, .float .f32 ad1]) := by rw [hw0]; exact hid (Box.cast' (box_new (w := (w.alloc (.cells #[.float .f32 tb0, .float .f32 tf0, .float .f32 tr0, .slice a0 n0 c0] 25))) #[.float .f32 aa1, .float .f32 as1, .float .f32 ad1] 27) (by simp))
    clear hw0
    refine (szTune_no _ _ _ _ _ _ _ hmx0 (by omega) (by omega) _).mono ?_
    rintro e u0 ⟨rfl, E0⟩
    go_wp2
    go_ret
    refine ⟨rfl, ?_⟩
    exact (show Ext w _ from Ext.trans EX0.out (Ext.trans E0 (by (repeat with_reducible (first | exact Ext.refl _ | exact ext_alloc _ _ | refine Ext.drewN ?_ _ | refine Ext.drew1 ?_ | refine Ext.set ?_ (by dsimp only; omega) _ | refine Ext.alloc ?_ _)))))
  have hs0 : ¬ ((1048576 : Int) - (n0 : Int) < 0) := by omega
  have hn0 : n0 ≤ 1048576 := by omega
  have Rw0 := hid w0
  have RA0 := hid (holdsA_row w0)
  obtain ⟨R, hR⟩ : ∃ R, addU (cls .f32 tb0) (cls .f32 tf0) (cls .f32 tr0) (z0.take (n0 * 3)) n0 aa1 as1 ad1 = R := ⟨_, rfl⟩
  have hL0 : R.n ≤ 1048576 := by have := addU_len (cls .f32 tb0) (cls .f32 tf0) (cls .f32 tr0) (z0.take (n0 * 3)) n0 aa1 as1 ad1; rw [hR] at this; first | omega | (simp at this; omega)
  have HR := hid hR
  clear hR
  have hr0 : ¬ (1 + 3 * (R.n : Int) < 0) := by omega
  clear wtb0 wtf0 wtr0 waa1 was1 wad1 w0 hmx0 hgn0
  go_enter Try.func3, Try.ntmps3
  go_wp2_with fail
  obtain ⟨w0, hw0⟩ : ∃ u, u = ((w.alloc (.cells #[.float .f32 tb0, .float .f32 tf0, .float .f32 tr0, .slice a0 n0 c0] 25)).alloc (.cells #[.float .f32 aa1, .float .f32 as1, .float .f32 ad1] 27)) := ⟨_, rfl⟩
  rw [← hw0]
  have EX := hid (show Ext w w0 from by rw [hw0]; (repeat with_reducible (first | exact Ext.refl _ | exact ext_alloc _ _ | refine Ext.drewN ?_ _ | refine Ext.drew1 ?_ | refine Ext.set ?_ (by dsimp only; omega) _ | refine Ext.alloc ?_ _)))
  have A0 : Hid (Box w0 (w.heap.size) #[.float .f32 tb0, .float .f32 tf0, .float .f32 tr0, .slice a0 n0 c0]) := by rw [hw0]; exact hid (Box.cast' (Box.alloc (box_new (w := w) #[.float .f32 tb0, .float .f32 tf0, .float .f32 tr0, .slice a0 n0 c0] 25) _) (by simp))
  have A1 : Hid (Box w0 (w.heap.size + 1) #[.float .f32 aa1, .float .f32 as1, .float .f32 ad1]) := by rw [hw0]; exact hid (Box.cast' (box_new (w := (w.alloc (.cells #[.float .f32 tb0, .float .f32 tf0, .float .f32 tr0, .slice a0 n0 c0] 25))) #[.float .f32 aa1, .float .f32 as1, .float .f32 ad1] 27) (by simp))
  have Z0 := hid (show w.heap.size + 2 ≤ w0.heap.size from by rw [hw0]; simp)
  clear hw0
  refine (szTune_yes _ _ _ _ _ _ _ (by omega) (by omega) _).mono ?_
  rintro e w1 ⟨rfl, E0⟩
  have EK : Ext w0 w1 := Ext.trans (by (repeat with_reducible (first | exact Ext.refl _ | exact ext_alloc _ _ | refine Ext.drewN ?_ _ | refine Ext.drew1 ?_ | refine Ext.set ?_ (by dsimp only; omega) _ | refine Ext.alloc ?_ _))) E0
  have Z1 := hid (show w0.heap.size ≤ w1.heap.size from Ext.size EK)
  replace A0 := hid (Box.ext A0.out EK)
  replace A1 := hid (Box.ext A1.out EK)
  replace EX := hid (Ext.trans EX.out EK)
  clear EK E0
  obtain ⟨A00, A01, A02, A03, A0l⟩ := Box.cells4 A0.out
  obtain ⟨A10, A11, A12, A1l⟩ := Box.cells3 A1.out
  go_upto_region 5 with (fail)
  clear A00 A01 A02 A03 A0l A10 A11 A12 A1l
  obtain ⟨A00, A01, A02, A03, A0l⟩ := Box.cells4 A0.out
  obtain ⟨A10, A11, A12, A1l⟩ := Box.cells3 A1.out
  go_cut [6, 7] (fun s6 s7 wx => ∃ (S0k S0b S0f S0r : Nat) (S0a : Option Addr) (S0c : Nat), s6 = .pointer (some ⟨S0k, 0, none⟩) ∧ s7 = .bool R.ok ∧ Hid (Box wx S0k #[.float .f32 S0b, .float .f32 S0f, .float .f32 S0r, .slice S0a R.n S0c]) ∧ Hid (w1.heap.size ≤ S0k) ∧ Hid (OwnA wx w1.heap.size R.n (.slice S0a R.n S0c) R.ys) ∧ Hid (∀ k, (Value.slice S0a R.n S0c).ownBlock = some k → k ≠ S0k) ∧ Hid (cls .f32 S0b = R.b) ∧ Hid (cls .f32 S0f = R.f) ∧ Hid (cls .f32 S0r = R.r) ∧ Ext w1 wx)
  case first =>
    go_region_held3 (fun w' => (w'.cell? ⟨w.heap.size, 0, none⟩ = some (.float .f32 tb0) ∧ w'.cell? ⟨w.heap.size, 1, none⟩ = some (.float .f32 tf0) ∧ w'.cell? ⟨w.heap.size, 2, none⟩ = some (.float .f32 tr0) ∧ w'.cell? ⟨w.heap.size, 3, none⟩ = some (.slice a0 n0 c0)) ∧ (w'.cell? ⟨w.heap.size + 1, 0, none⟩ = some (.float .f32 aa1) ∧ w'.cell? ⟨w.heap.size + 1, 1, none⟩ = some (.float .f32 as1) ∧ w'.cell? ⟨w.heap.size + 1, 2, none⟩ = some (.float .f32 ad1)))
      (first | (refine keep_of (c := w1) (S := fun w' => (w'.cell? ⟨w.heap.size, 0, none⟩ = some (.float .f32 tb0) ∧ w'.cell? ⟨w.heap.size, 1, none⟩ = some (.float .f32 tf0) ∧ w'.cell? ⟨w.heap.size, 2, none⟩ = some (.float .f32 tr0) ∧ w'.cell? ⟨w.heap.size, 3, none⟩ = some (.slice a0 n0 c0)) ∧ (w'.cell? ⟨w.heap.size + 1, 0, none⟩ = some (.float .f32 aa1) ∧ w'.cell? ⟨w.heap.size + 1, 1, none⟩ = some (.float .f32 as1) ∧ w'.cell? ⟨w.heap.size + 1, 2, none⟩ = some (.float .f32 ad1))) (fun u hu => ⟨⟨Box.cell (Box.ext A0.out hu) 0, Box.cell (Box.ext A0.out hu) 1, Box.cell (Box.ext A0.out hu) 2, Box.cell (Box.ext A0.out hu) 3⟩, ⟨Box.cell (Box.ext A1.out hu) 0, Box.cell (Box.ext A1.out hu) 1, Box.cell (Box.ext A1.out hu) 2⟩⟩) ?_; ((repeat with_reducible (first | exact Ext.refl _ | exact ext_alloc _ _ | refine Ext.trans ?_ EC | refine Ext.trans ?_ ED0 | refine Ext.trans ?_ ED1 | refine Ext.drewN ?_ _ | refine Ext.drew1 ?_ | refine Ext.alloc ?_ _ | refine Ext.set ?_ ?_ _)); all_goals ((have s0 := Ext.size ED0; have s1 := Ext.size ED1; have sC := Ext.size EC; (try simp at s0); (try simp at s1); (try simp at sC); (first | omega | (simp; omega) | (simp; done)))))))
      (first | (go_at_call 17; with_reducible refine (toTune_any tb0 tf0 tr0 a0 n0 c0 (z0.take (n0 * 3)) _ (HoldsA.ext RA0.out (Ext.trans EX.out (by (repeat with_reducible (first | exact Ext.refl _ | exact ext_alloc _ _ | refine Ext.trans ?_ EC | refine Ext.trans ?_ ED0 | refine Ext.trans ?_ ED1 | refine Ext.drewN ?_ _ | refine Ext.drew1 ?_ | refine Ext.alloc ?_ _))))) hn0).mono ?_; rintro e wD0 ⟨Y0b, rfl, Y0F, ED0⟩) | (go_at_call 18; with_reducible refine (toAccent_any (aa1) (as1) (ad1) _).mono ?_; rintro e wD1 ⟨rfl, ED1⟩) | (go_at_call 16; refine (sAdd_any _ _ _ _ _ _ _ n0 _ (z0.take (n0 * 3)) R _ (HoldsA.ext (ownA_hold Y0F) (by (repeat with_reducible (first | exact Ext.refl _ | exact ext_alloc _ _ | refine Ext.trans ?_ EC | refine Ext.trans ?_ ED0 | refine Ext.trans ?_ ED1 | refine Ext.drewN ?_ _ | refine Ext.drew1 ?_ | refine Ext.alloc ?_ _)))) hn0 HR.out).mono ?_; rintro e wC ⟨Sv0, rfl, ST0, EC⟩; obtain ⟨S0b, S0f, S0r, S0a, S0c, rfl, S0F, S0eb, S0ef, S0er⟩ := ST0; try (apply with_box (w' := wC) (vs := #[.float .f32 0, .float .f32 0, .float .f32 0, .slice none 0 0]) (t := 31); (· (repeat with_reducible (first | exact Ext.refl _ | exact ext_alloc _ _ | refine Ext.trans ?_ EC | refine Ext.trans ?_ ED0 | refine Ext.trans ?_ ED1 | refine Ext.drewN ?_ _ | refine Ext.drew1 ?_ | refine Ext.alloc ?_ _))); intro BN; obtain ⟨bn0, bn1, bn2, bn3, bf0, bf1, bf2, bf3, bnl⟩ := Box.all4 BN)))
    all_goals
      go_wp2_with fail
      go_meet
      refine ⟨_, S0b, S0f, S0r, S0a, S0c, rfl, rfl, ?_, ?_, ?_, ?_, ?_, ?_, ?_, ?_⟩
      · first | with_reducible exact hid (box_new _ _) | exact hid (box_set4 BN _ _ _ _)
      · refine hid ?_
        ((have s0 := Ext.size ED0; have s1 := Ext.size ED1; have sC := Ext.size EC; (try simp at s0); (try simp at s1); (try simp at sC); (first | omega | (simp; omega) | (simp; done))))
      · refine hid ?_
        first | (with_reducible refine OwnA.base (OwnA.ext S0F (ext_alloc _ _)) ?_; ((have s0 := Ext.size ED0; have s1 := Ext.size ED1; have sC := Ext.size EC; (try simp at s0); (try simp at s1); (try simp at sC); (first | omega | (simp; omega) | (simp; done))))) | (refine OwnA.base (ownA_far4 S0F ?_ _ _ _ _) ?_; all_goals ((have s0 := Ext.size ED0; have s1 := Ext.size ED1; have sC := Ext.size EC; (try simp at s0); (try simp at s1); (try simp at sC); (first | omega | (simp; omega) | (simp; done)))))
      · refine hid (fun k hk hk2 => ?_)
        have hB := OwnA.block S0F k hk
        have hB1 := hB.1
        have hB2 := hB.2
        subst hk2
        first | omega | (exfalso; revert hB2; simp; done) | ((try simp at hB1); ((have s0 := Ext.size ED0; have s1 := Ext.size ED1; have sC := Ext.size EC; (try simp at s0); (try simp at s1); (try simp at sC); (first | omega | (simp; omega) | (simp; done)))))
      · exact hid S0eb
      · exact hid S0ef
      · exact hid S0er
      · ((repeat with_reducible (first | exact Ext.refl _ | exact ext_alloc _ _ | refine Ext.trans ?_ EC | refine Ext.trans ?_ ED0 | refine Ext.trans ?_ ED1 | refine Ext.drewN ?_ _ | refine Ext.drew1 ?_ | refine Ext.alloc ?_ _ | refine Ext.set ?_ ?_ _)); all_goals ((have s0 := Ext.size ED0; have s1 := Ext.size ED1; have sC := Ext.size EC; (try simp at s0); (try simp at s1); (try simp at sC); (first | omega | (simp; omega) | (simp; done)))))
  obtain ⟨S0k, S0b, S0f, S0r, S0a, S0c, rfl, rfl, S0B, S0K, S0F_, S0D, S0eb, S0ef, S0er, EC⟩ := hcut
  obtain ⟨w2, hwS⟩ : ∃ u, u = wc := ⟨_, rfl⟩
  subst hwS
  clear A00 A01 A02 A03 A0l A10 A11 A12 A1l
  have Z2 := hid (show w1.heap.size ≤ w2.heap.size from Ext.size EC)
  replace A0 := hid (Box.ext A0.out EC)
  replace A1 := hid (Box.ext A1.out EC)
  replace EX := hid (Ext.trans EX.out EC)
  clear EC
  have S0K2 := hid (show S0k < w2.heap.size from Box.lt S0B.out)
  have S0F_I := hid (OwnA.block S0F_.out)
  obtain ⟨A00, A01, A02, A03, A0l⟩ := Box.cells4 A0.out
  obtain ⟨A10, A11, A12, A1l⟩ := Box.cells3 A1.out
  obtain ⟨S0B0, S0B1, S0B2, S0B3, S0Bl⟩ := Box.cells4 S0B.out
  go_wp2_with fail
  refine (toTune_any _ _ _ _ _ _ (z0.take (n0 * 3)) _ (HoldsA.ext RA0.out (Ext.trans EX.out (by (repeat with_reducible (first | exact Ext.refl _ | exact ext_alloc _ _ | refine Ext.drewN ?_ _ | refine Ext.drew1 ?_ | refine Ext.set ?_ (by dsimp only; omega) _ | refine Ext.alloc ?_ _))))) hn0).mono ?_
  rintro e w3 ⟨X0b, rfl, X0F, E0⟩
  clear A00 A01 A02 A03 A0l A10 A11 A12 A1l S0B0 S0B1 S0B2 S0B3 S0Bl
  have EK : Ext w2 w3 := Ext.trans (by (repeat with_reducible (first | exact Ext.refl _ | exact ext_alloc _ _ | refine Ext.drewN ?_ _ | refine Ext.drew1 ?_ | refine Ext.set ?_ (by dsimp only; omega) _ | refine Ext.alloc ?_ _))) E0
  have Z3 := hid (show w2.heap.size ≤ w3.heap.size from Ext.size EK)
  replace A0 := hid (Box.ext A0.out EK)
  replace A1 := hid (Box.ext A1.out EK)
  replace S0B := hid (Box.ext S0B.out EK)
  replace S0F_ := hid (OwnA.ext S0F_.out EK)
  replace EX := hid (Ext.trans EX.out EK)
  clear EK E0
  have X0F_ := hid (OwnA.base X0F (B' := w2.heap.size) (by first | exact Nat.le_refl _ | (simp; done) | (simp; omega)))
  have X0F_I := hid (OwnA.block X0F_.out)
  clear X0F
  obtain ⟨A00, A01, A02, A03, A0l⟩ := Box.cells4 A0.out
  obtain ⟨A10, A11, A12, A1l⟩ := Box.cells3 A1.out
  obtain ⟨S0B0, S0B1, S0B2, S0B3, S0Bl⟩ := Box.cells4 S0B.out
  go_upto_region 7 with (fail)
  clear A00 A01 A02 A03 A0l A10 A11 A12 A1l S0B0 S0B1 S0B2 S0B3 S0Bl
  obtain ⟨w4, hK9⟩ : ∃ u, u = w3.alloc (.cells #[.float .f32 tb0, .float .f32 tf0, .float .f32 tr0, .slice (some ⟨X0b, 0, none⟩) n0 n0] 31) := ⟨_, rfl⟩
  rw [← hK9]
  have EK : Ext w3 w4 := by rw [hK9]; exact ext_alloc _ _
  have X0B := hid (show Box w4 w3.heap.size #[.float .f32 tb0, .float .f32 tf0, .float .f32 tr0, .slice (some ⟨X0b, 0, none⟩) n0 n0] from by rw [hK9]; exact box_new (w := w3) #[.float .f32 tb0, .float .f32 tf0, .float .f32 tr0, .slice (some ⟨X0b, 0, none⟩) n0 n0] 31)
  have Z4 := hid (show w3.heap.size + 1 ≤ w4.heap.size from by rw [hK9]; simp)
  clear hK9
  replace A0 := hid (Box.ext A0.out EK)
  replace A1 := hid (Box.ext A1.out EK)
  replace S0B := hid (Box.ext S0B.out EK)
  replace S0F_ := hid (OwnA.ext S0F_.out EK)
  replace X0F_ := hid (OwnA.ext X0F_.out EK)
  replace EX := hid (Ext.trans EX.out EK)
  clear EK
  obtain ⟨A00, A01, A02, A03, A0l⟩ := Box.cells4 A0.out
  obtain ⟨A10, A11, A12, A1l⟩ := Box.cells3 A1.out
  obtain ⟨S0B0, S0B1, S0B2, S0B3, S0Bl⟩ := Box.cells4 S0B.out
  obtain ⟨X0B0, X0B1, X0B2, X0B3, X0Bl⟩ := Box.cells4 X0B.out
  go_cut [9, 10] (fun s9 s10 wx => ∃ (G0k G0b G0f G0r : Nat) (G0a : Option Addr) (G0c : Nat), s9 = .pointer (some ⟨G0k, 0, none⟩) ∧ s10 = .bool R.ok ∧ Hid (Box wx G0k #[.float .f32 G0b, .float .f32 G0f, .float .f32 G0r, .slice G0a R.n G0c]) ∧ Hid (w4.heap.size ≤ G0k) ∧ Hid (OwnA wx w4.heap.size R.n (.slice G0a R.n G0c) R.ys) ∧ Hid (∀ k, (Value.slice G0a R.n G0c).ownBlock = some k → k ≠ G0k) ∧ Hid (cls .f32 G0b = R.b) ∧ Hid (cls .f32 G0f = R.f) ∧ Hid (cls .f32 G0r = R.r) ∧ Ext w4 wx)
  case first =>
    go_region_held3 (fun w' => (w'.cell? ⟨w.heap.size, 0, none⟩ = some (.float .f32 tb0) ∧ w'.cell? ⟨w.heap.size, 1, none⟩ = some (.float .f32 tf0) ∧ w'.cell? ⟨w.heap.size, 2, none⟩ = some (.float .f32 tr0) ∧ w'.cell? ⟨w.heap.size, 3, none⟩ = some (.slice a0 n0 c0)) ∧ (w'.cell? ⟨w.heap.size + 1, 0, none⟩ = some (.float .f32 aa1) ∧ w'.cell? ⟨w.heap.size + 1, 1, none⟩ = some (.float .f32 as1) ∧ w'.cell? ⟨w.heap.size + 1, 2, none⟩ = some (.float .f32 ad1)) ∧ (w'.cell? ⟨S0k, 0, none⟩ = some (.float .f32 S0b) ∧ w'.cell? ⟨S0k, 1, none⟩ = some (.float .f32 S0f) ∧ w'.cell? ⟨S0k, 2, none⟩ = some (.float .f32 S0r) ∧ w'.cell? ⟨S0k, 3, none⟩ = some (.slice S0a R.n S0c)) ∧ (w'.cell? ⟨w3.heap.size, 0, none⟩ = some (.float .f32 tb0) ∧ w'.cell? ⟨w3.heap.size, 1, none⟩ = some (.float .f32 tf0) ∧ w'.cell? ⟨w3.heap.size, 2, none⟩ = some (.float .f32 tr0) ∧ w'.cell? ⟨w3.heap.size, 3, none⟩ = some (.slice (some ⟨X0b, 0, none⟩) n0 n0)))
      (first | (refine keep_of (c := w4) (S := fun w' => (w'.cell? ⟨w.heap.size, 0, none⟩ = some (.float .f32 tb0) ∧ w'.cell? ⟨w.heap.size, 1, none⟩ = some (.float .f32 tf0) ∧ w'.cell? ⟨w.heap.size, 2, none⟩ = some (.float .f32 tr0) ∧ w'.cell? ⟨w.heap.size, 3, none⟩ = some (.slice a0 n0 c0)) ∧ (w'.cell? ⟨w.heap.size + 1, 0, none⟩ = some (.float .f32 aa1) ∧ w'.cell? ⟨w.heap.size + 1, 1, none⟩ = some (.float .f32 as1) ∧ w'.cell? ⟨w.heap.size + 1, 2, none⟩ = some (.float .f32 ad1)) ∧ (w'.cell? ⟨S0k, 0, none⟩ = some (.float .f32 S0b) ∧ w'.cell? ⟨S0k, 1, none⟩ = some (.float .f32 S0f) ∧ w'.cell? ⟨S0k, 2, none⟩ = some (.float .f32 S0r) ∧ w'.cell? ⟨S0k, 3, none⟩ = some (.slice S0a R.n S0c)) ∧ (w'.cell? ⟨w3.heap.size, 0, none⟩ = some (.float .f32 tb0) ∧ w'.cell? ⟨w3.heap.size, 1, none⟩ = some (.float .f32 tf0) ∧ w'.cell? ⟨w3.heap.size, 2, none⟩ = some (.float .f32 tr0) ∧ w'.cell? ⟨w3.heap.size, 3, none⟩ = some (.slice (some ⟨X0b, 0, none⟩) n0 n0))) (fun u hu => ⟨⟨Box.cell (Box.ext A0.out hu) 0, Box.cell (Box.ext A0.out hu) 1, Box.cell (Box.ext A0.out hu) 2, Box.cell (Box.ext A0.out hu) 3⟩, ⟨Box.cell (Box.ext A1.out hu) 0, Box.cell (Box.ext A1.out hu) 1, Box.cell (Box.ext A1.out hu) 2⟩, ⟨Box.cell (Box.ext S0B.out hu) 0, Box.cell (Box.ext S0B.out hu) 1, Box.cell (Box.ext S0B.out hu) 2, Box.cell (Box.ext S0B.out hu) 3⟩, ⟨Box.cell (Box.ext X0B.out hu) 0, Box.cell (Box.ext X0B.out hu) 1, Box.cell (Box.ext X0B.out hu) 2, Box.cell (Box.ext X0B.out hu) 3⟩⟩) ?_; ((repeat with_reducible (first | exact Ext.refl _ | exact ext_alloc _ _ | refine Ext.trans ?_ EC | refine Ext.trans ?_ ED1 | refine Ext.drewN ?_ _ | refine Ext.drew1 ?_ | refine Ext.alloc ?_ _ | refine Ext.set ?_ ?_ _)); all_goals ((have s1 := Ext.size ED1; have sC := Ext.size EC; (try simp at s1); (try simp at sC); (first | omega | (simp; omega) | (simp; done)))))))
      (first | (go_at_call 18; with_reducible refine (toAccent_any (aa1) (as1) (ad1) _).mono ?_; rintro e wD1 ⟨rfl, ED1⟩) | (go_at_call 19; refine (add_any _ _ _ _ _ _ _ n0 (z0.take (n0 * 3)) R _ (HoldsA.ext (ownA_hold X0F_.out) (by (repeat with_reducible (first | exact Ext.refl _ | exact ext_alloc _ _ | refine Ext.trans ?_ EC | refine Ext.trans ?_ ED1 | refine Ext.drewN ?_ _ | refine Ext.drew1 ?_ | refine Ext.alloc ?_ _)))) hn0 HR.out).mono ?_; rintro e wC ⟨Gv0, rfl, GT0, EC⟩; obtain ⟨G0b, G0f, G0r, G0a, G0c, rfl, G0F, G0eb, G0ef, G0er⟩ := GT0; try (apply with_box (w' := wC) (vs := #[.float .f32 0, .float .f32 0, .float .f32 0, .slice none 0 0]) (t := 31); (· (repeat with_reducible (first | exact Ext.refl _ | exact ext_alloc _ _ | refine Ext.trans ?_ EC | refine Ext.trans ?_ ED1 | refine Ext.drewN ?_ _ | refine Ext.drew1 ?_ | refine Ext.alloc ?_ _))); intro BN; obtain ⟨bn0, bn1, bn2, bn3, bf0, bf1, bf2, bf3, bnl⟩ := Box.all4 BN)))
    all_goals
      go_wp2_with fail
      go_meet
      refine ⟨_, G0b, G0f, G0r, G0a, G0c, rfl, rfl, ?_, ?_, ?_, ?_, ?_, ?_, ?_, ?_⟩
      · first | with_reducible exact hid (box_new _ _) | exact hid (box_set4 BN _ _ _ _)
      · refine hid ?_
        ((have s1 := Ext.size ED1; have sC := Ext.size EC; (try simp at s1); (try simp at sC); (first | omega | (simp; omega) | (simp; done))))
      · refine hid ?_
        first | (with_reducible refine OwnA.base (OwnA.ext G0F (ext_alloc _ _)) ?_; ((have s1 := Ext.size ED1; have sC := Ext.size EC; (try simp at s1); (try simp at sC); (first | omega | (simp; omega) | (simp; done))))) | (refine OwnA.base (ownA_far4 G0F ?_ _ _ _ _) ?_; all_goals ((have s1 := Ext.size ED1; have sC := Ext.size EC; (try simp at s1); (try simp at sC); (first | omega | (simp; omega) | (simp; done)))))
      · refine hid (fun k hk hk2 => ?_)
        have hB := OwnA.block G0F k hk
        have hB1 := hB.1
        have hB2 := hB.2
        subst hk2
        first | omega | (exfalso; revert hB2; simp; done) | ((try simp at hB1); ((have s1 := Ext.size ED1; have sC := Ext.size EC; (try simp at s1); (try simp at sC); (first | omega | (simp; omega) | (simp; done)))))
      · exact hid G0eb
      · exact hid G0ef
      · exact hid G0er
      · ((repeat with_reducible (first | exact Ext.refl _ | exact ext_alloc _ _ | refine Ext.trans ?_ EC | refine Ext.trans ?_ ED1 | refine Ext.drewN ?_ _ | refine Ext.drew1 ?_ | refine Ext.alloc ?_ _ | refine Ext.set ?_ ?_ _)); all_goals ((have s1 := Ext.size ED1; have sC := Ext.size EC; (try simp at s1); (try simp at sC); (first | omega | (simp; omega) | (simp; done)))))
  obtain ⟨G0k, G0b, G0f, G0r, G0a, G0c, rfl, rfl, G0B, G0K, G0F_, G0D, G0eb, G0ef, G0er, EC⟩ := hcut
  obtain ⟨w5, hwS⟩ : ∃ u, u = wc := ⟨_, rfl⟩
  subst hwS
  clear A00 A01 A02 A03 A0l A10 A11 A12 A1l S0B0 S0B1 S0B2 S0B3 S0Bl X0B0 X0B1 X0B2 X0B3 X0Bl
  have Z5 := hid (show w4.heap.size ≤ w5.heap.size from Ext.size EC)
  replace A0 := hid (Box.ext A0.out EC)
  replace A1 := hid (Box.ext A1.out EC)
  replace S0B := hid (Box.ext S0B.out EC)
  replace X0B := hid (Box.ext X0B.out EC)
  replace S0F_ := hid (OwnA.ext S0F_.out EC)
  replace X0F_ := hid (OwnA.ext X0F_.out EC)
  replace EX := hid (Ext.trans EX.out EC)
  clear EC
  have G0K2 := hid (show G0k < w5.heap.size from Box.lt G0B.out)
  have G0F_I := hid (OwnA.block G0F_.out)
  obtain ⟨A00, A01, A02, A03, A0l⟩ := Box.cells4 A0.out
  obtain ⟨A10, A11, A12, A1l⟩ := Box.cells3 A1.out
  obtain ⟨S0B0, S0B1, S0B2, S0B3, S0Bl⟩ := Box.cells4 S0B.out
  obtain ⟨X0B0, X0B1, X0B2, X0B3, X0Bl⟩ := Box.cells4 X0B.out
  obtain ⟨G0B0, G0B1, G0B2, G0B3, G0Bl⟩ := Box.cells4 G0B.out
  go_wp2_with fail
  refine (eqTune_yes _ _ _ _ _ _ _ _ _ _ _ _ _ (HoldsA.ext (ownA_hold G0F_.out) (by (repeat with_reducible (first | exact Ext.refl _ | exact ext_alloc _ _ | refine Ext.drewN ?_ _ | refine Ext.drew1 ?_ | refine Ext.set ?_ (by dsimp only; omega) _ | refine Ext.alloc ?_ _)))) (HoldsA.ext (ownA_hold S0F_.out) (by (repeat with_reducible (first | exact Ext.refl _ | exact ext_alloc _ _ | refine Ext.drewN ?_ _ | refine Ext.drew1 ?_ | refine Ext.set ?_ (by dsimp only; omega) _ | refine Ext.alloc ?_ _)))) hL0 (by rw [G0eb.out, S0eb.out]) (by rw [G0ef.out, S0ef.out]) (by rw [G0er.out, S0er.out])).mono ?_
  rintro e w6 ⟨rfl, E0⟩
  clear A00 A01 A02 A03 A0l A10 A11 A12 A1l S0B0 S0B1 S0B2 S0B3 S0Bl X0B0 X0B1 X0B2 X0B3 X0Bl G0B0 G0B1 G0B2 G0B3 G0Bl
  have EK : Ext w5 w6 := Ext.trans (by (repeat with_reducible (first | exact Ext.refl _ | exact ext_alloc _ _ | refine Ext.drewN ?_ _ | refine Ext.drew1 ?_ | refine Ext.set ?_ (by dsimp only; omega) _ | refine Ext.alloc ?_ _))) E0
  have Z6 := hid (show w5.heap.size ≤ w6.heap.size from Ext.size EK)
  replace A0 := hid (Box.ext A0.out EK)
  replace A1 := hid (Box.ext A1.out EK)
  replace S0B := hid (Box.ext S0B.out EK)
  replace X0B := hid (Box.ext X0B.out EK)
  replace G0B := hid (Box.ext G0B.out EK)
  replace S0F_ := hid (OwnA.ext S0F_.out EK)
  replace X0F_ := hid (OwnA.ext X0F_.out EK)
  replace G0F_ := hid (OwnA.ext G0F_.out EK)
  replace EX := hid (Ext.trans EX.out EK)
  clear EK E0
  obtain ⟨A00, A01, A02, A03, A0l⟩ := Box.cells4 A0.out
  obtain ⟨A10, A11, A12, A1l⟩ := Box.cells3 A1.out
  obtain ⟨S0B0, S0B1, S0B2, S0B3, S0Bl⟩ := Box.cells4 S0B.out
  obtain ⟨X0B0, X0B1, X0B2, X0B3, X0Bl⟩ := Box.cells4 X0B.out
  obtain ⟨G0B0, G0B1, G0B2, G0B3, G0Bl⟩ := Box.cells4 G0B.out
  go_wp2_with fail
  clear A00 A01 A02 A03 A0l A10 A11 A12 A1l S0B0 S0B1 S0B2 S0B3 S0Bl X0B0 X0B1 X0B2 X0B3 X0Bl G0B0 G0B1 G0B2 G0B3 G0Bl
  obtain ⟨A00, A01, A02, A03, A0l⟩ := Box.cells4 A0.out
  obtain ⟨A10, A11, A12, A1l⟩ := Box.cells3 A1.out
  obtain ⟨S0B0, S0B1, S0B2, S0B3, S0Bl⟩ := Box.cells4 S0B.out
  obtain ⟨X0B0, X0B1, X0B2, X0B3, X0Bl⟩ := Box.cells4 X0B.out
  obtain ⟨G0B0, G0B1, G0B2, G0B3, G0Bl⟩ := Box.cells4 G0B.out
  go_region_held3 (fun w' => (w'.cell? ⟨w.heap.size, 0, none⟩ = some (.float .f32 tb0) ∧ w'.cell? ⟨w.heap.size, 1, none⟩ = some (.float .f32 tf0) ∧ w'.cell? ⟨w.heap.size, 2, none⟩ = some (.float .f32 tr0) ∧ w'.cell? ⟨w.heap.size, 3, none⟩ = some (.slice a0 n0 c0)) ∧ (w'.cell? ⟨w3.heap.size, 0, none⟩ = some (.float .f32 tb0) ∧ w'.cell? ⟨w3.heap.size, 1, none⟩ = some (.float .f32 tf0) ∧ w'.cell? ⟨w3.heap.size, 2, none⟩ = some (.float .f32 tr0) ∧ w'.cell? ⟨w3.heap.size, 3, none⟩ = some (.slice (some ⟨X0b, 0, none⟩) n0 n0)))
    (first | (refine keep_of (c := w6) (S := fun w' => (w'.cell? ⟨w.heap.size, 0, none⟩ = some (.float .f32 tb0) ∧ w'.cell? ⟨w.heap.size, 1, none⟩ = some (.float .f32 tf0) ∧ w'.cell? ⟨w.heap.size, 2, none⟩ = some (.float .f32 tr0) ∧ w'.cell? ⟨w.heap.size, 3, none⟩ = some (.slice a0 n0 c0)) ∧ (w'.cell? ⟨w3.heap.size, 0, none⟩ = some (.float .f32 tb0) ∧ w'.cell? ⟨w3.heap.size, 1, none⟩ = some (.float .f32 tf0) ∧ w'.cell? ⟨w3.heap.size, 2, none⟩ = some (.float .f32 tr0) ∧ w'.cell? ⟨w3.heap.size, 3, none⟩ = some (.slice (some ⟨X0b, 0, none⟩) n0 n0))) (fun u hu => ⟨⟨Box.cell (Box.ext A0.out hu) 0, Box.cell (Box.ext A0.out hu) 1, Box.cell (Box.ext A0.out hu) 2, Box.cell (Box.ext A0.out hu) 3⟩, ⟨Box.cell (Box.ext X0B.out hu) 0, Box.cell (Box.ext X0B.out hu) 1, Box.cell (Box.ext X0B.out hu) 2, Box.cell (Box.ext X0B.out hu) 3⟩⟩) ?_; (repeat with_reducible (first | exact Ext.refl _ | exact ext_alloc _ _ | refine Ext.trans ?_ EC | refine Ext.trans ?_ ED0 | refine Ext.drewN ?_ _ | refine Ext.drew1 ?_ | refine Ext.alloc ?_ _))))
    (first | (go_at_call 17; with_reducible refine (toTune_any tb0 tf0 tr0 a0 n0 c0 (z0.take (n0 * 3)) _ (HoldsA.ext RA0.out (Ext.trans EX.out (by (repeat with_reducible (first | exact Ext.refl _ | exact ext_alloc _ _ | refine Ext.trans ?_ EC | refine Ext.trans ?_ ED0 | refine Ext.drewN ?_ _ | refine Ext.drew1 ?_ | refine Ext.alloc ?_ _))))) hn0).mono ?_; rintro e wD0 ⟨YYb, rfl, YYF, ED0⟩) | (go_at_call 20; refine (eqTune_yes _ _ _ _ _ _ _ _ _ _ _ _ _ (HoldsA.ext (ownA_hold X0F_.out) (by (repeat with_reducible (first | exact Ext.refl _ | exact ext_alloc _ _ | refine Ext.trans ?_ EC | refine Ext.trans ?_ ED0 | refine Ext.drewN ?_ _ | refine Ext.drew1 ?_ | refine Ext.alloc ?_ _)))) (ownA_hold YYF) hn0 rfl rfl rfl).mono ?_; rintro e wC ⟨rfl, EC⟩))
  clear A00 A01 A02 A03 A0l A10 A11 A12 A1l S0B0 S0B1 S0B2 S0B3 S0Bl X0B0 X0B1 X0B2 X0B3 X0Bl G0B0 G0B1 G0B2 G0B3 G0Bl
  have EK : Ext w6 wC := by (repeat with_reducible (first | exact Ext.refl _ | exact ext_alloc _ _ | refine Ext.trans ?_ EC | refine Ext.trans ?_ ED0 | refine Ext.drewN ?_ _ | refine Ext.drew1 ?_ | refine Ext.alloc ?_ _))
  obtain ⟨w7, hwS⟩ : ∃ u, u = wC := ⟨_, rfl⟩
  subst hwS
  have Z7 := hid (show w6.heap.size ≤ w7.heap.size from Ext.size EK)
  clear ED0 EC YYF
  replace A0 := hid (Box.ext A0.out EK)
  replace A1 := hid (Box.ext A1.out EK)
  replace S0B := hid (Box.ext S0B.out EK)
  replace X0B := hid (Box.ext X0B.out EK)
  replace G0B := hid (Box.ext G0B.out EK)
  replace S0F_ := hid (OwnA.ext S0F_.out EK)
  replace X0F_ := hid (OwnA.ext X0F_.out EK)
  replace G0F_ := hid (OwnA.ext G0F_.out EK)
  replace EX := hid (Ext.trans EX.out EK)
  clear EK
  obtain ⟨A00, A01, A02, A03, A0l⟩ := Box.cells4 A0.out
  obtain ⟨A10, A11, A12, A1l⟩ := Box.cells3 A1.out
  obtain ⟨S0B0, S0B1, S0B2, S0B3, S0Bl⟩ := Box.cells4 S0B.out
  obtain ⟨X0B0, X0B1, X0B2, X0B3, X0Bl⟩ := Box.cells4 X0B.out
  obtain ⟨G0B0, G0B1, G0B2, G0B3, G0Bl⟩ := Box.cells4 G0B.out
  go_wp2_with fail
  refine (markTune_is _ _ _ _ n0 _ (1) _ _ _ X0F_.out hn0 (by omega)).mono ?_
  rintro e w8 ⟨rfl, ⟨_, MO⟩, MB⟩
  clear A00 A01 A02 A03 A0l A10 A11 A12 A1l S0B0 S0B1 S0B2 S0B3 S0Bl X0B0 X0B1 X0B2 X0B3 X0Bl G0B0 G0B1 G0B2 G0B3 G0Bl
  have Z8 := hid (show w7.heap.size ≤ w8.heap.size from by have h9 := MB.size; first | exact h9 | (simp at h9; omega))
  replace A0 := hid (But.box MB A0.out (fun hk => by have h1 := X0F_I.out _ hk; have qZ0 := Z0.out; have qZ1 := Z1.out; have qZ2 := Z2.out; have qS0K := S0K.out; have qS0K2 := S0K2.out; have qZ3 := Z3.out; have qZ4 := Z4.out; have qZ5 := Z5.out; have qG0K := G0K.out; have qG0K2 := G0K2.out; have qZ6 := Z6.out; have qZ7 := Z7.out; omega))
  replace A1 := hid (But.box MB A1.out (fun hk => by have h1 := X0F_I.out _ hk; have qZ0 := Z0.out; have qZ1 := Z1.out; have qZ2 := Z2.out; have qS0K := S0K.out; have qS0K2 := S0K2.out; have qZ3 := Z3.out; have qZ4 := Z4.out; have qZ5 := Z5.out; have qG0K := G0K.out; have qG0K2 := G0K2.out; have qZ6 := Z6.out; have qZ7 := Z7.out; omega))
  replace S0B := hid (But.box MB S0B.out (fun hk => by have h1 := X0F_I.out _ hk; have qZ0 := Z0.out; have qZ1 := Z1.out; have qZ2 := Z2.out; have qS0K := S0K.out; have qS0K2 := S0K2.out; have qZ3 := Z3.out; have qZ4 := Z4.out; have qZ5 := Z5.out; have qG0K := G0K.out; have qG0K2 := G0K2.out; have qZ6 := Z6.out; have qZ7 := Z7.out; omega))
  replace X0B := hid (But.box MB X0B.out (fun hk => by have h1 := X0F_I.out _ hk; have qZ0 := Z0.out; have qZ1 := Z1.out; have qZ2 := Z2.out; have qS0K := S0K.out; have qS0K2 := S0K2.out; have qZ3 := Z3.out; have qZ4 := Z4.out; have qZ5 := Z5.out; have qG0K := G0K.out; have qG0K2 := G0K2.out; have qZ6 := Z6.out; have qZ7 := Z7.out; omega))
  replace G0B := hid (But.box MB G0B.out (fun hk => by have h1 := X0F_I.out _ hk; have qZ0 := Z0.out; have qZ1 := Z1.out; have qZ2 := Z2.out; have qS0K := S0K.out; have qS0K2 := S0K2.out; have qZ3 := Z3.out; have qZ4 := Z4.out; have qZ5 := Z5.out; have qG0K := G0K.out; have qG0K2 := G0K2.out; have qZ6 := Z6.out; have qZ7 := Z7.out; omega))
  replace S0F_ := hid (But.ownA MB S0F_.out (fun k hk hk2 => by have h1 := X0F_I.out _ hk2; have h2 := S0F_I.out _ hk; have qZ0 := Z0.out; have qZ1 := Z1.out; have qZ2 := Z2.out; have qS0K := S0K.out; have qS0K2 := S0K2.out; have qZ3 := Z3.out; have qZ4 := Z4.out; have qZ5 := Z5.out; have qG0K := G0K.out; have qG0K2 := G0K2.out; have qZ6 := Z6.out; have qZ7 := Z7.out; omega))
  replace G0F_ := hid (But.ownA MB G0F_.out (fun k hk hk2 => by have h1 := X0F_I.out _ hk2; have h2 := G0F_I.out _ hk; have qZ0 := Z0.out; have qZ1 := Z1.out; have qZ2 := Z2.out; have qS0K := S0K.out; have qS0K2 := S0K2.out; have qZ3 := Z3.out; have qZ4 := Z4.out; have qZ5 := Z5.out; have qG0K := G0K.out; have qG0K2 := G0K2.out; have qZ6 := Z6.out; have qZ7 := Z7.out; omega))
  replace EX := hid (But.below MB (Ext.trans EX.out (by (repeat with_reducible (first | exact Ext.refl _ | exact ext_alloc _ _ | refine Ext.drewN ?_ _ | refine Ext.drew1 ?_ | refine Ext.set ?_ (by dsimp only; omega) _ | refine Ext.alloc ?_ _)))) (fun k hk => by have h1 := X0F_I.out _ hk; have qZ0 := Z0.out; have qZ1 := Z1.out; have qZ2 := Z2.out; have qS0K := S0K.out; have qS0K2 := S0K2.out; have qZ3 := Z3.out; have qZ4 := Z4.out; have qZ5 := Z5.out; have qG0K := G0K.out; have qG0K2 := G0K2.out; have qZ6 := Z6.out; have qZ7 := Z7.out; omega))
  replace X0F_ := hid MO
  clear MO MB
  clear X0F_ X0F_I
  obtain ⟨A00, A01, A02, A03, A0l⟩ := Box.cells4 A0.out
  obtain ⟨A10, A11, A12, A1l⟩ := Box.cells3 A1.out
  obtain ⟨S0B0, S0B1, S0B2, S0B3, S0Bl⟩ := Box.cells4 S0B.out
  obtain ⟨X0B0, X0B1, X0B2, X0B3, X0Bl⟩ := Box.cells4 X0B.out
  obtain ⟨G0B0, G0B1, G0B2, G0B3, G0Bl⟩ := Box.cells4 G0B.out
  go_wp2_with fail
  refine (eqTune_yes _ _ _ _ _ _ _ _ _ _ _ _ _ (HoldsA.ext (ownA_hold G0F_.out) (by (repeat with_reducible (first | exact Ext.refl _ | exact ext_alloc _ _ | refine Ext.drewN ?_ _ | refine Ext.drew1 ?_ | refine Ext.set ?_ (by dsimp only; omega) _ | refine Ext.alloc ?_ _)))) (HoldsA.ext (ownA_hold S0F_.out) (by (repeat with_reducible (first | exact Ext.refl _ | exact ext_alloc _ _ | refine Ext.drewN ?_ _ | refine Ext.drew1 ?_ | refine Ext.set ?_ (by dsimp only; omega) _ | refine Ext.alloc ?_ _)))) hL0 (by rw [G0eb.out, S0eb.out]) (by rw [G0ef.out, S0ef.out]) (by rw [G0er.out, S0er.out])).mono ?_
  rintro e w9 ⟨rfl, E0⟩
  clear A00 A01 A02 A03 A0l A10 A11 A12 A1l S0B0 S0B1 S0B2 S0B3 S0Bl X0B0 X0B1 X0B2 X0B3 X0Bl G0B0 G0B1 G0B2 G0B3 G0Bl
  have EK : Ext w8 w9 := Ext.trans (by (repeat with_reducible (first | exact Ext.refl _ | exact ext_alloc _ _ | refine Ext.drewN ?_ _ | refine Ext.drew1 ?_ | refine Ext.set ?_ (by dsimp only; omega) _ | refine Ext.alloc ?_ _))) E0
  have Z9 := hid (show w8.heap.size ≤ w9.heap.size from Ext.size EK)
  replace A0 := hid (Box.ext A0.out EK)
  replace A1 := hid (Box.ext A1.out EK)
  replace S0B := hid (Box.ext S0B.out EK)
  replace X0B := hid (Box.ext X0B.out EK)
  replace G0B := hid (Box.ext G0B.out EK)
  replace S0F_ := hid (OwnA.ext S0F_.out EK)
  replace G0F_ := hid (OwnA.ext G0F_.out EK)
  replace EX := hid (Ext.trans EX.out EK)
  clear EK E0
  obtain ⟨A00, A01, A02, A03, A0l⟩ := Box.cells4 A0.out
  obtain ⟨A10, A11, A12, A1l⟩ := Box.cells3 A1.out
  obtain ⟨S0B0, S0B1, S0B2, S0B3, S0Bl⟩ := Box.cells4 S0B.out
  obtain ⟨X0B0, X0B1, X0B2, X0B3, X0Bl⟩ := Box.cells4 X0B.out
  obtain ⟨G0B0, G0B1, G0B2, G0B3, G0Bl⟩ := Box.cells4 G0B.out
  go_wp2_with fail
  refine (markTuneK_any _ _ _ _ R.n _ (1) _ _ _ G0F_.out hL0 (by omega)).mono ?_
  rintro e w10 ⟨rfl, MO, MB⟩
  clear A00 A01 A02 A03 A0l A10 A11 A12 A1l S0B0 S0B1 S0B2 S0B3 S0Bl X0B0 X0B1 X0B2 X0B3 X0Bl G0B0 G0B1 G0B2 G0B3 G0Bl
  have Z10 := hid (show w9.heap.size ≤ w10.heap.size from by have h9 := MB.size; first | exact h9 | (simp at h9; omega))
  replace A0 := hid (But.box MB A0.out (fun hk => by have h1 := G0F_I.out _ hk; have hd := G0D.out _ hk; have qZ0 := Z0.out; have qZ1 := Z1.out; have qZ2 := Z2.out; have qS0K := S0K.out; have qS0K2 := S0K2.out; have qZ3 := Z3.out; have qZ4 := Z4.out; have qZ5 := Z5.out; have qG0K := G0K.out; have qG0K2 := G0K2.out; have qZ6 := Z6.out; have qZ7 := Z7.out; have qZ8 := Z8.out; have qZ9 := Z9.out; omega))
  replace A1 := hid (But.box MB A1.out (fun hk => by have h1 := G0F_I.out _ hk; have hd := G0D.out _ hk; have qZ0 := Z0.out; have qZ1 := Z1.out; have qZ2 := Z2.out; have qS0K := S0K.out; have qS0K2 := S0K2.out; have qZ3 := Z3.out; have qZ4 := Z4.out; have qZ5 := Z5.out; have qG0K := G0K.out; have qG0K2 := G0K2.out; have qZ6 := Z6.out; have qZ7 := Z7.out; have qZ8 := Z8.out; have qZ9 := Z9.out; omega))
  replace S0B := hid (But.box MB S0B.out (fun hk => by have h1 := G0F_I.out _ hk; have hd := G0D.out _ hk; have qZ0 := Z0.out; have qZ1 := Z1.out; have qZ2 := Z2.out; have qS0K := S0K.out; have qS0K2 := S0K2.out; have qZ3 := Z3.out; have qZ4 := Z4.out; have qZ5 := Z5.out; have qG0K := G0K.out; have qG0K2 := G0K2.out; have qZ6 := Z6.out; have qZ7 := Z7.out; have qZ8 := Z8.out; have qZ9 := Z9.out; omega))
  replace X0B := hid (But.box MB X0B.out (fun hk => by have h1 := G0F_I.out _ hk; have hd := G0D.out _ hk; have qZ0 := Z0.out; have qZ1 := Z1.out; have qZ2 := Z2.out; have qS0K := S0K.out; have qS0K2 := S0K2.out; have qZ3 := Z3.out; have qZ4 := Z4.out; have qZ5 := Z5.out; have qG0K := G0K.out; have qG0K2 := G0K2.out; have qZ6 := Z6.out; have qZ7 := Z7.out; have qZ8 := Z8.out; have qZ9 := Z9.out; omega))
  replace G0B := hid (But.box MB G0B.out (fun hk => by have h1 := G0F_I.out _ hk; have hd := G0D.out _ hk; have qZ0 := Z0.out; have qZ1 := Z1.out; have qZ2 := Z2.out; have qS0K := S0K.out; have qS0K2 := S0K2.out; have qZ3 := Z3.out; have qZ4 := Z4.out; have qZ5 := Z5.out; have qG0K := G0K.out; have qG0K2 := G0K2.out; have qZ6 := Z6.out; have qZ7 := Z7.out; have qZ8 := Z8.out; have qZ9 := Z9.out; omega))
  replace S0F_ := hid (But.ownA MB S0F_.out (fun k hk hk2 => by have h1 := G0F_I.out _ hk2; have h2 := S0F_I.out _ hk; have qZ0 := Z0.out; have qZ1 := Z1.out; have qZ2 := Z2.out; have qS0K := S0K.out; have qS0K2 := S0K2.out; have qZ3 := Z3.out; have qZ4 := Z4.out; have qZ5 := Z5.out; have qG0K := G0K.out; have qG0K2 := G0K2.out; have qZ6 := Z6.out; have qZ7 := Z7.out; have qZ8 := Z8.out; have qZ9 := Z9.out; omega))
  replace EX := hid (But.below MB (Ext.trans EX.out (by (repeat with_reducible (first | exact Ext.refl _ | exact ext_alloc _ _ | refine Ext.drewN ?_ _ | refine Ext.drew1 ?_ | refine Ext.set ?_ (by dsimp only; omega) _ | refine Ext.alloc ?_ _)))) (fun k hk => by have h1 := G0F_I.out _ hk; have qZ0 := Z0.out; have qZ1 := Z1.out; have qZ2 := Z2.out; have qS0K := S0K.out; have qS0K2 := S0K2.out; have qZ3 := Z3.out; have qZ4 := Z4.out; have qZ5 := Z5.out; have qG0K := G0K.out; have qG0K2 := G0K2.out; have qZ6 := Z6.out; have qZ7 := Z7.out; have qZ8 := Z8.out; have qZ9 := Z9.out; omega))
  replace G0F_ := hid MO
  clear MO MB
  obtain ⟨A00, A01, A02, A03, A0l⟩ := Box.cells4 A0.out
  obtain ⟨A10, A11, A12, A1l⟩ := Box.cells3 A1.out
  obtain ⟨S0B0, S0B1, S0B2, S0B3, S0Bl⟩ := Box.cells4 S0B.out
  obtain ⟨X0B0, X0B1, X0B2, X0B3, X0Bl⟩ := Box.cells4 X0B.out
  obtain ⟨G0B0, G0B1, G0B2, G0B3, G0Bl⟩ := Box.cells4 G0B.out
  go_wp2_with fail
  refine (heldTune_any _ _ _ _ _ _ (1) _ _ (OwnA.ext G0F_.out (by (repeat with_reducible (first | exact Ext.refl _ | exact ext_alloc _ _ | refine Ext.drewN ?_ _ | refine Ext.drew1 ?_ | refine Ext.set ?_ (by dsimp only; omega) _ | refine Ext.alloc ?_ _)))) hL0 (by omega)).mono ?_
  rintro e w11 ⟨rfl, E0⟩
  clear A00 A01 A02 A03 A0l A10 A11 A12 A1l S0B0 S0B1 S0B2 S0B3 S0Bl X0B0 X0B1 X0B2 X0B3 X0Bl G0B0 G0B1 G0B2 G0B3 G0Bl
  have EK : Ext w10 w11 := Ext.trans (by (repeat with_reducible (first | exact Ext.refl _ | exact ext_alloc _ _ | refine Ext.drewN ?_ _ | refine Ext.drew1 ?_ | refine Ext.set ?_ (by dsimp only; omega) _ | refine Ext.alloc ?_ _))) E0
  have Z11 := hid (show w10.heap.size ≤ w11.heap.size from Ext.size EK)
  replace A0 := hid (Box.ext A0.out EK)
  replace A1 := hid (Box.ext A1.out EK)
  replace S0B := hid (Box.ext S0B.out EK)
  replace X0B := hid (Box.ext X0B.out EK)
  replace G0B := hid (Box.ext G0B.out EK)
  replace S0F_ := hid (OwnA.ext S0F_.out EK)
  replace G0F_ := hid (OwnA.ext G0F_.out EK)
  replace EX := hid (Ext.trans EX.out EK)
  clear EK E0
  obtain ⟨A00, A01, A02, A03, A0l⟩ := Box.cells4 A0.out
  obtain ⟨A10, A11, A12, A1l⟩ := Box.cells3 A1.out
  obtain ⟨S0B0, S0B1, S0B2, S0B3, S0Bl⟩ := Box.cells4 S0B.out
  obtain ⟨X0B0, X0B1, X0B2, X0B3, X0Bl⟩ := Box.cells4 X0B.out
  obtain ⟨G0B0, G0B1, G0B2, G0B3, G0Bl⟩ := Box.cells4 G0B.out
  go_upto_region 24 with (fail)
  clear A00 A01 A02 A03 A0l A10 A11 A12 A1l S0B0 S0B1 S0B2 S0B3 S0Bl X0B0 X0B1 X0B2 X0B3 X0Bl G0B0 G0B1 G0B2 G0B3 G0Bl
  obtain ⟨A00, A01, A02, A03, A0l⟩ := Box.cells4 A0.out
  obtain ⟨A10, A11, A12, A1l⟩ := Box.cells3 A1.out
  obtain ⟨S0B0, S0B1, S0B2, S0B3, S0Bl⟩ := Box.cells4 S0B.out
  obtain ⟨X0B0, X0B1, X0B2, X0B3, X0Bl⟩ := Box.cells4 X0B.out
  obtain ⟨G0B0, G0B1, G0B2, G0B3, G0Bl⟩ := Box.cells4 G0B.out
  go_cut [14, 15] (fun s14 s15 wx => ∃ (H0k H0b H0f H0r : Nat) (H0a : Option Addr) (H0c : Nat), s14 = .pointer (some ⟨H0k, 0, none⟩) ∧ s15 = .bool R.ok ∧ Hid (Box wx H0k #[.float .f32 H0b, .float .f32 H0f, .float .f32 H0r, .slice H0a R.n H0c]) ∧ Hid (w11.heap.size ≤ H0k) ∧ Hid (OwnA wx w11.heap.size R.n (.slice H0a R.n H0c) R.ys) ∧ Hid (∀ k, (Value.slice H0a R.n H0c).ownBlock = some k → k ≠ H0k) ∧ Hid (cls .f32 H0b = R.b) ∧ Hid (cls .f32 H0f = R.f) ∧ Hid (cls .f32 H0r = R.r) ∧ Ext w11 wx)
  case first =>
    go_region_held3 (fun w' => (w'.cell? ⟨w.heap.size, 0, none⟩ = some (.float .f32 tb0) ∧ w'.cell? ⟨w.heap.size, 1, none⟩ = some (.float .f32 tf0) ∧ w'.cell? ⟨w.heap.size, 2, none⟩ = some (.float .f32 tr0) ∧ w'.cell? ⟨w.heap.size, 3, none⟩ = some (.slice a0 n0 c0)) ∧ (w'.cell? ⟨w.heap.size + 1, 0, none⟩ = some (.float .f32 aa1) ∧ w'.cell? ⟨w.heap.size + 1, 1, none⟩ = some (.float .f32 as1) ∧ w'.cell? ⟨w.heap.size + 1, 2, none⟩ = some (.float .f32 ad1)) ∧ (w'.cell? ⟨S0k, 0, none⟩ = some (.float .f32 S0b) ∧ w'.cell? ⟨S0k, 1, none⟩ = some (.float .f32 S0f) ∧ w'.cell? ⟨S0k, 2, none⟩ = some (.float .f32 S0r) ∧ w'.cell? ⟨S0k, 3, none⟩ = some (.slice S0a R.n S0c)) ∧ (w'.cell? ⟨w3.heap.size, 0, none⟩ = some (.float .f32 tb0) ∧ w'.cell? ⟨w3.heap.size, 1, none⟩ = some (.float .f32 tf0) ∧ w'.cell? ⟨w3.heap.size, 2, none⟩ = some (.float .f32 tr0) ∧ w'.cell? ⟨w3.heap.size, 3, none⟩ = some (.slice (some ⟨X0b, 0, none⟩) n0 n0)) ∧ (w'.cell? ⟨G0k, 0, none⟩ = some (.float .f32 G0b) ∧ w'.cell? ⟨G0k, 1, none⟩ = some (.float .f32 G0f) ∧ w'.cell? ⟨G0k, 2, none⟩ = some (.float .f32 G0r) ∧ w'.cell? ⟨G0k, 3, none⟩ = some (.slice G0a R.n G0c)))
      (first | (refine keep_of (c := w11) (S := fun w' => (w'.cell? ⟨w.heap.size, 0, none⟩ = some (.float .f32 tb0) ∧ w'.cell? ⟨w.heap.size, 1, none⟩ = some (.float .f32 tf0) ∧ w'.cell? ⟨w.heap.size, 2, none⟩ = some (.float .f32 tr0) ∧ w'.cell? ⟨w.heap.size, 3, none⟩ = some (.slice a0 n0 c0)) ∧ (w'.cell? ⟨w.heap.size + 1, 0, none⟩ = some (.float .f32 aa1) ∧ w'.cell? ⟨w.heap.size + 1, 1, none⟩ = some (.float .f32 as1) ∧ w'.cell? ⟨w.heap.size + 1, 2, none⟩ = some (.float .f32 ad1)) ∧ (w'.cell? ⟨S0k, 0, none⟩ = some (.float .f32 S0b) ∧ w'.cell? ⟨S0k, 1, none⟩ = some (.float .f32 S0f) ∧ w'.cell? ⟨S0k, 2, none⟩ = some (.float .f32 S0r) ∧ w'.cell? ⟨S0k, 3, none⟩ = some (.slice S0a R.n S0c)) ∧ (w'.cell? ⟨w3.heap.size, 0, none⟩ = some (.float .f32 tb0) ∧ w'.cell? ⟨w3.heap.size, 1, none⟩ = some (.float .f32 tf0) ∧ w'.cell? ⟨w3.heap.size, 2, none⟩ = some (.float .f32 tr0) ∧ w'.cell? ⟨w3.heap.size, 3, none⟩ = some (.slice (some ⟨X0b, 0, none⟩) n0 n0)) ∧ (w'.cell? ⟨G0k, 0, none⟩ = some (.float .f32 G0b) ∧ w'.cell? ⟨G0k, 1, none⟩ = some (.float .f32 G0f) ∧ w'.cell? ⟨G0k, 2, none⟩ = some (.float .f32 G0r) ∧ w'.cell? ⟨G0k, 3, none⟩ = some (.slice G0a R.n G0c))) (fun u hu => ⟨⟨Box.cell (Box.ext A0.out hu) 0, Box.cell (Box.ext A0.out hu) 1, Box.cell (Box.ext A0.out hu) 2, Box.cell (Box.ext A0.out hu) 3⟩, ⟨Box.cell (Box.ext A1.out hu) 0, Box.cell (Box.ext A1.out hu) 1, Box.cell (Box.ext A1.out hu) 2⟩, ⟨Box.cell (Box.ext S0B.out hu) 0, Box.cell (Box.ext S0B.out hu) 1, Box.cell (Box.ext S0B.out hu) 2, Box.cell (Box.ext S0B.out hu) 3⟩, ⟨Box.cell (Box.ext X0B.out hu) 0, Box.cell (Box.ext X0B.out hu) 1, Box.cell (Box.ext X0B.out hu) 2, Box.cell (Box.ext X0B.out hu) 3⟩, ⟨Box.cell (Box.ext G0B.out hu) 0, Box.cell (Box.ext G0B.out hu) 1, Box.cell (Box.ext G0B.out hu) 2, Box.cell (Box.ext G0B.out hu) 3⟩⟩) ?_; ((repeat with_reducible (first | exact Ext.refl _ | exact ext_alloc _ _ | refine Ext.trans ?_ EC | refine Ext.trans ?_ ED0 | refine Ext.trans ?_ ED1 | refine Ext.drewN ?_ _ | refine Ext.drew1 ?_ | refine Ext.alloc ?_ _ | refine Ext.set ?_ ?_ _)); all_goals ((have s0 := Ext.size ED0; have s1 := Ext.size ED1; have sC := Ext.size EC; (try simp at s0); (try simp at s1); (try simp at sC); (first | omega | (simp; omega) | (simp; done)))))))
      (first | (go_at_call 17; with_reducible refine (toTune_any tb0 tf0 tr0 a0 n0 c0 (z0.take (n0 * 3)) _ (HoldsA.ext RA0.out (Ext.trans EX.out (by (repeat with_reducible (first | exact Ext.refl _ | exact ext_alloc _ _ | refine Ext.trans ?_ EC | refine Ext.trans ?_ ED0 | refine Ext.trans ?_ ED1 | refine Ext.drewN ?_ _ | refine Ext.drew1 ?_ | refine Ext.alloc ?_ _))))) hn0).mono ?_; rintro e wD0 ⟨Y0b, rfl, Y0F, ED0⟩) | (go_at_call 18; with_reducible refine (toAccent_any (aa1) (as1) (ad1) _).mono ?_; rintro e wD1 ⟨rfl, ED1⟩) | (go_at_call 19; refine (add_any _ _ _ _ _ _ _ n0 (z0.take (n0 * 3)) R _ (HoldsA.ext (ownA_hold Y0F) (by (repeat with_reducible (first | exact Ext.refl _ | exact ext_alloc _ _ | refine Ext.trans ?_ EC | refine Ext.trans ?_ ED0 | refine Ext.trans ?_ ED1 | refine Ext.drewN ?_ _ | refine Ext.drew1 ?_ | refine Ext.alloc ?_ _)))) hn0 HR.out).mono ?_; rintro e wC ⟨Hv0, rfl, HT0, EC⟩; obtain ⟨H0b, H0f, H0r, H0a, H0c, rfl, H0F, H0eb, H0ef, H0er⟩ := HT0; try (apply with_box (w' := wC) (vs := #[.float .f32 0, .float .f32 0, .float .f32 0, .slice none 0 0]) (t := 31); (· (repeat with_reducible (first | exact Ext.refl _ | exact ext_alloc _ _ | refine Ext.trans ?_ EC | refine Ext.trans ?_ ED0 | refine Ext.trans ?_ ED1 | refine Ext.drewN ?_ _ | refine Ext.drew1 ?_ | refine Ext.alloc ?_ _))); intro BN; obtain ⟨bn0, bn1, bn2, bn3, bf0, bf1, bf2, bf3, bnl⟩ := Box.all4 BN)))
    all_goals
      go_wp2_with fail
      go_meet
      refine ⟨_, H0b, H0f, H0r, H0a, H0c, rfl, rfl, ?_, ?_, ?_, ?_, ?_, ?_, ?_, ?_⟩
      · first | with_reducible exact hid (box_new _ _) | exact hid (box_set4 BN _ _ _ _)
      · refine hid ?_
        ((have s0 := Ext.size ED0; have s1 := Ext.size ED1; have sC := Ext.size EC; (try simp at s0); (try simp at s1); (try simp at sC); (first | omega | (simp; omega) | (simp; done))))
      · refine hid ?_
        first | (with_reducible refine OwnA.base (OwnA.ext H0F (ext_alloc _ _)) ?_; ((have s0 := Ext.size ED0; have s1 := Ext.size ED1; have sC := Ext.size EC; (try simp at s0); (try simp at s1); (try simp at sC); (first | omega | (simp; omega) | (simp; done))))) | (refine OwnA.base (ownA_far4 H0F ?_ _ _ _ _) ?_; all_goals ((have s0 := Ext.size ED0; have s1 := Ext.size ED1; have sC := Ext.size EC; (try simp at s0); (try simp at s1); (try simp at sC); (first | omega | (simp; omega) | (simp; done)))))
      · refine hid (fun k hk hk2 => ?_)
        have hB := OwnA.block H0F k hk
        have hB1 := hB.1
        have hB2 := hB.2
        subst hk2
        first | omega | (exfalso; revert hB2; simp; done) | ((try simp at hB1); ((have s0 := Ext.size ED0; have s1 := Ext.size ED1; have sC := Ext.size EC; (try simp at s0); (try simp at s1); (try simp at sC); (first | omega | (simp; omega) | (simp; done)))))
      · exact hid H0eb
      · exact hid H0ef
      · exact hid H0er
      · ((repeat with_reducible (first | exact Ext.refl _ | exact ext_alloc _ _ | refine Ext.trans ?_ EC | refine Ext.trans ?_ ED0 | refine Ext.trans ?_ ED1 | refine Ext.drewN ?_ _ | refine Ext.drew1 ?_ | refine Ext.alloc ?_ _ | refine Ext.set ?_ ?_ _)); all_goals ((have s0 := Ext.size ED0; have s1 := Ext.size ED1; have sC := Ext.size EC; (try simp at s0); (try simp at s1); (try simp at sC); (first | omega | (simp; omega) | (simp; done)))))
  obtain ⟨H0k, H0b, H0f, H0r, H0a, H0c, rfl, rfl, H0B, H0K, H0F_, H0D, H0eb, H0ef, H0er, EC⟩ := hcut
  obtain ⟨w12, hwS⟩ : ∃ u, u = wc := ⟨_, rfl⟩
  subst hwS
  clear A00 A01 A02 A03 A0l A10 A11 A12 A1l S0B0 S0B1 S0B2 S0B3 S0Bl X0B0 X0B1 X0B2 X0B3 X0Bl G0B0 G0B1 G0B2 G0B3 G0Bl
  have Z12 := hid (show w11.heap.size ≤ w12.heap.size from Ext.size EC)
  replace A0 := hid (Box.ext A0.out EC)
  replace A1 := hid (Box.ext A1.out EC)
  replace S0B := hid (Box.ext S0B.out EC)
  replace X0B := hid (Box.ext X0B.out EC)
  replace G0B := hid (Box.ext G0B.out EC)
  replace S0F_ := hid (OwnA.ext S0F_.out EC)
  replace G0F_ := hid (OwnA.ext G0F_.out EC)
  replace EX := hid (Ext.trans EX.out EC)
  clear EC
  have H0K2 := hid (show H0k < w12.heap.size from Box.lt H0B.out)
  have H0F_I := hid (OwnA.block H0F_.out)
  obtain ⟨A00, A01, A02, A03, A0l⟩ := Box.cells4 A0.out
  obtain ⟨A10, A11, A12, A1l⟩ := Box.cells3 A1.out
  obtain ⟨S0B0, S0B1, S0B2, S0B3, S0Bl⟩ := Box.cells4 S0B.out
  obtain ⟨X0B0, X0B1, X0B2, X0B3, X0Bl⟩ := Box.cells4 X0B.out
  obtain ⟨G0B0, G0B1, G0B2, G0B3, G0Bl⟩ := Box.cells4 G0B.out
  obtain ⟨H0B0, H0B1, H0B2, H0B3, H0Bl⟩ := Box.cells4 H0B.out
  go_wp2_with fail
  refine (eqTune_yes _ _ _ _ _ _ _ _ _ _ _ _ _ (HoldsA.ext (ownA_hold H0F_.out) (by (repeat with_reducible (first | exact Ext.refl _ | exact ext_alloc _ _ | refine Ext.drewN ?_ _ | refine Ext.drew1 ?_ | refine Ext.set ?_ (by dsimp only; omega) _ | refine Ext.alloc ?_ _)))) (HoldsA.ext (ownA_hold S0F_.out) (by (repeat with_reducible (first | exact Ext.refl _ | exact ext_alloc _ _ | refine Ext.drewN ?_ _ | refine Ext.drew1 ?_ | refine Ext.set ?_ (by dsimp only; omega) _ | refine Ext.alloc ?_ _)))) hL0 (by rw [H0eb.out, S0eb.out]) (by rw [H0ef.out, S0ef.out]) (by rw [H0er.out, S0er.out])).mono ?_
  rintro e w13 ⟨rfl, E0⟩
  clear A00 A01 A02 A03 A0l A10 A11 A12 A1l S0B0 S0B1 S0B2 S0B3 S0Bl X0B0 X0B1 X0B2 X0B3 X0Bl G0B0 G0B1 G0B2 G0B3 G0Bl H0B0 H0B1 H0B2 H0B3 H0Bl
  have EK : Ext w12 w13 := Ext.trans (by (repeat with_reducible (first | exact Ext.refl _ | exact ext_alloc _ _ | refine Ext.drewN ?_ _ | refine Ext.drew1 ?_ | refine Ext.set ?_ (by dsimp only; omega) _ | refine Ext.alloc ?_ _))) E0
  have Z13 := hid (show w12.heap.size ≤ w13.heap.size from Ext.size EK)
  replace A0 := hid (Box.ext A0.out EK)
  replace A1 := hid (Box.ext A1.out EK)
  replace S0B := hid (Box.ext S0B.out EK)
  replace X0B := hid (Box.ext X0B.out EK)
  replace G0B := hid (Box.ext G0B.out EK)
  replace H0B := hid (Box.ext H0B.out EK)
  replace S0F_ := hid (OwnA.ext S0F_.out EK)
  replace G0F_ := hid (OwnA.ext G0F_.out EK)
  replace H0F_ := hid (OwnA.ext H0F_.out EK)
  replace EX := hid (Ext.trans EX.out EK)
  clear EK E0
  obtain ⟨A00, A01, A02, A03, A0l⟩ := Box.cells4 A0.out
  obtain ⟨A10, A11, A12, A1l⟩ := Box.cells3 A1.out
  obtain ⟨S0B0, S0B1, S0B2, S0B3, S0Bl⟩ := Box.cells4 S0B.out
  obtain ⟨X0B0, X0B1, X0B2, X0B3, X0Bl⟩ := Box.cells4 X0B.out
  obtain ⟨G0B0, G0B1, G0B2, G0B3, G0Bl⟩ := Box.cells4 G0B.out
  obtain ⟨H0B0, H0B1, H0B2, H0B3, H0Bl⟩ := Box.cells4 H0B.out
  go_wp2_with fail
  refine (heldTune_any _ _ _ _ _ _ (1) _ _ (OwnA.ext G0F_.out (by (repeat with_reducible (first | exact Ext.refl _ | exact ext_alloc _ _ | refine Ext.drewN ?_ _ | refine Ext.drew1 ?_ | refine Ext.set ?_ (by dsimp only; omega) _ | refine Ext.alloc ?_ _)))) hL0 (by omega)).mono ?_
  rintro e w14 ⟨rfl, E0⟩
  clear A00 A01 A02 A03 A0l A10 A11 A12 A1l S0B0 S0B1 S0B2 S0B3 S0Bl X0B0 X0B1 X0B2 X0B3 X0Bl G0B0 G0B1 G0B2 G0B3 G0Bl H0B0 H0B1 H0B2 H0B3 H0Bl
  have EK : Ext w13 w14 := Ext.trans (by (repeat with_reducible (first | exact Ext.refl _ | exact ext_alloc _ _ | refine Ext.drewN ?_ _ | refine Ext.drew1 ?_ | refine Ext.set ?_ (by dsimp only; omega) _ | refine Ext.alloc ?_ _))) E0
  have Z14 := hid (show w13.heap.size ≤ w14.heap.size from Ext.size EK)
  replace A0 := hid (Box.ext A0.out EK)
  replace A1 := hid (Box.ext A1.out EK)
  replace S0B := hid (Box.ext S0B.out EK)
  replace X0B := hid (Box.ext X0B.out EK)
  replace G0B := hid (Box.ext G0B.out EK)
  replace H0B := hid (Box.ext H0B.out EK)
  replace S0F_ := hid (OwnA.ext S0F_.out EK)
  replace G0F_ := hid (OwnA.ext G0F_.out EK)
  replace H0F_ := hid (OwnA.ext H0F_.out EK)
  replace EX := hid (Ext.trans EX.out EK)
  clear EK E0
  obtain ⟨A00, A01, A02, A03, A0l⟩ := Box.cells4 A0.out
  obtain ⟨A10, A11, A12, A1l⟩ := Box.cells3 A1.out
  obtain ⟨S0B0, S0B1, S0B2, S0B3, S0Bl⟩ := Box.cells4 S0B.out
  obtain ⟨X0B0, X0B1, X0B2, X0B3, X0Bl⟩ := Box.cells4 X0B.out
  obtain ⟨G0B0, G0B1, G0B2, G0B3, G0Bl⟩ := Box.cells4 G0B.out
  obtain ⟨H0B0, H0B1, H0B2, H0B3, H0Bl⟩ := Box.cells4 H0B.out
  go_wp2_with fail
  go_ret
  refine ⟨rfl, ?_⟩
  exact (show Ext w _ from Ext.trans EX.out (by (repeat with_reducible (first | exact Ext.refl _ | exact ext_alloc _ _ | refine Ext.drewN ?_ _ | refine Ext.drew1 ?_ | refine Ext.set ?_ (by dsimp only; omega) _ | refine Ext.alloc ?_ _))))
end Go.Proofs.Ythinjgiakaflpab
