/- The law on mixed frames. -/
import Derived.Test.YthinjgiakaflpaaT18
import Derived.Test.YthinjgiakaflpaaF5
import Derived.Deep.RegionHeld3
import Derived.Deep.DeepCutAuto
namespace Go.Proofs.Ythinjgiakaflpaa
open Go.RowKit Flt
set_option linter.unusedVariables false

set_option maxHeartbeats 8000000 in
set_option maxRecDepth 100000 in
theorem FnExactMixFrames_walk (a0 : Option Addr) (n0 c0 : Nat) (z0 : List Nat) (l0 t0 p0 : Nat) (a1 : Option Addr) (n1 c1 : Nat) (z1 : List Nat) (l1 t1 p1 : Nat) (x2 : Nat) (w : World) (w0 : IsRowF .f32 w a0 n0 c0 z0) (wl0 : (Lit.float .f32 l0).wf = true) (wt0 : (Lit.float .f32 t0).wf = true) (wp0 : (Lit.float .f32 p0).wf = true) (w1 : IsRowF .f32 w a1 n1 c1 z1) (wl1 : (Lit.float .f32 l1).wf = true) (wt1 : (Lit.float .f32 t1).wf = true) (wp1 : (Lit.float .f32 p1).wf = true) (wx2 : (Lit.float .f32 x2).wf = true) :
    Calls Try.prog 9 #[.agg #[.slice a0 n0 c0, .float .f32 l0, .float .f32 t0, .float .f32 p0], .agg #[.slice a1 n1 c1, .float .f32 l1, .float .f32 t1, .float .f32 p1], .float .f32 x2] w fun e w' => e = .returned (.bool true) ∧ Below w.heap.size w w' := by
  have hmxn0 : n0 ≤ maxLen := row_max w0
  have hmxn1 : n1 ≤ maxLen := row_max w1
  by_cases hb0 : (1048576 : Int) < n0
  · clear wl0 wt0 wp0 wl1 wt1 wp1 wx2
    go_enter Try.func9, Try.ntmps9
    go_wp2_with fail
    refine (szFrame_no _ _ _ _ _ _ _ hmxn0 (by omega) (by omega) _).mono ?_
    rintro e w1 ⟨rfl, E0⟩
    have EX := hid (Ext.trans (Ext.alloc (ext_alloc _ _) _) E0)
    have A0 := hid (Box.ext (Box.alloc (box_new (w := w) #[.slice a0 n0 c0, .float .f32 l0, .float .f32 t0, .float .f32 p0] 44) _) E0)
    have A1 := hid (Box.cast (b' := w.heap.size + 1) (Box.ext (box_new (w := (w.alloc (.cells #[.slice a0 n0 c0, .float .f32 l0, .float .f32 t0, .float .f32 p0] 44))) #[.slice a1 n1 c1, .float .f32 l1, .float .f32 t1, .float .f32 p1] 44) E0) (by simp))
    have Z1 := hid (show w.heap.size + 1 + 1 ≤ w1.heap.size from by have := Ext.size E0; simpa using this)
    clear E0
    go_wp2
    go_ret
    exact ⟨rfl, EX.out⟩
  have hg0 : ¬ ((1048576 : Int) - (n0 : Int) < 0) := by omega
  by_cases hb1 : (1048576 : Int) - n0 < n1
  · clear wl0 wt0 wp0 wl1 wt1 wp1 wx2
    go_enter Try.func9, Try.ntmps9
    go_wp2_with fail
    refine (szFrame_yes _ _ _ _ _ _ _ (by omega) (by omega) _).mono ?_
    rintro e w1 ⟨rfl, E0⟩
    have EX := hid (Ext.trans (Ext.alloc (ext_alloc _ _) _) E0)
    have A0 := hid (Box.ext (Box.alloc (box_new (w := w) #[.slice a0 n0 c0, .float .f32 l0, .float .f32 t0, .float .f32 p0] 44) _) E0)
    have A1 := hid (Box.cast (b' := w.heap.size + 1) (Box.ext (box_new (w := (w.alloc (.cells #[.slice a0 n0 c0, .float .f32 l0, .float .f32 t0, .float .f32 p0] 44))) #[.slice a1 n1 c1, .float .f32 l1, .float .f32 t1, .float .f32 p1] 44) E0) (by simp))
    have Z1 := hid (show w.heap.size + 1 + 1 ≤ w1.heap.size from by have := Ext.size E0; simpa using this)
    clear E0
    obtain ⟨A00, A01, A02, A03, A0l⟩ := Box.cells4 A0.out
    obtain ⟨A10, A11, A12, A13, A1l⟩ := Box.cells4 A1.out
    go_wp2_with fail
    refine (szFrame_no _ _ _ _ _ _ _ hmxn1 (by omega) (by omega) _).mono ?_
    rintro e w2 ⟨rfl, E0⟩
    clear A00 A01 A02 A03 A0l A10 A11 A12 A13 A1l
    have EK := E0
    have Z2 := hid (show w1.heap.size ≤ w2.heap.size from Ext.size E0)
    replace A0 := hid (Box.ext A0.out EK)
    replace A1 := hid (Box.ext A1.out EK)
    replace EX := hid (Ext.trans EX.out EK)
    clear EK E0
    go_wp2
    go_ret
    exact ⟨rfl, EX.out⟩
  have hg1 : ¬ ((1048576 : Int) - (n0 : Int) - (n1 : Int) < 0) := by omega
  have hn0 : n0 ≤ 1048576 := by omega
  have hn1 : n1 ≤ 1048576 := by omega
  have hacc0 : ¬ (1 + (n0 : Int) < 0) := by omega
  have hacc1 : ¬ (1 + (n0 : Int) + (n1 : Int) < 0) := by omega
  have Rw0 := hid w0
  have Rw1 := hid w1
  obtain ⟨R, hR⟩ : ∃ R, mixF ((z0.take n0).map (cls .f32)) (cls .f32 l0) (cls .f32 t0) (cls .f32 p0) ((z1.take n1).map (cls .f32)) (cls .f32 l1) (cls .f32 t1) (cls .f32 p1) (cls .f32 x2) = R := ⟨_, rfl⟩
  have HR := hid hR
  have hL0_0 : R.cs.length ≤ 1048576 := by have := mixF_len ((z0.take n0).map (cls .f32)) (cls .f32 l0) (cls .f32 t0) (cls .f32 p0) ((z1.take n1).map (cls .f32)) (cls .f32 l1) (cls .f32 t1) (cls .f32 p1) (cls .f32 x2); rw [hR] at this; omega
  clear hR
  clear w0 w1 hmxn0 hmxn1 hb0 hb1 wl0 wt0 wp0 wl1 wt1 wp1 wx2
  have hr0 : ¬ (1 + (R.cs.length : Int) < 0) := by omega
  go_enter Try.func9, Try.ntmps9
  go_wp2_with fail
  refine (szFrame_yes _ _ _ _ _ _ _ (by omega) (by omega) _).mono ?_
  rintro e w1 ⟨rfl, E0⟩
  have EX := hid (Ext.trans (Ext.alloc (ext_alloc _ _) _) E0)
  have A0 := hid (Box.ext (Box.alloc (box_new (w := w) #[.slice a0 n0 c0, .float .f32 l0, .float .f32 t0, .float .f32 p0] 44) _) E0)
  have A1 := hid (Box.cast (b' := w.heap.size + 1) (Box.ext (box_new (w := (w.alloc (.cells #[.slice a0 n0 c0, .float .f32 l0, .float .f32 t0, .float .f32 p0] 44))) #[.slice a1 n1 c1, .float .f32 l1, .float .f32 t1, .float .f32 p1] 44) E0) (by simp))
  have Z1 := hid (show w.heap.size + 1 + 1 ≤ w1.heap.size from by have := Ext.size E0; simpa using this)
  clear E0
  obtain ⟨A00, A01, A02, A03, A0l⟩ := Box.cells4 A0.out
  obtain ⟨A10, A11, A12, A13, A1l⟩ := Box.cells4 A1.out
  go_wp2_with fail
  refine (szFrame_yes _ _ _ _ _ _ _ (by omega) (by omega) _).mono ?_
  rintro e w2 ⟨rfl, E0⟩
  clear A00 A01 A02 A03 A0l A10 A11 A12 A13 A1l
  have EK := E0
  have Z2 := hid (show w1.heap.size ≤ w2.heap.size from Ext.size E0)
  replace A0 := hid (Box.ext A0.out EK)
  replace A1 := hid (Box.ext A1.out EK)
  replace EX := hid (Ext.trans EX.out EK)
  clear EK E0
  obtain ⟨A00, A01, A02, A03, A0l⟩ := Box.cells4 A0.out
  obtain ⟨A10, A11, A12, A13, A1l⟩ := Box.cells4 A1.out
  clear A00 A01 A02 A03 A0l A10 A11 A12 A13 A1l
  obtain ⟨A00, A01, A02, A03, A0l⟩ := Box.cells4 A0.out
  obtain ⟨A10, A11, A12, A13, A1l⟩ := Box.cells4 A1.out
  go_upto_region 8 with (fail)
  go_cut [8, 9] (fun s8 s9 wx => ∃ (S0k : Nat), ∃ (S0a : Option Addr), ∃ (S0c : Nat), ∃ (S0l : Nat), ∃ (S0t : Nat), ∃ (S0p : Nat), ∃ (S0z : List Nat), s8 = .pointer (some ⟨S0k, 0, none⟩) ∧ s9 = .bool R.ok ∧ Hid (Box wx S0k #[.slice S0a R.cs.length S0c, .float .f32 S0l, .float .f32 S0t, .float .f32 S0p]) ∧ Hid (w2.heap.size ≤ S0k) ∧ Hid (Own wx w2.heap.size R.cs.length (.slice S0a R.cs.length S0c) S0z) ∧ Hid (S0z.map (cls .f32) = R.cs) ∧ Hid (cls .f32 S0l = R.l) ∧ Hid (cls .f32 S0t = R.t) ∧ Hid (cls .f32 S0p = R.p) ∧ Ext w2 wx)
  case first =>
    go_region_held3 (fun w' => (w'.cell? ⟨w.heap.size, 0, none⟩ = some (.slice a0 n0 c0) ∧ w'.cell? ⟨w.heap.size, 1, none⟩ = some (.float .f32 l0) ∧ w'.cell? ⟨w.heap.size, 2, none⟩ = some (.float .f32 t0) ∧ w'.cell? ⟨w.heap.size, 3, none⟩ = some (.float .f32 p0)) ∧ (w'.cell? ⟨w.heap.size + 1, 0, none⟩ = some (.slice a1 n1 c1) ∧ w'.cell? ⟨w.heap.size + 1, 1, none⟩ = some (.float .f32 l1) ∧ w'.cell? ⟨w.heap.size + 1, 2, none⟩ = some (.float .f32 t1) ∧ w'.cell? ⟨w.heap.size + 1, 3, none⟩ = some (.float .f32 p1)))
      (first | (refine keep_of (c := w2) (S := fun w' => (w'.cell? ⟨w.heap.size, 0, none⟩ = some (.slice a0 n0 c0) ∧ w'.cell? ⟨w.heap.size, 1, none⟩ = some (.float .f32 l0) ∧ w'.cell? ⟨w.heap.size, 2, none⟩ = some (.float .f32 t0) ∧ w'.cell? ⟨w.heap.size, 3, none⟩ = some (.float .f32 p0)) ∧ (w'.cell? ⟨w.heap.size + 1, 0, none⟩ = some (.slice a1 n1 c1) ∧ w'.cell? ⟨w.heap.size + 1, 1, none⟩ = some (.float .f32 l1) ∧ w'.cell? ⟨w.heap.size + 1, 2, none⟩ = some (.float .f32 t1) ∧ w'.cell? ⟨w.heap.size + 1, 3, none⟩ = some (.float .f32 p1))) (fun u hu => ⟨⟨Box.cell (Box.ext A0.out hu) 0, Box.cell (Box.ext A0.out hu) 1, Box.cell (Box.ext A0.out hu) 2, Box.cell (Box.ext A0.out hu) 3⟩, ⟨Box.cell (Box.ext A1.out hu) 0, Box.cell (Box.ext A1.out hu) 1, Box.cell (Box.ext A1.out hu) 2, Box.cell (Box.ext A1.out hu) 3⟩⟩) ?_; ((repeat with_reducible (first | exact Ext.refl _ | exact ext_alloc _ _ | refine Ext.trans ?_ EC | refine Ext.trans ?_ ED0 | refine Ext.trans ?_ ED1 | refine Ext.drewN ?_ _ | refine Ext.drew1 ?_ | refine Ext.alloc ?_ _ | refine Ext.set ?_ ?_ _)); all_goals ((have s0 := Ext.size ED0; have s1 := Ext.size ED1; have sC := Ext.size EC; (try simp at s0); (try simp at s1); (try simp at sC); (first | omega | (simp; omega) | (simp; done)))))))
      (first | (go_at_call 28; with_reducible refine (toFrame_any _ _ _ _ _ _ z0 _ (IsRowF.ext Rw0.out (Ext.trans EX.out (by (repeat with_reducible (first | exact Ext.refl _ | exact ext_alloc _ _ | refine Ext.trans ?_ EC | refine Ext.trans ?_ ED0 | refine Ext.trans ?_ ED1 | refine Ext.drewN ?_ _ | refine Ext.drew1 ?_ | refine Ext.alloc ?_ _))))) hn0).mono ?_; rintro e wD0 ⟨Y0b, rfl, Y0F, ED0⟩) | (go_at_call 28; with_reducible refine (toFrame_any _ _ _ _ _ _ z1 _ (IsRowF.ext Rw1.out (Ext.trans EX.out (by (repeat with_reducible (first | exact Ext.refl _ | exact ext_alloc _ _ | refine Ext.trans ?_ EC | refine Ext.trans ?_ ED0 | refine Ext.trans ?_ ED1 | refine Ext.drewN ?_ _ | refine Ext.drew1 ?_ | refine Ext.alloc ?_ _))))) hn1).mono ?_; rintro e wD1 ⟨Y1b, rfl, Y1F, ED1⟩) | (go_at_call 38; refine (sMixF_any _ _ _ _ _ _ _ _ _ _ _ _ _ (z0.take n0) (z1.take n1) R _ (own_hold (Own.ext Y0F (by (repeat with_reducible (first | exact Ext.refl _ | exact ext_alloc _ _ | refine Ext.trans ?_ EC | refine Ext.trans ?_ ED0 | refine Ext.trans ?_ ED1 | refine Ext.drewN ?_ _ | refine Ext.drew1 ?_ | refine Ext.alloc ?_ _))))) (own_hold (Own.ext Y1F (by (repeat with_reducible (first | exact Ext.refl _ | exact ext_alloc _ _ | refine Ext.trans ?_ EC | refine Ext.trans ?_ ED0 | refine Ext.trans ?_ ED1 | refine Ext.drewN ?_ _ | refine Ext.drew1 ?_ | refine Ext.alloc ?_ _))))) hn0 hn1 HR.out).mono ?_; rintro e wC ⟨Sv0, rfl, ST0, EC⟩; obtain ⟨S0a, S0c, S0l, S0t, S0p, S0z, rfl, S0F, S0e, S0el, S0et, S0ep⟩ := ST0; try (apply with_box (w' := wC) (vs := #[.slice none 0 0, .float .f32 0, .float .f32 0, .float .f32 0]) (t := 47); (· (repeat with_reducible (first | exact Ext.refl _ | exact ext_alloc _ _ | refine Ext.trans ?_ EC | refine Ext.trans ?_ ED0 | refine Ext.trans ?_ ED1 | refine Ext.drewN ?_ _ | refine Ext.drew1 ?_ | refine Ext.alloc ?_ _))); intro BN; obtain ⟨bn0, bn1, bn2, bn3, bf0, bf1, bf2, bf3, bnl⟩ := Box.all4 BN)))
    all_goals
      go_wp2_with fail
      go_meet
      refine ⟨_, S0a, S0c, S0l, S0t, S0p, S0z, rfl, rfl, ?_, ?_, ?_, ?_, ?_, ?_, ?_, ?_⟩
      · first | with_reducible exact hid (box_new _ _) | exact hid (box_set4 BN _ _ _ _ )
      · refine hid ?_
        ((have s0 := Ext.size ED0; have s1 := Ext.size ED1; have sC := Ext.size EC; (try simp at s0); (try simp at s1); (try simp at sC); (first | omega | (simp; omega) | (simp; done))))
      · refine hid ?_
        first | (with_reducible refine Own.base (Own.alloc S0F _) ?_; ((have s0 := Ext.size ED0; have s1 := Ext.size ED1; have sC := Ext.size EC; (try simp at s0); (try simp at s1); (try simp at sC); (first | omega | (simp; omega) | (simp; done))))) | (refine Own.base (own_far4 S0F ?_ _ _ _ _ ) ?_; all_goals ((have s0 := Ext.size ED0; have s1 := Ext.size ED1; have sC := Ext.size EC; (try simp at s0); (try simp at s1); (try simp at sC); (first | omega | (simp; omega) | (simp; done)))))
      · exact hid S0e
      · exact hid S0el
      · exact hid S0et
      · exact hid S0ep
      · ((repeat with_reducible (first | exact Ext.refl _ | exact ext_alloc _ _ | refine Ext.trans ?_ EC | refine Ext.trans ?_ ED0 | refine Ext.trans ?_ ED1 | refine Ext.drewN ?_ _ | refine Ext.drew1 ?_ | refine Ext.alloc ?_ _ | refine Ext.set ?_ ?_ _)); all_goals ((have s0 := Ext.size ED0; have s1 := Ext.size ED1; have sC := Ext.size EC; (try simp at s0); (try simp at s1); (try simp at sC); (first | omega | (simp; omega) | (simp; done)))))
  obtain ⟨S0k, S0a, S0c, S0l, S0t, S0p, S0z, rfl, rfl, S0B, S0K, S0F_, S0e, S0el, S0et, S0ep, EC⟩ := hcut
  obtain ⟨w3, hwS⟩ : ∃ u, u = wc := ⟨_, rfl⟩
  subst hwS
  clear A00 A01 A02 A03 A0l A10 A11 A12 A13 A1l
  have Z3 := hid (show w2.heap.size ≤ w3.heap.size from Ext.size EC)
  replace A0 := hid (Box.ext A0.out EC)
  replace A1 := hid (Box.ext A1.out EC)
  replace EX := hid (Ext.trans EX.out EC)
  clear EC
  have S0K2 := hid (show S0k < w3.heap.size from Box.lt S0B.out)
  have S0F_I := hid (Own.block S0F_.out)
  obtain ⟨A00, A01, A02, A03, A0l⟩ := Box.cells4 A0.out
  obtain ⟨A10, A11, A12, A13, A1l⟩ := Box.cells4 A1.out
  obtain ⟨S0B0, S0B1, S0B2, S0B3, S0Bl⟩ := Box.cells4 S0B.out
  go_wp2_with fail
  refine (toFrame_any _ _ _ _ _ _ z0 _ (IsRowF.ext Rw0.out EX.out) hn0).mono ?_
  rintro e w4 ⟨X0b, rfl, X0F, E0⟩
  clear A00 A01 A02 A03 A0l A10 A11 A12 A13 A1l S0B0 S0B1 S0B2 S0B3 S0Bl
  have EK := E0
  have Z4 := hid (show w3.heap.size ≤ w4.heap.size from Ext.size E0)
  replace A0 := hid (Box.ext A0.out EK)
  replace A1 := hid (Box.ext A1.out EK)
  replace S0B := hid (Box.ext S0B.out EK)
  replace S0F_ := hid (Own.ext S0F_.out EK)
  replace EX := hid (Ext.trans EX.out EK)
  clear EK E0
  have X0F_ := hid (Own.base X0F (B' := w3.heap.size) (by simp))
  have X0F_I := hid (Own.block X0F_.out)
  clear X0F
  obtain ⟨A00, A01, A02, A03, A0l⟩ := Box.cells4 A0.out
  obtain ⟨A10, A11, A12, A13, A1l⟩ := Box.cells4 A1.out
  obtain ⟨S0B0, S0B1, S0B2, S0B3, S0Bl⟩ := Box.cells4 S0B.out
  go_wp2_with fail
  refine (toFrame_any _ _ _ _ _ _ z1 _ (IsRowF.ext Rw1.out (Ext.trans EX.out (ext_alloc _ _))) hn1).mono ?_
  rintro e w5 ⟨X1b, rfl, X1F, E0⟩
  clear A00 A01 A02 A03 A0l A10 A11 A12 A13 A1l S0B0 S0B1 S0B2 S0B3 S0Bl
  have X0B := hid (Box.ext (box_new (w := w4) #[.slice (some ⟨X0b, 0, none⟩) n0 n0, .float .f32 l0, .float .f32 t0, .float .f32 p0] 47) E0)
  have EK := Ext.trans (ext_alloc _ _) E0
  have Z5 := hid (show w4.heap.size + 1 ≤ w5.heap.size from by have := Ext.size E0; simpa using this)
  replace A0 := hid (Box.ext A0.out EK)
  replace A1 := hid (Box.ext A1.out EK)
  replace S0B := hid (Box.ext S0B.out EK)
  replace S0F_ := hid (Own.ext S0F_.out EK)
  replace X0F_ := hid (Own.ext X0F_.out EK)
  replace EX := hid (Ext.trans EX.out EK)
  clear EK E0
  have X1F_ := hid (Own.base X1F (B' := w4.heap.size + 1) (by simp))
  have X1F_I := hid (Own.block X1F_.out)
  clear X1F
  obtain ⟨A00, A01, A02, A03, A0l⟩ := Box.cells4 A0.out
  obtain ⟨A10, A11, A12, A13, A1l⟩ := Box.cells4 A1.out
  obtain ⟨S0B0, S0B1, S0B2, S0B3, S0Bl⟩ := Box.cells4 S0B.out
  obtain ⟨X0B0, X0B1, X0B2, X0B3, X0Bl⟩ := Box.cells4 X0B.out
  go_wp2_with fail
  refine (mixF_any _ _ _ _ _ _ _ _ _ _ _ _ _ (z0.take n0) (z1.take n1) R _ (Holds.alloc (own_hold X0F_.out) _) (Holds.alloc (own_hold X1F_.out) _) hn0 hn1 HR.out).mono ?_
  rintro e w6 ⟨Gv0, rfl, GT0, E0⟩
  clear A00 A01 A02 A03 A0l A10 A11 A12 A13 A1l S0B0 S0B1 S0B2 S0B3 S0Bl X0B0 X0B1 X0B2 X0B3 X0Bl
  have X1B := hid (Box.ext (box_new (w := w5) #[.slice (some ⟨X1b, 0, none⟩) n1 n1, .float .f32 l1, .float .f32 t1, .float .f32 p1] 47) E0)
  have EK := Ext.trans (ext_alloc _ _) E0
  have Z6 := hid (show w5.heap.size + 1 ≤ w6.heap.size from by have := Ext.size E0; simpa using this)
  replace A0 := hid (Box.ext A0.out EK)
  replace A1 := hid (Box.ext A1.out EK)
  replace S0B := hid (Box.ext S0B.out EK)
  replace X0B := hid (Box.ext X0B.out EK)
  replace S0F_ := hid (Own.ext S0F_.out EK)
  replace X0F_ := hid (Own.ext X0F_.out EK)
  replace X1F_ := hid (Own.ext X1F_.out EK)
  replace EX := hid (Ext.trans EX.out EK)
  clear EK E0
  obtain ⟨G0a, G0c, G0l, G0t, G0p, G0z, rfl, G0F, G0e, G0el, G0et, G0ep⟩ := GT0
  have G0F_ := hid (Own.base G0F (B' := w5.heap.size + 1) (by simp))
  have G0F_I := hid (Own.block G0F_.out)
  clear G0F
  replace G0e := hid G0e
  replace G0el := hid G0el
  replace G0et := hid G0et
  replace G0ep := hid G0ep
  obtain ⟨A00, A01, A02, A03, A0l⟩ := Box.cells4 A0.out
  obtain ⟨A10, A11, A12, A13, A1l⟩ := Box.cells4 A1.out
  obtain ⟨S0B0, S0B1, S0B2, S0B3, S0Bl⟩ := Box.cells4 S0B.out
  obtain ⟨X0B0, X0B1, X0B2, X0B3, X0Bl⟩ := Box.cells4 X0B.out
  obtain ⟨X1B0, X1B1, X1B2, X1B3, X1Bl⟩ := Box.cells4 X1B.out
  go_wp2_with fail
  refine (eqFrame_yes _ _ _ _ _ _ _ _ _ _ _ G0z S0z _ (Holds.alloc (own_hold G0F_.out) _) (Holds.alloc (own_hold S0F_.out) _) hL0_0 (by rw [G0e.out, S0e.out]) (by rw [G0el.out, S0el.out]) (by rw [G0et.out, S0et.out]) (by rw [G0ep.out, S0ep.out])).mono ?_
  rintro e w7 ⟨rfl, E0⟩
  clear A00 A01 A02 A03 A0l A10 A11 A12 A13 A1l S0B0 S0B1 S0B2 S0B3 S0Bl X0B0 X0B1 X0B2 X0B3 X0Bl X1B0 X1B1 X1B2 X1B3 X1Bl
  have G0B := hid (Box.ext (box_new (w := w6) #[.slice G0a R.cs.length G0c, .float .f32 G0l, .float .f32 G0t, .float .f32 G0p] 47) E0)
  have EK := Ext.trans (ext_alloc _ _) E0
  have Z7 := hid (show w6.heap.size + 1 ≤ w7.heap.size from by have := Ext.size E0; simpa using this)
  replace A0 := hid (Box.ext A0.out EK)
  replace A1 := hid (Box.ext A1.out EK)
  replace S0B := hid (Box.ext S0B.out EK)
  replace X0B := hid (Box.ext X0B.out EK)
  replace X1B := hid (Box.ext X1B.out EK)
  replace S0F_ := hid (Own.ext S0F_.out EK)
  replace X0F_ := hid (Own.ext X0F_.out EK)
  replace X1F_ := hid (Own.ext X1F_.out EK)
  replace G0F_ := hid (Own.ext G0F_.out EK)
  replace EX := hid (Ext.trans EX.out EK)
  clear EK E0
  obtain ⟨A00, A01, A02, A03, A0l⟩ := Box.cells4 A0.out
  obtain ⟨A10, A11, A12, A13, A1l⟩ := Box.cells4 A1.out
  obtain ⟨S0B0, S0B1, S0B2, S0B3, S0Bl⟩ := Box.cells4 S0B.out
  obtain ⟨X0B0, X0B1, X0B2, X0B3, X0Bl⟩ := Box.cells4 X0B.out
  obtain ⟨X1B0, X1B1, X1B2, X1B3, X1Bl⟩ := Box.cells4 X1B.out
  obtain ⟨G0B0, G0B1, G0B2, G0B3, G0Bl⟩ := Box.cells4 G0B.out
  go_wp2_with fail
  clear A00 A01 A02 A03 A0l A10 A11 A12 A13 A1l S0B0 S0B1 S0B2 S0B3 S0Bl X0B0 X0B1 X0B2 X0B3 X0Bl X1B0 X1B1 X1B2 X1B3 X1Bl G0B0 G0B1 G0B2 G0B3 G0Bl
  obtain ⟨A00, A01, A02, A03, A0l⟩ := Box.cells4 A0.out
  obtain ⟨A10, A11, A12, A13, A1l⟩ := Box.cells4 A1.out
  obtain ⟨S0B0, S0B1, S0B2, S0B3, S0Bl⟩ := Box.cells4 S0B.out
  obtain ⟨X0B0, X0B1, X0B2, X0B3, X0Bl⟩ := Box.cells4 X0B.out
  obtain ⟨X1B0, X1B1, X1B2, X1B3, X1Bl⟩ := Box.cells4 X1B.out
  obtain ⟨G0B0, G0B1, G0B2, G0B3, G0Bl⟩ := Box.cells4 G0B.out
  go_region_held3 (fun w' => (w'.cell? ⟨w.heap.size, 0, none⟩ = some (.slice a0 n0 c0) ∧ w'.cell? ⟨w.heap.size, 1, none⟩ = some (.float .f32 l0) ∧ w'.cell? ⟨w.heap.size, 2, none⟩ = some (.float .f32 t0) ∧ w'.cell? ⟨w.heap.size, 3, none⟩ = some (.float .f32 p0)) ∧ (w'.cell? ⟨w4.heap.size, 0, none⟩ = some (.slice (some ⟨X0b, 0, none⟩) n0 n0) ∧ w'.cell? ⟨w4.heap.size, 1, none⟩ = some (.float .f32 l0) ∧ w'.cell? ⟨w4.heap.size, 2, none⟩ = some (.float .f32 t0) ∧ w'.cell? ⟨w4.heap.size, 3, none⟩ = some (.float .f32 p0)))
    (first | (refine keep_of (c := w7) (S := fun w' => (w'.cell? ⟨w.heap.size, 0, none⟩ = some (.slice a0 n0 c0) ∧ w'.cell? ⟨w.heap.size, 1, none⟩ = some (.float .f32 l0) ∧ w'.cell? ⟨w.heap.size, 2, none⟩ = some (.float .f32 t0) ∧ w'.cell? ⟨w.heap.size, 3, none⟩ = some (.float .f32 p0)) ∧ (w'.cell? ⟨w4.heap.size, 0, none⟩ = some (.slice (some ⟨X0b, 0, none⟩) n0 n0) ∧ w'.cell? ⟨w4.heap.size, 1, none⟩ = some (.float .f32 l0) ∧ w'.cell? ⟨w4.heap.size, 2, none⟩ = some (.float .f32 t0) ∧ w'.cell? ⟨w4.heap.size, 3, none⟩ = some (.float .f32 p0))) (fun u hu => ⟨⟨Box.cell (Box.ext A0.out hu) 0, Box.cell (Box.ext A0.out hu) 1, Box.cell (Box.ext A0.out hu) 2, Box.cell (Box.ext A0.out hu) 3⟩, ⟨Box.cell (Box.ext X0B.out hu) 0, Box.cell (Box.ext X0B.out hu) 1, Box.cell (Box.ext X0B.out hu) 2, Box.cell (Box.ext X0B.out hu) 3⟩⟩) ?_; (repeat with_reducible (first | exact Ext.refl _ | exact ext_alloc _ _ | refine Ext.trans ?_ EC | refine Ext.trans ?_ ED0 | refine Ext.trans ?_ ED1 | refine Ext.drewN ?_ _ | refine Ext.drew1 ?_ | refine Ext.alloc ?_ _))))
    (first | (go_at_call 28; with_reducible refine (toFrame_any _ _ _ _ _ _ z0 _ (IsRowF.ext Rw0.out (Ext.trans EX.out (by (repeat with_reducible (first | exact Ext.refl _ | exact ext_alloc _ _ | refine Ext.trans ?_ EC | refine Ext.trans ?_ ED0 | refine Ext.trans ?_ ED1 | refine Ext.drewN ?_ _ | refine Ext.drew1 ?_ | refine Ext.alloc ?_ _))))) hn0).mono ?_; rintro e wD0 ⟨YYb, rfl, YYF, ED0⟩) | (go_at_call 30; refine (eqFrame_yes _ _ _ _ _ _ _ _ _ _ _ _ _ _ (own_hold (Own.ext X0F_.out (by (repeat with_reducible (first | exact Ext.refl _ | exact ext_alloc _ _ | refine Ext.trans ?_ EC | refine Ext.trans ?_ ED0 | refine Ext.trans ?_ ED1 | refine Ext.drewN ?_ _ | refine Ext.drew1 ?_ | refine Ext.alloc ?_ _))))) (own_hold YYF) hn0 rfl rfl rfl rfl).mono ?_; rintro e wC ⟨rfl, EC⟩))
  clear A00 A01 A02 A03 A0l A10 A11 A12 A13 A1l S0B0 S0B1 S0B2 S0B3 S0Bl X0B0 X0B1 X0B2 X0B3 X0Bl X1B0 X1B1 X1B2 X1B3 X1Bl G0B0 G0B1 G0B2 G0B3 G0Bl
  have EK : Ext w7 wC := by (repeat with_reducible (first | exact Ext.refl _ | exact ext_alloc _ _ | refine Ext.trans ?_ EC | refine Ext.trans ?_ ED0 | refine Ext.trans ?_ ED1 | refine Ext.drewN ?_ _ | refine Ext.drew1 ?_ | refine Ext.alloc ?_ _))
  obtain ⟨w8, hwS⟩ : ∃ u, u = wC := ⟨_, rfl⟩
  subst hwS
  have Z8 := hid (show w7.heap.size ≤ w8.heap.size from Ext.size EK)
  clear ED0 EC YYF
  replace A0 := hid (Box.ext A0.out EK)
  replace A1 := hid (Box.ext A1.out EK)
  replace S0B := hid (Box.ext S0B.out EK)
  replace X0B := hid (Box.ext X0B.out EK)
  replace X1B := hid (Box.ext X1B.out EK)
  replace G0B := hid (Box.ext G0B.out EK)
  replace S0F_ := hid (Own.ext S0F_.out EK)
  replace X0F_ := hid (Own.ext X0F_.out EK)
  replace X1F_ := hid (Own.ext X1F_.out EK)
  replace G0F_ := hid (Own.ext G0F_.out EK)
  replace EX := hid (Ext.trans EX.out EK)
  clear EK
  obtain ⟨A00, A01, A02, A03, A0l⟩ := Box.cells4 A0.out
  obtain ⟨A10, A11, A12, A13, A1l⟩ := Box.cells4 A1.out
  obtain ⟨S0B0, S0B1, S0B2, S0B3, S0Bl⟩ := Box.cells4 S0B.out
  obtain ⟨X0B0, X0B1, X0B2, X0B3, X0Bl⟩ := Box.cells4 X0B.out
  obtain ⟨X1B0, X1B1, X1B2, X1B3, X1Bl⟩ := Box.cells4 X1B.out
  obtain ⟨G0B0, G0B1, G0B2, G0B3, G0Bl⟩ := Box.cells4 G0B.out
  go_wp2_with fail
  clear A00 A01 A02 A03 A0l A10 A11 A12 A13 A1l S0B0 S0B1 S0B2 S0B3 S0Bl X0B0 X0B1 X0B2 X0B3 X0Bl X1B0 X1B1 X1B2 X1B3 X1Bl G0B0 G0B1 G0B2 G0B3 G0Bl
  obtain ⟨A00, A01, A02, A03, A0l⟩ := Box.cells4 A0.out
  obtain ⟨A10, A11, A12, A13, A1l⟩ := Box.cells4 A1.out
  obtain ⟨S0B0, S0B1, S0B2, S0B3, S0Bl⟩ := Box.cells4 S0B.out
  obtain ⟨X0B0, X0B1, X0B2, X0B3, X0Bl⟩ := Box.cells4 X0B.out
  obtain ⟨X1B0, X1B1, X1B2, X1B3, X1Bl⟩ := Box.cells4 X1B.out
  obtain ⟨G0B0, G0B1, G0B2, G0B3, G0Bl⟩ := Box.cells4 G0B.out
  go_region_held3 (fun w' => (w'.cell? ⟨w.heap.size + 1, 0, none⟩ = some (.slice a1 n1 c1) ∧ w'.cell? ⟨w.heap.size + 1, 1, none⟩ = some (.float .f32 l1) ∧ w'.cell? ⟨w.heap.size + 1, 2, none⟩ = some (.float .f32 t1) ∧ w'.cell? ⟨w.heap.size + 1, 3, none⟩ = some (.float .f32 p1)) ∧ (w'.cell? ⟨w5.heap.size, 0, none⟩ = some (.slice (some ⟨X1b, 0, none⟩) n1 n1) ∧ w'.cell? ⟨w5.heap.size, 1, none⟩ = some (.float .f32 l1) ∧ w'.cell? ⟨w5.heap.size, 2, none⟩ = some (.float .f32 t1) ∧ w'.cell? ⟨w5.heap.size, 3, none⟩ = some (.float .f32 p1)))
    (first | (refine keep_of (c := w8) (S := fun w' => (w'.cell? ⟨w.heap.size + 1, 0, none⟩ = some (.slice a1 n1 c1) ∧ w'.cell? ⟨w.heap.size + 1, 1, none⟩ = some (.float .f32 l1) ∧ w'.cell? ⟨w.heap.size + 1, 2, none⟩ = some (.float .f32 t1) ∧ w'.cell? ⟨w.heap.size + 1, 3, none⟩ = some (.float .f32 p1)) ∧ (w'.cell? ⟨w5.heap.size, 0, none⟩ = some (.slice (some ⟨X1b, 0, none⟩) n1 n1) ∧ w'.cell? ⟨w5.heap.size, 1, none⟩ = some (.float .f32 l1) ∧ w'.cell? ⟨w5.heap.size, 2, none⟩ = some (.float .f32 t1) ∧ w'.cell? ⟨w5.heap.size, 3, none⟩ = some (.float .f32 p1))) (fun u hu => ⟨⟨Box.cell (Box.ext A1.out hu) 0, Box.cell (Box.ext A1.out hu) 1, Box.cell (Box.ext A1.out hu) 2, Box.cell (Box.ext A1.out hu) 3⟩, ⟨Box.cell (Box.ext X1B.out hu) 0, Box.cell (Box.ext X1B.out hu) 1, Box.cell (Box.ext X1B.out hu) 2, Box.cell (Box.ext X1B.out hu) 3⟩⟩) ?_; (repeat with_reducible (first | exact Ext.refl _ | exact ext_alloc _ _ | refine Ext.trans ?_ EC | refine Ext.trans ?_ ED0 | refine Ext.trans ?_ ED1 | refine Ext.drewN ?_ _ | refine Ext.drew1 ?_ | refine Ext.alloc ?_ _))))
    (first | (go_at_call 28; with_reducible refine (toFrame_any _ _ _ _ _ _ z1 _ (IsRowF.ext Rw1.out (Ext.trans EX.out (by (repeat with_reducible (first | exact Ext.refl _ | exact ext_alloc _ _ | refine Ext.trans ?_ EC | refine Ext.trans ?_ ED0 | refine Ext.trans ?_ ED1 | refine Ext.drewN ?_ _ | refine Ext.drew1 ?_ | refine Ext.alloc ?_ _))))) hn1).mono ?_; rintro e wD1 ⟨YYb, rfl, YYF, ED1⟩) | (go_at_call 30; refine (eqFrame_yes _ _ _ _ _ _ _ _ _ _ _ _ _ _ (own_hold (Own.ext X1F_.out (by (repeat with_reducible (first | exact Ext.refl _ | exact ext_alloc _ _ | refine Ext.trans ?_ EC | refine Ext.trans ?_ ED0 | refine Ext.trans ?_ ED1 | refine Ext.drewN ?_ _ | refine Ext.drew1 ?_ | refine Ext.alloc ?_ _))))) (own_hold YYF) hn1 rfl rfl rfl rfl).mono ?_; rintro e wC ⟨rfl, EC⟩))
  clear A00 A01 A02 A03 A0l A10 A11 A12 A13 A1l S0B0 S0B1 S0B2 S0B3 S0Bl X0B0 X0B1 X0B2 X0B3 X0Bl X1B0 X1B1 X1B2 X1B3 X1Bl G0B0 G0B1 G0B2 G0B3 G0Bl
  have EK : Ext w8 wC := by (repeat with_reducible (first | exact Ext.refl _ | exact ext_alloc _ _ | refine Ext.trans ?_ EC | refine Ext.trans ?_ ED0 | refine Ext.trans ?_ ED1 | refine Ext.drewN ?_ _ | refine Ext.drew1 ?_ | refine Ext.alloc ?_ _))
  obtain ⟨w9, hwS⟩ : ∃ u, u = wC := ⟨_, rfl⟩
  subst hwS
  have Z9 := hid (show w8.heap.size ≤ w9.heap.size from Ext.size EK)
  clear ED1 EC YYF
  replace A0 := hid (Box.ext A0.out EK)
  replace A1 := hid (Box.ext A1.out EK)
  replace S0B := hid (Box.ext S0B.out EK)
  replace X0B := hid (Box.ext X0B.out EK)
  replace X1B := hid (Box.ext X1B.out EK)
  replace G0B := hid (Box.ext G0B.out EK)
  replace S0F_ := hid (Own.ext S0F_.out EK)
  replace X0F_ := hid (Own.ext X0F_.out EK)
  replace X1F_ := hid (Own.ext X1F_.out EK)
  replace G0F_ := hid (Own.ext G0F_.out EK)
  replace EX := hid (Ext.trans EX.out EK)
  clear EK
  obtain ⟨A00, A01, A02, A03, A0l⟩ := Box.cells4 A0.out
  obtain ⟨A10, A11, A12, A13, A1l⟩ := Box.cells4 A1.out
  obtain ⟨S0B0, S0B1, S0B2, S0B3, S0Bl⟩ := Box.cells4 S0B.out
  obtain ⟨X0B0, X0B1, X0B2, X0B3, X0Bl⟩ := Box.cells4 X0B.out
  obtain ⟨X1B0, X1B1, X1B2, X1B3, X1Bl⟩ := Box.cells4 X1B.out
  obtain ⟨G0B0, G0B1, G0B2, G0B3, G0Bl⟩ := Box.cells4 G0B.out
  go_wp2_with fail
  refine (markFrame_any _ n0 _ (1) _ _ _ _ (z0.take n0) _ X0F_.out hn0 (by omega)).mono ?_
  rintro e w10 ⟨rfl, MO, MB⟩
  clear A00 A01 A02 A03 A0l A10 A11 A12 A13 A1l S0B0 S0B1 S0B2 S0B3 S0Bl X0B0 X0B1 X0B2 X0B3 X0Bl X1B0 X1B1 X1B2 X1B3 X1Bl G0B0 G0B1 G0B2 G0B3 G0Bl
  have Z10 := hid (show w9.heap.size ≤ w10.heap.size from MB.size)
  replace A0 := hid (But.box MB A0.out (fun hk => by have h1 := X0F_I.out _ hk; have qZ1 := Z1.out; have qZ2 := Z2.out; have qZ3 := Z3.out; have qS0K := S0K.out; have qS0K2 := S0K2.out; have qZ4 := Z4.out; have qZ5 := Z5.out; have qZ6 := Z6.out; have qZ7 := Z7.out; have qZ8 := Z8.out; have qZ9 := Z9.out; omega))
  replace A1 := hid (But.box MB A1.out (fun hk => by have h1 := X0F_I.out _ hk; have qZ1 := Z1.out; have qZ2 := Z2.out; have qZ3 := Z3.out; have qS0K := S0K.out; have qS0K2 := S0K2.out; have qZ4 := Z4.out; have qZ5 := Z5.out; have qZ6 := Z6.out; have qZ7 := Z7.out; have qZ8 := Z8.out; have qZ9 := Z9.out; omega))
  replace S0B := hid (But.box MB S0B.out (fun hk => by have h1 := X0F_I.out _ hk; have qZ1 := Z1.out; have qZ2 := Z2.out; have qZ3 := Z3.out; have qS0K := S0K.out; have qS0K2 := S0K2.out; have qZ4 := Z4.out; have qZ5 := Z5.out; have qZ6 := Z6.out; have qZ7 := Z7.out; have qZ8 := Z8.out; have qZ9 := Z9.out; omega))
  replace X0B := hid (But.box MB X0B.out (fun hk => by have h1 := X0F_I.out _ hk; have qZ1 := Z1.out; have qZ2 := Z2.out; have qZ3 := Z3.out; have qS0K := S0K.out; have qS0K2 := S0K2.out; have qZ4 := Z4.out; have qZ5 := Z5.out; have qZ6 := Z6.out; have qZ7 := Z7.out; have qZ8 := Z8.out; have qZ9 := Z9.out; omega))
  replace X1B := hid (But.box MB X1B.out (fun hk => by have h1 := X0F_I.out _ hk; have qZ1 := Z1.out; have qZ2 := Z2.out; have qZ3 := Z3.out; have qS0K := S0K.out; have qS0K2 := S0K2.out; have qZ4 := Z4.out; have qZ5 := Z5.out; have qZ6 := Z6.out; have qZ7 := Z7.out; have qZ8 := Z8.out; have qZ9 := Z9.out; omega))
  replace G0B := hid (But.box MB G0B.out (fun hk => by have h1 := X0F_I.out _ hk; have qZ1 := Z1.out; have qZ2 := Z2.out; have qZ3 := Z3.out; have qS0K := S0K.out; have qS0K2 := S0K2.out; have qZ4 := Z4.out; have qZ5 := Z5.out; have qZ6 := Z6.out; have qZ7 := Z7.out; have qZ8 := Z8.out; have qZ9 := Z9.out; omega))
  replace S0F_ := hid (But.own MB S0F_.out (fun k hk hk2 => by have h1 := X0F_I.out _ hk2; have h2 := S0F_I.out _ hk; have qZ1 := Z1.out; have qZ2 := Z2.out; have qZ3 := Z3.out; have qS0K := S0K.out; have qS0K2 := S0K2.out; have qZ4 := Z4.out; have qZ5 := Z5.out; have qZ6 := Z6.out; have qZ7 := Z7.out; have qZ8 := Z8.out; have qZ9 := Z9.out; omega))
  replace X1F_ := hid (But.own MB X1F_.out (fun k hk hk2 => by have h1 := X0F_I.out _ hk2; have h2 := X1F_I.out _ hk; have qZ1 := Z1.out; have qZ2 := Z2.out; have qZ3 := Z3.out; have qS0K := S0K.out; have qS0K2 := S0K2.out; have qZ4 := Z4.out; have qZ5 := Z5.out; have qZ6 := Z6.out; have qZ7 := Z7.out; have qZ8 := Z8.out; have qZ9 := Z9.out; omega))
  replace G0F_ := hid (But.own MB G0F_.out (fun k hk hk2 => by have h1 := X0F_I.out _ hk2; have h2 := G0F_I.out _ hk; have qZ1 := Z1.out; have qZ2 := Z2.out; have qZ3 := Z3.out; have qS0K := S0K.out; have qS0K2 := S0K2.out; have qZ4 := Z4.out; have qZ5 := Z5.out; have qZ6 := Z6.out; have qZ7 := Z7.out; have qZ8 := Z8.out; have qZ9 := Z9.out; omega))
  replace EX := hid (But.below MB EX.out (fun k hk => by have h1 := X0F_I.out _ hk; have qZ1 := Z1.out; have qZ2 := Z2.out; have qZ3 := Z3.out; have qS0K := S0K.out; have qS0K2 := S0K2.out; have qZ4 := Z4.out; have qZ5 := Z5.out; have qZ6 := Z6.out; have qZ7 := Z7.out; have qZ8 := Z8.out; have qZ9 := Z9.out; omega))
  replace X0F_ := hid MO
  clear MO MB
  clear X0F_ X0F_I
  obtain ⟨A00, A01, A02, A03, A0l⟩ := Box.cells4 A0.out
  obtain ⟨A10, A11, A12, A13, A1l⟩ := Box.cells4 A1.out
  obtain ⟨S0B0, S0B1, S0B2, S0B3, S0Bl⟩ := Box.cells4 S0B.out
  obtain ⟨X0B0, X0B1, X0B2, X0B3, X0Bl⟩ := Box.cells4 X0B.out
  obtain ⟨X1B0, X1B1, X1B2, X1B3, X1Bl⟩ := Box.cells4 X1B.out
  obtain ⟨G0B0, G0B1, G0B2, G0B3, G0Bl⟩ := Box.cells4 G0B.out
  go_wp2_with fail
  refine (markFrame_any _ n1 _ (1 + n0) _ _ _ _ (z1.take n1) _ X1F_.out hn1 (by omega)).mono ?_
  rintro e w11 ⟨rfl, MO, MB⟩
  clear A00 A01 A02 A03 A0l A10 A11 A12 A13 A1l S0B0 S0B1 S0B2 S0B3 S0Bl X0B0 X0B1 X0B2 X0B3 X0Bl X1B0 X1B1 X1B2 X1B3 X1Bl G0B0 G0B1 G0B2 G0B3 G0Bl
  have Z11 := hid (show w10.heap.size ≤ w11.heap.size from MB.size)
  replace A0 := hid (But.box MB A0.out (fun hk => by have h1 := X1F_I.out _ hk; have qZ1 := Z1.out; have qZ2 := Z2.out; have qZ3 := Z3.out; have qS0K := S0K.out; have qS0K2 := S0K2.out; have qZ4 := Z4.out; have qZ5 := Z5.out; have qZ6 := Z6.out; have qZ7 := Z7.out; have qZ8 := Z8.out; have qZ9 := Z9.out; have qZ10 := Z10.out; omega))
  replace A1 := hid (But.box MB A1.out (fun hk => by have h1 := X1F_I.out _ hk; have qZ1 := Z1.out; have qZ2 := Z2.out; have qZ3 := Z3.out; have qS0K := S0K.out; have qS0K2 := S0K2.out; have qZ4 := Z4.out; have qZ5 := Z5.out; have qZ6 := Z6.out; have qZ7 := Z7.out; have qZ8 := Z8.out; have qZ9 := Z9.out; have qZ10 := Z10.out; omega))
  replace S0B := hid (But.box MB S0B.out (fun hk => by have h1 := X1F_I.out _ hk; have qZ1 := Z1.out; have qZ2 := Z2.out; have qZ3 := Z3.out; have qS0K := S0K.out; have qS0K2 := S0K2.out; have qZ4 := Z4.out; have qZ5 := Z5.out; have qZ6 := Z6.out; have qZ7 := Z7.out; have qZ8 := Z8.out; have qZ9 := Z9.out; have qZ10 := Z10.out; omega))
  replace X0B := hid (But.box MB X0B.out (fun hk => by have h1 := X1F_I.out _ hk; have qZ1 := Z1.out; have qZ2 := Z2.out; have qZ3 := Z3.out; have qS0K := S0K.out; have qS0K2 := S0K2.out; have qZ4 := Z4.out; have qZ5 := Z5.out; have qZ6 := Z6.out; have qZ7 := Z7.out; have qZ8 := Z8.out; have qZ9 := Z9.out; have qZ10 := Z10.out; omega))
  replace X1B := hid (But.box MB X1B.out (fun hk => by have h1 := X1F_I.out _ hk; have qZ1 := Z1.out; have qZ2 := Z2.out; have qZ3 := Z3.out; have qS0K := S0K.out; have qS0K2 := S0K2.out; have qZ4 := Z4.out; have qZ5 := Z5.out; have qZ6 := Z6.out; have qZ7 := Z7.out; have qZ8 := Z8.out; have qZ9 := Z9.out; have qZ10 := Z10.out; omega))
  replace G0B := hid (But.box MB G0B.out (fun hk => by have h1 := X1F_I.out _ hk; have qZ1 := Z1.out; have qZ2 := Z2.out; have qZ3 := Z3.out; have qS0K := S0K.out; have qS0K2 := S0K2.out; have qZ4 := Z4.out; have qZ5 := Z5.out; have qZ6 := Z6.out; have qZ7 := Z7.out; have qZ8 := Z8.out; have qZ9 := Z9.out; have qZ10 := Z10.out; omega))
  replace S0F_ := hid (But.own MB S0F_.out (fun k hk hk2 => by have h1 := X1F_I.out _ hk2; have h2 := S0F_I.out _ hk; have qZ1 := Z1.out; have qZ2 := Z2.out; have qZ3 := Z3.out; have qS0K := S0K.out; have qS0K2 := S0K2.out; have qZ4 := Z4.out; have qZ5 := Z5.out; have qZ6 := Z6.out; have qZ7 := Z7.out; have qZ8 := Z8.out; have qZ9 := Z9.out; have qZ10 := Z10.out; omega))
  replace G0F_ := hid (But.own MB G0F_.out (fun k hk hk2 => by have h1 := X1F_I.out _ hk2; have h2 := G0F_I.out _ hk; have qZ1 := Z1.out; have qZ2 := Z2.out; have qZ3 := Z3.out; have qS0K := S0K.out; have qS0K2 := S0K2.out; have qZ4 := Z4.out; have qZ5 := Z5.out; have qZ6 := Z6.out; have qZ7 := Z7.out; have qZ8 := Z8.out; have qZ9 := Z9.out; have qZ10 := Z10.out; omega))
  replace EX := hid (But.below MB EX.out (fun k hk => by have h1 := X1F_I.out _ hk; have qZ1 := Z1.out; have qZ2 := Z2.out; have qZ3 := Z3.out; have qS0K := S0K.out; have qS0K2 := S0K2.out; have qZ4 := Z4.out; have qZ5 := Z5.out; have qZ6 := Z6.out; have qZ7 := Z7.out; have qZ8 := Z8.out; have qZ9 := Z9.out; have qZ10 := Z10.out; omega))
  replace X1F_ := hid MO
  clear MO MB
  clear X1F_ X1F_I
  obtain ⟨A00, A01, A02, A03, A0l⟩ := Box.cells4 A0.out
  obtain ⟨A10, A11, A12, A13, A1l⟩ := Box.cells4 A1.out
  obtain ⟨S0B0, S0B1, S0B2, S0B3, S0Bl⟩ := Box.cells4 S0B.out
  obtain ⟨X0B0, X0B1, X0B2, X0B3, X0Bl⟩ := Box.cells4 X0B.out
  obtain ⟨X1B0, X1B1, X1B2, X1B3, X1Bl⟩ := Box.cells4 X1B.out
  obtain ⟨G0B0, G0B1, G0B2, G0B3, G0Bl⟩ := Box.cells4 G0B.out
  go_wp2_with fail
  refine (eqFrame_yes _ _ _ _ _ _ _ _ _ _ _ G0z S0z _ (own_hold G0F_.out) (own_hold S0F_.out) hL0_0 (by rw [G0e.out, S0e.out]) (by rw [G0el.out, S0el.out]) (by rw [G0et.out, S0et.out]) (by rw [G0ep.out, S0ep.out])).mono ?_
  rintro e w12 ⟨rfl, E0⟩
  clear A00 A01 A02 A03 A0l A10 A11 A12 A13 A1l S0B0 S0B1 S0B2 S0B3 S0Bl X0B0 X0B1 X0B2 X0B3 X0Bl X1B0 X1B1 X1B2 X1B3 X1Bl G0B0 G0B1 G0B2 G0B3 G0Bl
  have EK := E0
  have Z12 := hid (show w11.heap.size ≤ w12.heap.size from Ext.size E0)
  replace A0 := hid (Box.ext A0.out EK)
  replace A1 := hid (Box.ext A1.out EK)
  replace S0B := hid (Box.ext S0B.out EK)
  replace X0B := hid (Box.ext X0B.out EK)
  replace X1B := hid (Box.ext X1B.out EK)
  replace G0B := hid (Box.ext G0B.out EK)
  replace S0F_ := hid (Own.ext S0F_.out EK)
  replace G0F_ := hid (Own.ext G0F_.out EK)
  replace EX := hid (Ext.trans EX.out EK)
  clear EK E0
  obtain ⟨A00, A01, A02, A03, A0l⟩ := Box.cells4 A0.out
  obtain ⟨A10, A11, A12, A13, A1l⟩ := Box.cells4 A1.out
  obtain ⟨S0B0, S0B1, S0B2, S0B3, S0Bl⟩ := Box.cells4 S0B.out
  obtain ⟨X0B0, X0B1, X0B2, X0B3, X0Bl⟩ := Box.cells4 X0B.out
  obtain ⟨X1B0, X1B1, X1B2, X1B3, X1Bl⟩ := Box.cells4 X1B.out
  obtain ⟨G0B0, G0B1, G0B2, G0B3, G0Bl⟩ := Box.cells4 G0B.out
  go_wp2_with fail
  refine (markFrame_any _ R.cs.length _ (1) _ _ _ _ G0z _ G0F_.out hL0_0 (by omega)).mono ?_
  rintro e w13 ⟨rfl, MO, MB⟩
  clear A00 A01 A02 A03 A0l A10 A11 A12 A13 A1l S0B0 S0B1 S0B2 S0B3 S0Bl X0B0 X0B1 X0B2 X0B3 X0Bl X1B0 X1B1 X1B2 X1B3 X1Bl G0B0 G0B1 G0B2 G0B3 G0Bl
  have Z13 := hid (show w12.heap.size ≤ w13.heap.size from MB.size)
  replace A0 := hid (But.box MB A0.out (fun hk => by have h1 := G0F_I.out _ hk; have qZ1 := Z1.out; have qZ2 := Z2.out; have qZ3 := Z3.out; have qS0K := S0K.out; have qS0K2 := S0K2.out; have qZ4 := Z4.out; have qZ5 := Z5.out; have qZ6 := Z6.out; have qZ7 := Z7.out; have qZ8 := Z8.out; have qZ9 := Z9.out; have qZ10 := Z10.out; have qZ11 := Z11.out; have qZ12 := Z12.out; omega))
  replace A1 := hid (But.box MB A1.out (fun hk => by have h1 := G0F_I.out _ hk; have qZ1 := Z1.out; have qZ2 := Z2.out; have qZ3 := Z3.out; have qS0K := S0K.out; have qS0K2 := S0K2.out; have qZ4 := Z4.out; have qZ5 := Z5.out; have qZ6 := Z6.out; have qZ7 := Z7.out; have qZ8 := Z8.out; have qZ9 := Z9.out; have qZ10 := Z10.out; have qZ11 := Z11.out; have qZ12 := Z12.out; omega))
  replace S0B := hid (But.box MB S0B.out (fun hk => by have h1 := G0F_I.out _ hk; have qZ1 := Z1.out; have qZ2 := Z2.out; have qZ3 := Z3.out; have qS0K := S0K.out; have qS0K2 := S0K2.out; have qZ4 := Z4.out; have qZ5 := Z5.out; have qZ6 := Z6.out; have qZ7 := Z7.out; have qZ8 := Z8.out; have qZ9 := Z9.out; have qZ10 := Z10.out; have qZ11 := Z11.out; have qZ12 := Z12.out; omega))
  replace X0B := hid (But.box MB X0B.out (fun hk => by have h1 := G0F_I.out _ hk; have qZ1 := Z1.out; have qZ2 := Z2.out; have qZ3 := Z3.out; have qS0K := S0K.out; have qS0K2 := S0K2.out; have qZ4 := Z4.out; have qZ5 := Z5.out; have qZ6 := Z6.out; have qZ7 := Z7.out; have qZ8 := Z8.out; have qZ9 := Z9.out; have qZ10 := Z10.out; have qZ11 := Z11.out; have qZ12 := Z12.out; omega))
  replace X1B := hid (But.box MB X1B.out (fun hk => by have h1 := G0F_I.out _ hk; have qZ1 := Z1.out; have qZ2 := Z2.out; have qZ3 := Z3.out; have qS0K := S0K.out; have qS0K2 := S0K2.out; have qZ4 := Z4.out; have qZ5 := Z5.out; have qZ6 := Z6.out; have qZ7 := Z7.out; have qZ8 := Z8.out; have qZ9 := Z9.out; have qZ10 := Z10.out; have qZ11 := Z11.out; have qZ12 := Z12.out; omega))
  replace G0B := hid (But.box MB G0B.out (fun hk => by have h1 := G0F_I.out _ hk; have qZ1 := Z1.out; have qZ2 := Z2.out; have qZ3 := Z3.out; have qS0K := S0K.out; have qS0K2 := S0K2.out; have qZ4 := Z4.out; have qZ5 := Z5.out; have qZ6 := Z6.out; have qZ7 := Z7.out; have qZ8 := Z8.out; have qZ9 := Z9.out; have qZ10 := Z10.out; have qZ11 := Z11.out; have qZ12 := Z12.out; omega))
  replace S0F_ := hid (But.own MB S0F_.out (fun k hk hk2 => by have h1 := G0F_I.out _ hk2; have h2 := S0F_I.out _ hk; have qZ1 := Z1.out; have qZ2 := Z2.out; have qZ3 := Z3.out; have qS0K := S0K.out; have qS0K2 := S0K2.out; have qZ4 := Z4.out; have qZ5 := Z5.out; have qZ6 := Z6.out; have qZ7 := Z7.out; have qZ8 := Z8.out; have qZ9 := Z9.out; have qZ10 := Z10.out; have qZ11 := Z11.out; have qZ12 := Z12.out; omega))
  replace EX := hid (But.below MB EX.out (fun k hk => by have h1 := G0F_I.out _ hk; have qZ1 := Z1.out; have qZ2 := Z2.out; have qZ3 := Z3.out; have qS0K := S0K.out; have qS0K2 := S0K2.out; have qZ4 := Z4.out; have qZ5 := Z5.out; have qZ6 := Z6.out; have qZ7 := Z7.out; have qZ8 := Z8.out; have qZ9 := Z9.out; have qZ10 := Z10.out; have qZ11 := Z11.out; have qZ12 := Z12.out; omega))
  replace G0F_ := hid MO
  clear MO MB
  obtain ⟨A00, A01, A02, A03, A0l⟩ := Box.cells4 A0.out
  obtain ⟨A10, A11, A12, A13, A1l⟩ := Box.cells4 A1.out
  obtain ⟨S0B0, S0B1, S0B2, S0B3, S0Bl⟩ := Box.cells4 S0B.out
  obtain ⟨X0B0, X0B1, X0B2, X0B3, X0Bl⟩ := Box.cells4 X0B.out
  obtain ⟨X1B0, X1B1, X1B2, X1B3, X1Bl⟩ := Box.cells4 X1B.out
  obtain ⟨G0B0, G0B1, G0B2, G0B3, G0Bl⟩ := Box.cells4 G0B.out
  go_wp2_with fail
  refine (heldFrame_any _ _ _ (1) _ _ _ _ _ G0F_.out hL0_0 (by omega)).mono ?_
  rintro e w14 ⟨rfl, E0⟩
  clear A00 A01 A02 A03 A0l A10 A11 A12 A13 A1l S0B0 S0B1 S0B2 S0B3 S0Bl X0B0 X0B1 X0B2 X0B3 X0Bl X1B0 X1B1 X1B2 X1B3 X1Bl G0B0 G0B1 G0B2 G0B3 G0Bl
  have EK := E0
  have Z14 := hid (show w13.heap.size ≤ w14.heap.size from Ext.size E0)
  replace A0 := hid (Box.ext A0.out EK)
  replace A1 := hid (Box.ext A1.out EK)
  replace S0B := hid (Box.ext S0B.out EK)
  replace X0B := hid (Box.ext X0B.out EK)
  replace X1B := hid (Box.ext X1B.out EK)
  replace G0B := hid (Box.ext G0B.out EK)
  replace S0F_ := hid (Own.ext S0F_.out EK)
  replace G0F_ := hid (Own.ext G0F_.out EK)
  replace EX := hid (Ext.trans EX.out EK)
  clear EK E0
  obtain ⟨A00, A01, A02, A03, A0l⟩ := Box.cells4 A0.out
  obtain ⟨A10, A11, A12, A13, A1l⟩ := Box.cells4 A1.out
  obtain ⟨S0B0, S0B1, S0B2, S0B3, S0Bl⟩ := Box.cells4 S0B.out
  obtain ⟨X0B0, X0B1, X0B2, X0B3, X0Bl⟩ := Box.cells4 X0B.out
  obtain ⟨X1B0, X1B1, X1B2, X1B3, X1Bl⟩ := Box.cells4 X1B.out
  obtain ⟨G0B0, G0B1, G0B2, G0B3, G0Bl⟩ := Box.cells4 G0B.out
  clear A00 A01 A02 A03 A0l A10 A11 A12 A13 A1l S0B0 S0B1 S0B2 S0B3 S0Bl X0B0 X0B1 X0B2 X0B3 X0Bl X1B0 X1B1 X1B2 X1B3 X1Bl G0B0 G0B1 G0B2 G0B3 G0Bl
  obtain ⟨A00, A01, A02, A03, A0l⟩ := Box.cells4 A0.out
  obtain ⟨A10, A11, A12, A13, A1l⟩ := Box.cells4 A1.out
  obtain ⟨S0B0, S0B1, S0B2, S0B3, S0Bl⟩ := Box.cells4 S0B.out
  obtain ⟨X0B0, X0B1, X0B2, X0B3, X0Bl⟩ := Box.cells4 X0B.out
  obtain ⟨X1B0, X1B1, X1B2, X1B3, X1Bl⟩ := Box.cells4 X1B.out
  obtain ⟨G0B0, G0B1, G0B2, G0B3, G0Bl⟩ := Box.cells4 G0B.out
  go_upto_region 31 with (fail)
  go_cut [17, 18] (fun s17 s18 wx => ∃ (H0k : Nat), ∃ (H0a : Option Addr), ∃ (H0c : Nat), ∃ (H0l : Nat), ∃ (H0t : Nat), ∃ (H0p : Nat), ∃ (H0z : List Nat), s17 = .pointer (some ⟨H0k, 0, none⟩) ∧ s18 = .bool R.ok ∧ Hid (Box wx H0k #[.slice H0a R.cs.length H0c, .float .f32 H0l, .float .f32 H0t, .float .f32 H0p]) ∧ Hid (w14.heap.size ≤ H0k) ∧ Hid (Own wx w14.heap.size R.cs.length (.slice H0a R.cs.length H0c) H0z) ∧ Hid (H0z.map (cls .f32) = R.cs) ∧ Hid (cls .f32 H0l = R.l) ∧ Hid (cls .f32 H0t = R.t) ∧ Hid (cls .f32 H0p = R.p) ∧ Ext w14 wx)
  case first =>
    go_region_held3 (fun w' => (w'.cell? ⟨w.heap.size, 0, none⟩ = some (.slice a0 n0 c0) ∧ w'.cell? ⟨w.heap.size, 1, none⟩ = some (.float .f32 l0) ∧ w'.cell? ⟨w.heap.size, 2, none⟩ = some (.float .f32 t0) ∧ w'.cell? ⟨w.heap.size, 3, none⟩ = some (.float .f32 p0)) ∧ (w'.cell? ⟨w.heap.size + 1, 0, none⟩ = some (.slice a1 n1 c1) ∧ w'.cell? ⟨w.heap.size + 1, 1, none⟩ = some (.float .f32 l1) ∧ w'.cell? ⟨w.heap.size + 1, 2, none⟩ = some (.float .f32 t1) ∧ w'.cell? ⟨w.heap.size + 1, 3, none⟩ = some (.float .f32 p1)))
      (first | (refine keep_of (c := w14) (S := fun w' => (w'.cell? ⟨w.heap.size, 0, none⟩ = some (.slice a0 n0 c0) ∧ w'.cell? ⟨w.heap.size, 1, none⟩ = some (.float .f32 l0) ∧ w'.cell? ⟨w.heap.size, 2, none⟩ = some (.float .f32 t0) ∧ w'.cell? ⟨w.heap.size, 3, none⟩ = some (.float .f32 p0)) ∧ (w'.cell? ⟨w.heap.size + 1, 0, none⟩ = some (.slice a1 n1 c1) ∧ w'.cell? ⟨w.heap.size + 1, 1, none⟩ = some (.float .f32 l1) ∧ w'.cell? ⟨w.heap.size + 1, 2, none⟩ = some (.float .f32 t1) ∧ w'.cell? ⟨w.heap.size + 1, 3, none⟩ = some (.float .f32 p1))) (fun u hu => ⟨⟨Box.cell (Box.ext A0.out hu) 0, Box.cell (Box.ext A0.out hu) 1, Box.cell (Box.ext A0.out hu) 2, Box.cell (Box.ext A0.out hu) 3⟩, ⟨Box.cell (Box.ext A1.out hu) 0, Box.cell (Box.ext A1.out hu) 1, Box.cell (Box.ext A1.out hu) 2, Box.cell (Box.ext A1.out hu) 3⟩⟩) ?_; ((repeat with_reducible (first | exact Ext.refl _ | exact ext_alloc _ _ | refine Ext.trans ?_ EC | refine Ext.trans ?_ ED0 | refine Ext.trans ?_ ED1 | refine Ext.drewN ?_ _ | refine Ext.drew1 ?_ | refine Ext.alloc ?_ _ | refine Ext.set ?_ ?_ _)); all_goals ((have s0 := Ext.size ED0; have s1 := Ext.size ED1; have sC := Ext.size EC; (try simp at s0); (try simp at s1); (try simp at sC); (first | omega | (simp; omega) | (simp; done)))))))
      (first | (go_at_call 28; with_reducible refine (toFrame_any _ _ _ _ _ _ z0 _ (IsRowF.ext Rw0.out (Ext.trans EX.out (by (repeat with_reducible (first | exact Ext.refl _ | exact ext_alloc _ _ | refine Ext.trans ?_ EC | refine Ext.trans ?_ ED0 | refine Ext.trans ?_ ED1 | refine Ext.drewN ?_ _ | refine Ext.drew1 ?_ | refine Ext.alloc ?_ _))))) hn0).mono ?_; rintro e wD0 ⟨Y0b, rfl, Y0F, ED0⟩) | (go_at_call 28; with_reducible refine (toFrame_any _ _ _ _ _ _ z1 _ (IsRowF.ext Rw1.out (Ext.trans EX.out (by (repeat with_reducible (first | exact Ext.refl _ | exact ext_alloc _ _ | refine Ext.trans ?_ EC | refine Ext.trans ?_ ED0 | refine Ext.trans ?_ ED1 | refine Ext.drewN ?_ _ | refine Ext.drew1 ?_ | refine Ext.alloc ?_ _))))) hn1).mono ?_; rintro e wD1 ⟨Y1b, rfl, Y1F, ED1⟩) | (go_at_call 39; refine (mixF_any _ _ _ _ _ _ _ _ _ _ _ _ _ (z0.take n0) (z1.take n1) R _ (own_hold (Own.ext Y0F (by (repeat with_reducible (first | exact Ext.refl _ | exact ext_alloc _ _ | refine Ext.trans ?_ EC | refine Ext.trans ?_ ED0 | refine Ext.trans ?_ ED1 | refine Ext.drewN ?_ _ | refine Ext.drew1 ?_ | refine Ext.alloc ?_ _))))) (own_hold (Own.ext Y1F (by (repeat with_reducible (first | exact Ext.refl _ | exact ext_alloc _ _ | refine Ext.trans ?_ EC | refine Ext.trans ?_ ED0 | refine Ext.trans ?_ ED1 | refine Ext.drewN ?_ _ | refine Ext.drew1 ?_ | refine Ext.alloc ?_ _))))) hn0 hn1 HR.out).mono ?_; rintro e wC ⟨Hv0, rfl, HT0, EC⟩; obtain ⟨H0a, H0c, H0l, H0t, H0p, H0z, rfl, H0F, H0e, H0el, H0et, H0ep⟩ := HT0; try (apply with_box (w' := wC) (vs := #[.slice none 0 0, .float .f32 0, .float .f32 0, .float .f32 0]) (t := 47); (· (repeat with_reducible (first | exact Ext.refl _ | exact ext_alloc _ _ | refine Ext.trans ?_ EC | refine Ext.trans ?_ ED0 | refine Ext.trans ?_ ED1 | refine Ext.drewN ?_ _ | refine Ext.drew1 ?_ | refine Ext.alloc ?_ _))); intro BN; obtain ⟨bn0, bn1, bn2, bn3, bf0, bf1, bf2, bf3, bnl⟩ := Box.all4 BN)))
    all_goals
      go_wp2_with fail
      go_meet
      refine ⟨_, H0a, H0c, H0l, H0t, H0p, H0z, rfl, rfl, ?_, ?_, ?_, ?_, ?_, ?_, ?_, ?_⟩
      · first | with_reducible exact hid (box_new _ _) | exact hid (box_set4 BN _ _ _ _ )
      · refine hid ?_
        ((have s0 := Ext.size ED0; have s1 := Ext.size ED1; have sC := Ext.size EC; (try simp at s0); (try simp at s1); (try simp at sC); (first | omega | (simp; omega) | (simp; done))))
      · refine hid ?_
        first | (with_reducible refine Own.base (Own.alloc H0F _) ?_; ((have s0 := Ext.size ED0; have s1 := Ext.size ED1; have sC := Ext.size EC; (try simp at s0); (try simp at s1); (try simp at sC); (first | omega | (simp; omega) | (simp; done))))) | (refine Own.base (own_far4 H0F ?_ _ _ _ _ ) ?_; all_goals ((have s0 := Ext.size ED0; have s1 := Ext.size ED1; have sC := Ext.size EC; (try simp at s0); (try simp at s1); (try simp at sC); (first | omega | (simp; omega) | (simp; done)))))
      · exact hid H0e
      · exact hid H0el
      · exact hid H0et
      · exact hid H0ep
      · ((repeat with_reducible (first | exact Ext.refl _ | exact ext_alloc _ _ | refine Ext.trans ?_ EC | refine Ext.trans ?_ ED0 | refine Ext.trans ?_ ED1 | refine Ext.drewN ?_ _ | refine Ext.drew1 ?_ | refine Ext.alloc ?_ _ | refine Ext.set ?_ ?_ _)); all_goals ((have s0 := Ext.size ED0; have s1 := Ext.size ED1; have sC := Ext.size EC; (try simp at s0); (try simp at s1); (try simp at sC); (first | omega | (simp; omega) | (simp; done)))))
  obtain ⟨H0k, H0a, H0c, H0l, H0t, H0p, H0z, rfl, rfl, H0B, H0K, H0F_, H0e, H0el, H0et, H0ep, EC⟩ := hcut
  obtain ⟨w15, hwS⟩ : ∃ u, u = wc := ⟨_, rfl⟩
  subst hwS
  clear A00 A01 A02 A03 A0l A10 A11 A12 A13 A1l S0B0 S0B1 S0B2 S0B3 S0Bl X0B0 X0B1 X0B2 X0B3 X0Bl X1B0 X1B1 X1B2 X1B3 X1Bl G0B0 G0B1 G0B2 G0B3 G0Bl
  have Z15 := hid (show w14.heap.size ≤ w15.heap.size from Ext.size EC)
  replace A0 := hid (Box.ext A0.out EC)
  replace A1 := hid (Box.ext A1.out EC)
  replace S0B := hid (Box.ext S0B.out EC)
  replace X0B := hid (Box.ext X0B.out EC)
  replace X1B := hid (Box.ext X1B.out EC)
  replace G0B := hid (Box.ext G0B.out EC)
  replace S0F_ := hid (Own.ext S0F_.out EC)
  replace G0F_ := hid (Own.ext G0F_.out EC)
  replace EX := hid (Ext.trans EX.out EC)
  clear EC
  have H0K2 := hid (show H0k < w15.heap.size from Box.lt H0B.out)
  have H0F_I := hid (Own.block H0F_.out)
  obtain ⟨A00, A01, A02, A03, A0l⟩ := Box.cells4 A0.out
  obtain ⟨A10, A11, A12, A13, A1l⟩ := Box.cells4 A1.out
  obtain ⟨S0B0, S0B1, S0B2, S0B3, S0Bl⟩ := Box.cells4 S0B.out
  obtain ⟨X0B0, X0B1, X0B2, X0B3, X0Bl⟩ := Box.cells4 X0B.out
  obtain ⟨X1B0, X1B1, X1B2, X1B3, X1Bl⟩ := Box.cells4 X1B.out
  obtain ⟨G0B0, G0B1, G0B2, G0B3, G0Bl⟩ := Box.cells4 G0B.out
  obtain ⟨H0B0, H0B1, H0B2, H0B3, H0Bl⟩ := Box.cells4 H0B.out
  go_wp2_with fail
  refine (eqFrame_yes _ _ _ _ _ _ _ _ _ _ _ H0z S0z _ (own_hold H0F_.out) (own_hold S0F_.out) hL0_0 (by rw [H0e.out, S0e.out]) (by rw [H0el.out, S0el.out]) (by rw [H0et.out, S0et.out]) (by rw [H0ep.out, S0ep.out])).mono ?_
  rintro e w16 ⟨rfl, E0⟩
  clear A00 A01 A02 A03 A0l A10 A11 A12 A13 A1l S0B0 S0B1 S0B2 S0B3 S0Bl X0B0 X0B1 X0B2 X0B3 X0Bl X1B0 X1B1 X1B2 X1B3 X1Bl G0B0 G0B1 G0B2 G0B3 G0Bl H0B0 H0B1 H0B2 H0B3 H0Bl
  have EK := E0
  have Z16 := hid (show w15.heap.size ≤ w16.heap.size from Ext.size E0)
  replace A0 := hid (Box.ext A0.out EK)
  replace A1 := hid (Box.ext A1.out EK)
  replace S0B := hid (Box.ext S0B.out EK)
  replace X0B := hid (Box.ext X0B.out EK)
  replace X1B := hid (Box.ext X1B.out EK)
  replace G0B := hid (Box.ext G0B.out EK)
  replace H0B := hid (Box.ext H0B.out EK)
  replace S0F_ := hid (Own.ext S0F_.out EK)
  replace G0F_ := hid (Own.ext G0F_.out EK)
  replace H0F_ := hid (Own.ext H0F_.out EK)
  replace EX := hid (Ext.trans EX.out EK)
  clear EK E0
  obtain ⟨A00, A01, A02, A03, A0l⟩ := Box.cells4 A0.out
  obtain ⟨A10, A11, A12, A13, A1l⟩ := Box.cells4 A1.out
  obtain ⟨S0B0, S0B1, S0B2, S0B3, S0Bl⟩ := Box.cells4 S0B.out
  obtain ⟨X0B0, X0B1, X0B2, X0B3, X0Bl⟩ := Box.cells4 X0B.out
  obtain ⟨X1B0, X1B1, X1B2, X1B3, X1Bl⟩ := Box.cells4 X1B.out
  obtain ⟨G0B0, G0B1, G0B2, G0B3, G0Bl⟩ := Box.cells4 G0B.out
  obtain ⟨H0B0, H0B1, H0B2, H0B3, H0Bl⟩ := Box.cells4 H0B.out
  go_wp2_with fail
  refine (heldFrame_any _ _ _ (1) _ _ _ _ _ G0F_.out hL0_0 (by omega)).mono ?_
  rintro e w17 ⟨rfl, E0⟩
  clear A00 A01 A02 A03 A0l A10 A11 A12 A13 A1l S0B0 S0B1 S0B2 S0B3 S0Bl X0B0 X0B1 X0B2 X0B3 X0Bl X1B0 X1B1 X1B2 X1B3 X1Bl G0B0 G0B1 G0B2 G0B3 G0Bl H0B0 H0B1 H0B2 H0B3 H0Bl
  have EK := E0
  have Z17 := hid (show w16.heap.size ≤ w17.heap.size from Ext.size E0)
  replace A0 := hid (Box.ext A0.out EK)
  replace A1 := hid (Box.ext A1.out EK)
  replace S0B := hid (Box.ext S0B.out EK)
  replace X0B := hid (Box.ext X0B.out EK)
  replace X1B := hid (Box.ext X1B.out EK)
  replace G0B := hid (Box.ext G0B.out EK)
  replace H0B := hid (Box.ext H0B.out EK)
  replace S0F_ := hid (Own.ext S0F_.out EK)
  replace G0F_ := hid (Own.ext G0F_.out EK)
  replace H0F_ := hid (Own.ext H0F_.out EK)
  replace EX := hid (Ext.trans EX.out EK)
  clear EK E0
  obtain ⟨A00, A01, A02, A03, A0l⟩ := Box.cells4 A0.out
  obtain ⟨A10, A11, A12, A13, A1l⟩ := Box.cells4 A1.out
  obtain ⟨S0B0, S0B1, S0B2, S0B3, S0Bl⟩ := Box.cells4 S0B.out
  obtain ⟨X0B0, X0B1, X0B2, X0B3, X0Bl⟩ := Box.cells4 X0B.out
  obtain ⟨X1B0, X1B1, X1B2, X1B3, X1Bl⟩ := Box.cells4 X1B.out
  obtain ⟨G0B0, G0B1, G0B2, G0B3, G0Bl⟩ := Box.cells4 G0B.out
  obtain ⟨H0B0, H0B1, H0B2, H0B3, H0Bl⟩ := Box.cells4 H0B.out
  go_wp2
  go_ret
  exact ⟨rfl, EX.out⟩
end Go.Proofs.Ythinjgiakaflpaa
