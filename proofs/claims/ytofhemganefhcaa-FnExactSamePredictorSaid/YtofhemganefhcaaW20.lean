/- Predictors that are the same. -/
import Derived.Test.YtofhemganefhcaaW19
import Derived.Test.YtofhemganefhcaaW9
import Derived.Test.YtofhemganefhcaaT18
import Derived.Deep.RegionHeld3
namespace Go.Proofs.Ytofhemganefhcaa
open Go.RowKit Flt
set_option linter.unusedVariables false

set_option maxHeartbeats 4000000 in
set_option maxRecDepth 100000 in
theorem samePred_any (a1 a2 : Option Addr) (n m c1 c2 g1 g2 : Nat) (xs ys : List Nat) (V : Bool) (w : World) (h1 : Holds .f32 w a1 n xs) (h2 : Holds .f32 w a2 m ys) (hn : n ≤ 1048576) (hm : m ≤ 1048576) (k1 : Words n xs) (k2 : Words m ys) (f1 : g1 < 4294967296) (f2 : g2 < 4294967296) (hV : (eqW g1 g2 && sameB xs ys) = V) :
    Calls Try.prog 21 #[.agg #[.slice a1 n c1, .float .f32 g1], .agg #[.slice a2 m c2, .float .f32 g2]] w fun e w' => e = .returned (.bool V) ∧ Ext w w' := by
  have H1 := hid h1
  have H2 := hid h2
  have K1 := hid k1
  have K2 := hid k2
  have HN := hid hn
  have HM := hid hm
  have G1 := hid f1
  have G2 := hid f2
  have L1 := hid h1.1
  have L2 := hid h2.1
  clear h1 h2 k1 k2 hn hm f1 f2
  cases hG : eqW g1 g2
  · have HZ := hid (show V = false from by rw [← hV, hG]; rfl)
    clear hV
    have SN : ∀ u, Calls Try.prog 54 #[.float .f32 g1, .float .f32 g2] u fun e w' => e = .returned (.bool false) ∧ ∃ q, w' = u.drewN q := fun u => by
      refine (same_eq g1 g2 G1.out G2.out u).mono ?_
      rintro e w' ⟨rfl, q, rfl⟩
      exact ⟨by rw [hG], q, rfl⟩
    go_enter Try.func21, Try.ntmps21
    go_wp2_with fail
    obtain ⟨w0, hw0⟩ : ∃ u, u = ((w.alloc (.cells #[.slice a1 n c1, .float .f32 g1] 28)).alloc (.cells #[.slice a2 m c2, .float .f32 g2] 28)) := ⟨_, rfl⟩
    rw [← hw0]
    have EX := hid (show Ext w w0 from by rw [hw0]; (repeat with_reducible (first | exact Ext.refl _ | exact ext_alloc _ _ | refine Ext.drewN ?_ _ | refine Ext.drew1 ?_ | refine Ext.set ?_ (by dsimp only; omega) _ | refine Ext.alloc ?_ _)))
    have A : Hid (Box w0 w.heap.size #[.slice a1 n c1, .float .f32 g1]) := by rw [hw0]; exact hid (Box.alloc (box_new (w := w) #[.slice a1 n c1, .float .f32 g1] 28) _)
    have B : Hid (Box w0 (w.heap.size + 1) #[.slice a2 m c2, .float .f32 g2]) := by rw [hw0]; exact hid (Box.cast' (box_new (w := w.alloc (.cells #[.slice a1 n c1, .float .f32 g1] 28)) #[.slice a2 m c2, .float .f32 g2] 28) (by simp))
    have Z := hid (show w0.heap.size = w.heap.size + 2 from by rw [hw0]; simp)
    clear hw0
    obtain ⟨A0, A1, Al⟩ := Box.cells2 A.out
    obtain ⟨B0, B1, Bl⟩ := Box.cells2 B.out
    go_wp2_with fail
    go_quiet (first | (go_at_call 54; refine Calls.quiet_of (v := .bool false) ?_; with_reducible exact SN _))
    go_wp2
    go_ret
    refine ⟨by first | rfl | (rw [HZ.out]; done) | (rw [HZ.out]; rfl), ?_⟩
    exact Ext.trans EX.out (by (repeat with_reducible (first | exact Ext.refl _ | exact ext_alloc _ _ | refine Ext.drewN ?_ _ | refine Ext.drew1 ?_ | refine Ext.set ?_ (by dsimp only; omega) _ | refine Ext.alloc ?_ _)))

  have HV := hid (show sameB xs ys = V from by rw [← hV, hG]; simp)
  clear hV
  by_cases hnm : n = m
  rotate_left
  · have HZ := hid (show V = false from by rw [← HV.out]; exact same_len (by rw [L1.out, L2.out]; exact hnm))
    have hne : ¬ ((n : Int) = (m : Int)) := by omega
    clear hnm
    have SN : ∀ u, Calls Try.prog 54 #[.float .f32 g1, .float .f32 g2] u fun e w' => e = .returned (.bool true) ∧ ∃ q, w' = u.drewN q := fun u => by
      refine (same_eq g1 g2 G1.out G2.out u).mono ?_
      rintro e w' ⟨rfl, q, rfl⟩
      exact ⟨by rw [hG], q, rfl⟩
    go_enter Try.func21, Try.ntmps21
    go_wp2_with fail
    obtain ⟨w0, hw0⟩ : ∃ u, u = ((w.alloc (.cells #[.slice a1 n c1, .float .f32 g1] 28)).alloc (.cells #[.slice a2 m c2, .float .f32 g2] 28)) := ⟨_, rfl⟩
    rw [← hw0]
    have EX := hid (show Ext w w0 from by rw [hw0]; (repeat with_reducible (first | exact Ext.refl _ | exact ext_alloc _ _ | refine Ext.drewN ?_ _ | refine Ext.drew1 ?_ | refine Ext.set ?_ (by dsimp only; omega) _ | refine Ext.alloc ?_ _)))
    have A : Hid (Box w0 w.heap.size #[.slice a1 n c1, .float .f32 g1]) := by rw [hw0]; exact hid (Box.alloc (box_new (w := w) #[.slice a1 n c1, .float .f32 g1] 28) _)
    have B : Hid (Box w0 (w.heap.size + 1) #[.slice a2 m c2, .float .f32 g2]) := by rw [hw0]; exact hid (Box.cast' (box_new (w := w.alloc (.cells #[.slice a1 n c1, .float .f32 g1] 28)) #[.slice a2 m c2, .float .f32 g2] 28) (by simp))
    have Z := hid (show w0.heap.size = w.heap.size + 2 from by rw [hw0]; simp)
    clear hw0
    obtain ⟨A0, A1, Al⟩ := Box.cells2 A.out
    obtain ⟨B0, B1, Bl⟩ := Box.cells2 B.out
    go_wp2_with fail
    go_quiet (first | (go_at_call 54; refine Calls.quiet_of (v := .bool true) ?_; with_reducible exact SN _))
    go_wp2
    go_ret
    refine ⟨by first | rfl | (rw [HZ.out]; done) | (rw [HZ.out]; rfl), ?_⟩
    exact Ext.trans EX.out (by (repeat with_reducible (first | exact Ext.refl _ | exact ext_alloc _ _ | refine Ext.drewN ?_ _ | refine Ext.drew1 ?_ | refine Ext.set ?_ (by dsimp only; omega) _ | refine Ext.alloc ?_ _)))

  subst hnm
  have SN : ∀ u, Calls Try.prog 54 #[.float .f32 g1, .float .f32 g2] u fun e w' => e = .returned (.bool true) ∧ Ext u w' := fun u => by
    refine (same_eq g1 g2 G1.out G2.out u).mono ?_
    rintro e w' ⟨rfl, q, rfl⟩
    exact ⟨by rw [hG], Ext.drewN (Ext.refl _) _⟩
  have HLL := hid (show xs.length = ys.length from by rw [L1.out, L2.out])
  have HLN := hid (show rowN n = rowN xs.length from by rw [L1.out])
  have HLB := hid (show rowN n ≤ 1048591 from by have h8 := HN.out; have h9 := rowN_le n; omega)
  have HZ := hid HV.out.symm
  go_enter Try.func21, Try.ntmps21
  go_wp2_with fail
  obtain ⟨w0, hw0⟩ : ∃ u, u = ((w.alloc (.cells #[.slice a1 n c1, .float .f32 g1] 28)).alloc (.cells #[.slice a2 n c2, .float .f32 g2] 28)) := ⟨_, rfl⟩
  rw [← hw0]
  have EX := hid (show Ext w w0 from by rw [hw0]; (repeat with_reducible (first | exact Ext.refl _ | exact ext_alloc _ _ | refine Ext.drewN ?_ _ | refine Ext.drew1 ?_ | refine Ext.set ?_ (by dsimp only; omega) _ | refine Ext.alloc ?_ _)))
  have A : Hid (Box w0 w.heap.size #[.slice a1 n c1, .float .f32 g1]) := by rw [hw0]; exact hid (Box.alloc (box_new (w := w) #[.slice a1 n c1, .float .f32 g1] 28) _)
  have B : Hid (Box w0 (w.heap.size + 1) #[.slice a2 n c2, .float .f32 g2]) := by rw [hw0]; exact hid (Box.cast' (box_new (w := w.alloc (.cells #[.slice a1 n c1, .float .f32 g1] 28)) #[.slice a2 n c2, .float .f32 g2] 28) (by simp))
  have Z := hid (show w0.heap.size = w.heap.size + 2 from by rw [hw0]; simp)
  clear hw0
  obtain ⟨A0, A1, Al⟩ := Box.cells2 A.out
  obtain ⟨B0, B1, Bl⟩ := Box.cells2 B.out
  go_wp2_with fail
  go_region_held3 (fun w' => (w'.cell? ⟨w.heap.size, 0, none⟩ = some (.slice a1 n c1) ∧ w'.cell? ⟨w.heap.size, 1, none⟩ = some (.float .f32 g1)) ∧ (w'.cell? ⟨w.heap.size + 1, 0, none⟩ = some (.slice a2 n c2) ∧ w'.cell? ⟨w.heap.size + 1, 1, none⟩ = some (.float .f32 g2)))
    (first | (refine keep_of (c := w0) (S := fun w' => (w'.cell? ⟨w.heap.size, 0, none⟩ = some (.slice a1 n c1) ∧ w'.cell? ⟨w.heap.size, 1, none⟩ = some (.float .f32 g1)) ∧ (w'.cell? ⟨w.heap.size + 1, 0, none⟩ = some (.slice a2 n c2) ∧ w'.cell? ⟨w.heap.size + 1, 1, none⟩ = some (.float .f32 g2))) (fun u hu => ⟨⟨Box.cell (Box.ext A.out hu) 0, Box.cell (Box.ext A.out hu) 1⟩, ⟨Box.cell (Box.ext B.out hu) 0, Box.cell (Box.ext B.out hu) 1⟩⟩) ?_; (repeat with_reducible (first | exact Ext.refl _ | exact ext_alloc _ _ | refine Ext.trans ?_ ED | refine Ext.trans ?_ EC | refine Ext.trans ?_ EB | refine Ext.trans ?_ EA | refine Ext.drewN ?_ _ | refine Ext.drew1 ?_ | refine Ext.alloc ?_ _))))
    (first | (go_at_call 54; refine (SN _).mono ?_; rintro e wA ⟨rfl, EA⟩) | (go_at_call 56; with_reducible refine (bitsInRows_any a1 n c1 xs _ (Holds.ext H1.out (Ext.trans EX.out (by (repeat with_reducible (first | exact Ext.refl _ | exact ext_alloc _ _ | refine Ext.trans ?_ ED | refine Ext.trans ?_ EC | refine Ext.trans ?_ EB | refine Ext.trans ?_ EA | refine Ext.drewN ?_ _ | refine Ext.drew1 ?_ | refine Ext.alloc ?_ _))))) HN.out K1.out).mono ?_; rintro e wB ⟨b1, rfl, OB, EB⟩) | (go_at_call 56; with_reducible refine (bitsInRows_any a2 n c2 ys _ (Holds.ext H2.out (Ext.trans EX.out (by (repeat with_reducible (first | exact Ext.refl _ | exact ext_alloc _ _ | refine Ext.trans ?_ ED | refine Ext.trans ?_ EC | refine Ext.trans ?_ EB | refine Ext.trans ?_ EA | refine Ext.drewN ?_ _ | refine Ext.drew1 ?_ | refine Ext.alloc ?_ _))))) HN.out K2.out).mono ?_; rintro e wC ⟨b2, rfl, OC, EC⟩) | (go_at_call 55; refine (sameRows_any b1 b2 (rowN n) _ _ xs ys _ (HoldsI.ext (ownI_hold OB) (by (repeat with_reducible (first | exact Ext.refl _ | exact ext_alloc _ _ | refine Ext.trans ?_ ED | refine Ext.trans ?_ EC | refine Ext.trans ?_ EB | refine Ext.trans ?_ EA | refine Ext.drewN ?_ _ | refine Ext.drew1 ?_ | refine Ext.alloc ?_ _)))) (HoldsI.ext (ownI_hold OC) (by (repeat with_reducible (first | exact Ext.refl _ | exact ext_alloc _ _ | refine Ext.trans ?_ ED | refine Ext.trans ?_ EC | refine Ext.trans ?_ EB | refine Ext.trans ?_ EA | refine Ext.drewN ?_ _ | refine Ext.drew1 ?_ | refine Ext.alloc ?_ _)))) HLL.out HLN.out HLB.out (Nat.le_refl _) (Nat.le_refl _)).mono ?_; rintro e wD ⟨rfl, mD, rfl⟩))
  all_goals
    go_wp2_with fail
    go_returns
    refine ⟨by first | rfl | (rw [HZ.out]; done) | (rw [HZ.out]; rfl), ?_⟩
    exact Ext.trans EX.out (by (repeat with_reducible (first | exact Ext.refl _ | exact ext_alloc _ _ | refine Ext.trans ?_ ED | refine Ext.trans ?_ EC | refine Ext.trans ?_ EB | refine Ext.trans ?_ EA | refine Ext.drewN ?_ _ | refine Ext.drew1 ?_ | refine Ext.alloc ?_ _)))

set_option maxHeartbeats 4000000 in
set_option maxRecDepth 100000 in
theorem l04Same_any (b1 b2 : Nat) (a1 a2 : Option Addr) (n m c1 c2 g1 g2 : Nat) (xs ys : List Nat) (V : Bool) (w : World) (A : Box w b1 #[.slice a1 n c1, .float .f32 g1]) (B : Box w b2 #[.slice a2 m c2, .float .f32 g2]) (h1 : Holds .f32 w a1 n xs) (h2 : Holds .f32 w a2 m ys) (hn : n ≤ 1048576) (hm : m ≤ 1048576) (k1 : Words n xs) (k2 : Words m ys) (f1 : g1 < 4294967296) (f2 : g2 < 4294967296) (hV : (eqW g1 g2 && sameB xs ys) = V) :
    Calls Try.prog 53 #[.pointer (some ⟨b1, 0, none⟩), .pointer (some ⟨b2, 0, none⟩)] w fun e w' => e = .returned (.bool V) ∧ ∃ q, w' = w.drewN q := by
  have HA := hid A
  have HB := hid B
  clear A B
  have H1 := hid h1
  have H2 := hid h2
  have K1 := hid k1
  have K2 := hid k2
  have HN := hid hn
  have HM := hid hm
  have G1 := hid f1
  have G2 := hid f2
  have L1 := hid h1.1
  have L2 := hid h2.1
  clear h1 h2 k1 k2 hn hm f1 f2
  cases hS : sameB xs ys
  · have HZ := hid (show V = false from by rw [← hV, hS]; simp)
    clear hV
    go_enter Try.func53, Try.ntmps53
    obtain ⟨A0, A1, Al⟩ := Box.cells2 HA.out
    obtain ⟨B0, B1, Bl⟩ := Box.cells2 HB.out
    go_wp2_with fail
    go_quiet (first | (go_at_call 92; refine Calls.quiet_of (v := .bool false) ?_; with_reducible refine (l01SameAll_any _ _ _ _ _ _ xs ys _ (Holds.drew H1.out _) (Holds.drew H2.out _) HN.out HM.out K1.out K2.out).mono ?_; rintro e wA ⟨rfl, mA, rfl⟩; exact ⟨by rw [hS], mA, rfl⟩))
    go_wp2
    go_ret
    exact ⟨by rw [HZ.out]; rfl, _, rfl⟩
  cases hG : eqW g1 g2
  · have HZ := hid (show V = false from by rw [← hV, hS, hG]; rfl)
    clear hV
    go_enter Try.func53, Try.ntmps53
    obtain ⟨A0, A1, Al⟩ := Box.cells2 HA.out
    obtain ⟨B0, B1, Bl⟩ := Box.cells2 HB.out
    go_wp2_with fail
    go_quiet (first | (go_at_call 92; refine Calls.quiet_of (v := .bool true) ?_; with_reducible refine (l01SameAll_any _ _ _ _ _ _ xs ys _ (Holds.drew H1.out _) (Holds.drew H2.out _) HN.out HM.out K1.out K2.out).mono ?_; rintro e wA ⟨rfl, mA, rfl⟩; exact ⟨by rw [hS], mA, rfl⟩) | (go_at_call 93; refine Calls.quiet_of_same (v := .bool false) ?_; with_reducible refine (l01Same_eq g1 g2 G1.out G2.out _).mono ?_; rintro e wB ⟨rfl, rfl⟩; exact ⟨by rw [hG], rfl⟩))
    go_wp2
    go_ret
    exact ⟨by rw [HZ.out]; rfl, _, rfl⟩
  · have HZ := hid (show V = true from by rw [← hV, hS, hG]; rfl)
    clear hV
    go_enter Try.func53, Try.ntmps53
    obtain ⟨A0, A1, Al⟩ := Box.cells2 HA.out
    obtain ⟨B0, B1, Bl⟩ := Box.cells2 HB.out
    go_wp2_with fail
    go_quiet (first | (go_at_call 92; refine Calls.quiet_of (v := .bool true) ?_; with_reducible refine (l01SameAll_any _ _ _ _ _ _ xs ys _ (Holds.drew H1.out _) (Holds.drew H2.out _) HN.out HM.out K1.out K2.out).mono ?_; rintro e wA ⟨rfl, mA, rfl⟩; exact ⟨by rw [hS], mA, rfl⟩) | (go_at_call 93; refine Calls.quiet_of_same (v := .bool true) ?_; with_reducible refine (l01Same_eq g1 g2 G1.out G2.out _).mono ?_; rintro e wB ⟨rfl, rfl⟩; exact ⟨by rw [hG], rfl⟩))
    go_wp2
    go_ret
    exact ⟨by rw [HZ.out]; rfl, _, rfl⟩
set_option maxHeartbeats 2000000 in
theorem sSamePred_any (a1 a2 : Option Addr) (n m c1 c2 g1 g2 : Nat) (xs ys : List Nat) (V : Bool) (w : World) (h1 : Holds .f32 w a1 n xs) (h2 : Holds .f32 w a2 m ys) (hn : n ≤ 1048576) (hm : m ≤ 1048576) (k1 : Words n xs) (k2 : Words m ys) (f1 : g1 < 4294967296) (f2 : g2 < 4294967296) (hV : (eqW g1 g2 && sameB xs ys) = V) :
    Calls Try.prog 20 #[.agg #[.slice a1 n c1, .float .f32 g1], .agg #[.slice a2 m c2, .float .f32 g2]] w fun e w' => e = .returned (.bool V) ∧ Ext w w' := by
  have H1 := hid h1
  have H2 := hid h2
  have K1 := hid k1
  have K2 := hid k2
  have HN := hid hn
  have HM := hid hm
  have G1 := hid f1
  have G2 := hid f2
  have L1 := hid h1.1
  have L2 := hid h2.1
  clear h1 h2 k1 k2 hn hm f1 f2
  have HV := hid hV
  clear hV
  go_enter Try.func20, Try.ntmps20
  go_wp2_with fail
  refine (l04Same_any _ _ _ _ _ _ _ _ _ _ xs ys V _ (Box.alloc (box_new _ _) _) (Box.cast (box_new _ _) (by simp)) (Holds.alloc (Holds.alloc H1.out _) _) (Holds.alloc (Holds.alloc H2.out _) _) HN.out HM.out K1.out K2.out G1.out G2.out HV.out).mono ?_
  rintro e w1 ⟨rfl, q1, rfl⟩
  go_wp2
  go_ret
  refine ⟨rfl, ?_⟩
  (repeat with_reducible (first | exact Ext.refl _ | exact ext_alloc _ _ | refine Ext.drewN ?_ _ | refine Ext.drew1 ?_ | refine Ext.set ?_ (by dsimp only; omega) _ | refine Ext.alloc ?_ _))
end Go.Proofs.Ytofhemganefhcaa
