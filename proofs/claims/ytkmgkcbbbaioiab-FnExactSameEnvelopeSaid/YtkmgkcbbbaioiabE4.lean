/- Envelopes that are the same. -/
import Derived.Test.YtkmgkcbbbaioiabE3
import Derived.Test.YtkmgkcbbbaioiabT17
namespace Go.Proofs.Ytkmgkcbbbaioiab
open Go.RowKit Flt
set_option linter.unusedVariables false

def sameI (ts us : List Int) : Bool := decide (ts.length = us.length) && (List.range ts.length).all fun q => decide (ts.getD q 0 = us.getD q 0)
theorem sameI_bad {ts us : List Int} {q : Nat} (hq : q < ts.length) (h : ts.getD q 0 ≠ us.getD q 0) : sameI ts us = false := by
  have : ((List.range ts.length).all fun q => decide (ts.getD q 0 = us.getD q 0)) = false := by
    rw [List.all_eq_false]
    exact ⟨q, List.mem_range.2 hq, by simp only [decide_eq_true_eq]; exact h⟩
  unfold sameI; rw [this]; simp
theorem sameI_good {ts us : List Int} (hl : ts.length = us.length) (h : ∀ q, q < ts.length → ts.getD q 0 = us.getD q 0) : sameI ts us = true := by
  have : ((List.range ts.length).all fun q => decide (ts.getD q 0 = us.getD q 0)) = true := List.all_eq_true.2 fun q hq => decide_eq_true (h q (List.mem_range.1 hq))
  unfold sameI; rw [this]; simp [hl]
theorem sameI_len {ts us : List Int} (h : ts.length ≠ us.length) : sameI ts us = false := by unfold sameI; rw [decide_eq_false h]; rfl
def sameE (ts us : List Int) (zs ys : List Nat) : Bool := sameI ts us && sameB zs ys
set_option maxHeartbeats 1000000 in
set_option maxRecDepth 100000 in
theorem equalI_any (a1 a2 : Option Addr) (n m c1 c2 : Nat) (ts us : List Int) (w : World) (h1 : HoldsI w a1 n ts) (h2 : HoldsI w a2 m us) (hn : n ≤ 1048576) (hm : m ≤ 1048576) :
    Calls Try.prog 59 #[.slice a1 n c1, .slice a2 m c2] w fun e w' => e = .returned (.bool (sameI ts us)) ∧ ∃ q, w' = w.drewN q := by
  have L1 := hid h1.1
  have L2 := hid h2.1
  by_cases hnm : n = m
  rotate_left
  · have HZ := hid (show sameI ts us = false from sameI_len (by rw [L1.out, L2.out]; exact hnm))
    have hne : ¬ ((n : Int) = (m : Int)) := by omega
    clear h1 h2 hnm
    go_enter Try.func59, Try.ntmps59
    go_wp2
    go_ret
    exact ⟨by rw [HZ.out]; rfl, 0, rfl⟩
  subst hnm
  have H1 := hid h1
  have H2 := hid h2
  clear h1 h2
  go_enter Try.func59, Try.ntmps59
  go_wp2
  go_loopw [13] (fun i wr => ∃ k : Nat, k ≤ n ∧ i = .int .i64 k ∧ Hid (∀ q, q < k → ts.getD q 0 = us.getD q 0) ∧ Hid (∃ q, wr = w.drewN q)) (fun i _ => n - (intOf i).toNat)
  case atStart => exact ⟨0, Nat.zero_le _, rfl, hid (fun q hq => by omega), 0, rfl⟩
  case round =>
    obtain ⟨k, hk, rfl, hr, hw⟩ := hrel
    by_cases hlt : k < n
    · have E0 : Ext w wr := by obtain ⟨q, hq⟩ := hw.out; rw [hq]; exact Ext.drewN (Ext.refl _) _
      obtain ⟨b1, o1, rfl, e1⟩ := cellI_at H1.out E0 k hlt
      obtain ⟨b2, o2, rfl, e2⟩ := cellI_at H2.out E0 k hlt
      clear E0
      have HD := hid (sameI_bad (ts := ts) (us := us) (q := k) (by rw [L1.out]; exact hlt))
      have HU := hid (upto_succ (P := fun q => ts.getD q 0 = us.getD q 0) (k := k) hr.out)
      generalize ts.getD k 0 = x at e1 HD HU
      generalize us.getD k 0 = y at e2 HD HU
      have i0 : (0 : Int) ≤ (k : Int) := by omega
      have i1 : (k : Int) < (n : Int) := by omega
      by_cases hxy : x = y
      · have HG := hid (HU.out hxy)
        subst hxy
        go_wp2
        go_quiet (fail)
        go_wp2
        go_roundw
        case rel => exact ⟨k + 1, by omega, by go_num, HG, by obtain ⟨m2, hm2⟩ := hw.out; exact ⟨m2 + nq, by rw [hm2, World.drewN_drewN]⟩⟩
        case measure => simp [intOf]; omega
      · have HB := hid (HD.out hxy)
        have hbe : (x == y) = false := by simpa using hxy
        go_wp2
        go_quiet (fail)
        go_wp2
        go_ret
        exact ⟨by rw [HB.out]; rfl, by obtain ⟨m2, hm2⟩ := hw.out; exact ⟨m2 + nq, by rw [hm2, World.drewN_drewN]⟩⟩
    · have hkn : k = n := by omega
      subst hkn
      have HG := hid (show sameI ts us = true from sameI_good (by rw [L1.out, L2.out]) (fun q hq => hr.out q (by rw [L1.out] at hq; exact hq)))
      go_wp2
      go_ret
      exact ⟨by rw [HG.out]; rfl, hw.out⟩
set_option maxHeartbeats 1000000 in
set_option maxRecDepth 100000 in
theorem sameEnv_any (a1 b1 a2 b2 : Option Addr) (n c1 m d1 n2 c2 m2 d2 : Nat) (ts us : List Int) (zs ys : List Nat) (V : Bool) (w : World) (h1 : HoldsI w a1 n ts) (k1 : Holds .f32 w b1 m zs) (h2 : HoldsI w a2 n2 us) (k2 : Holds .f32 w b2 m2 ys) (hn : n ≤ 1048576) (hm : m ≤ 1048576) (hn2 : n2 ≤ 1048576) (hm2 : m2 ≤ 1048576) (g1 : Words m zs) (g2 : Words m2 ys) (hV : sameE ts us zs ys = V) :
    Calls Try.prog 21 #[.agg #[.slice a1 n c1, .slice b1 m d1], .agg #[.slice a2 n2 c2, .slice b2 m2 d2]] w fun e w' => e = .returned (.bool V) ∧ Ext w w' := by
  have H1 := hid h1
  have H2 := hid h2
  have K1 := hid k1
  have K2 := hid k2
  have G1 := hid g1
  have G2 := hid g2
  subst hV
  clear h1 h2 k1 k2 g1 g2
  unfold sameE
  cases hI : sameI ts us
  · go_enter Try.func21, Try.ntmps21
    go_wp2_with (go_at_call 59; refine (equalI_any a1 a2 n n2 c1 c2 ts us _ (HoldsI.ext H1.out (by (repeat with_reducible (first | exact Ext.refl _ | exact ext_alloc _ _ | refine Ext.drewN ?_ _ | refine Ext.drew1 ?_ | refine Ext.set ?_ (by dsimp only; omega) _ | refine Ext.alloc ?_ _)))) (HoldsI.ext H2.out (by (repeat with_reducible (first | exact Ext.refl _ | exact ext_alloc _ _ | refine Ext.drewN ?_ _ | refine Ext.drew1 ?_ | refine Ext.set ?_ (by dsimp only; omega) _ | refine Ext.alloc ?_ _)))) hn hn2).mono ?_; rintro e w' ⟨rfl, q1, rfl⟩; rw [hI])
    go_ret
    refine ⟨rfl, ?_⟩
    (repeat with_reducible (first | exact Ext.refl _ | exact ext_alloc _ _ | refine Ext.drewN ?_ _ | refine Ext.drew1 ?_ | refine Ext.set ?_ (by dsimp only; omega) _ | refine Ext.alloc ?_ _))
  · go_enter Try.func21, Try.ntmps21
    go_wp2_with (first
      | (go_at_call 59; refine (equalI_any a1 a2 n n2 c1 c2 ts us _ (HoldsI.ext H1.out (by (repeat with_reducible (first | exact Ext.refl _ | exact ext_alloc _ _ | refine Ext.drewN ?_ _ | refine Ext.drew1 ?_ | refine Ext.set ?_ (by dsimp only; omega) _ | refine Ext.alloc ?_ _)))) (HoldsI.ext H2.out (by (repeat with_reducible (first | exact Ext.refl _ | exact ext_alloc _ _ | refine Ext.drewN ?_ _ | refine Ext.drew1 ?_ | refine Ext.set ?_ (by dsimp only; omega) _ | refine Ext.alloc ?_ _)))) hn hn2).mono ?_; rintro e w' ⟨rfl, q1, rfl⟩; rw [hI])
      | (go_at_call 60; refine (sameNumbers_any b1 b2 m m2 d1 d2 zs ys _ (Holds.ext K1.out (by (repeat with_reducible (first | exact Ext.refl _ | exact ext_alloc _ _ | refine Ext.drewN ?_ _ | refine Ext.drew1 ?_ | refine Ext.set ?_ (by dsimp only; omega) _ | refine Ext.alloc ?_ _)))) (Holds.ext K2.out (by (repeat with_reducible (first | exact Ext.refl _ | exact ext_alloc _ _ | refine Ext.drewN ?_ _ | refine Ext.drew1 ?_ | refine Ext.set ?_ (by dsimp only; omega) _ | refine Ext.alloc ?_ _)))) hm hm2 G1.out G2.out).mono ?_; rintro e w' ⟨rfl, q2, rfl⟩))
    go_ret
    refine ⟨rfl, ?_⟩
    (repeat with_reducible (first | exact Ext.refl _ | exact ext_alloc _ _ | refine Ext.drewN ?_ _ | refine Ext.drew1 ?_ | refine Ext.set ?_ (by dsimp only; omega) _ | refine Ext.alloc ?_ _))
set_option maxHeartbeats 2000000 in
set_option maxRecDepth 100000 in
theorem sSameEnv_any (a1 b1 a2 b2 : Option Addr) (n c1 m d1 n2 c2 m2 d2 : Nat) (ts us : List Int) (zs ys : List Nat) (V : Bool) (w : World) (h1 : HoldsI w a1 n ts) (k1 : Holds .f32 w b1 m zs) (h2 : HoldsI w a2 n2 us) (k2 : Holds .f32 w b2 m2 ys) (hn : n ≤ 1048576) (hm : m ≤ 1048576) (hn2 : n2 ≤ 1048576) (hm2 : m2 ≤ 1048576) (g1 : Words m zs) (g2 : Words m2 ys) (hV : sameE ts us zs ys = V) :
    Calls Try.prog 20 #[.agg #[.slice a1 n c1, .slice b1 m d1], .agg #[.slice a2 n2 c2, .slice b2 m2 d2]] w fun e w' => e = .returned (.bool V) ∧ Ext w w' := by
  have L1 := hid h1.1
  have L2 := hid h2.1
  have H1 := hid h1
  have H2 := hid h2
  have K1 := hid k1
  have K2 := hid k2
  have G1 := hid g1
  have G2 := hid g2
  subst hV
  clear h1 h2 k1 k2 g1 g2
  by_cases hnm : n = n2
  rotate_left
  · have HZ := hid (show sameE ts us zs ys = false from by unfold sameE; rw [sameI_len (by rw [L1.out, L2.out]; exact hnm)]; rfl)
    have hne : ¬ ((n : Int) = (n2 : Int)) := by omega
    clear hnm
    go_enter Try.func20, Try.ntmps20
    go_wp2
    go_ret
    refine ⟨by rw [HZ.out]; rfl, ?_⟩
    (repeat with_reducible (first | exact Ext.refl _ | exact ext_alloc _ _ | refine Ext.drewN ?_ _ | refine Ext.drew1 ?_ | refine Ext.set ?_ (by dsimp only; omega) _ | refine Ext.alloc ?_ _))
  subst hnm
  cases hB : sameB zs ys
  · have HZ := hid (show sameE ts us zs ys = false from by unfold sameE; rw [hB]; simp)
    go_enter Try.func20, Try.ntmps20
    go_wp2_with (go_at_call 58; refine (l01SameAll_any b1 b2 m m2 d1 d2 zs ys _ (Holds.ext K1.out (by (repeat with_reducible (first | exact Ext.refl _ | exact ext_alloc _ _ | refine Ext.drewN ?_ _ | refine Ext.drew1 ?_ | refine Ext.set ?_ (by dsimp only; omega) _ | refine Ext.alloc ?_ _)))) (Holds.ext K2.out (by (repeat with_reducible (first | exact Ext.refl _ | exact ext_alloc _ _ | refine Ext.drewN ?_ _ | refine Ext.drew1 ?_ | refine Ext.set ?_ (by dsimp only; omega) _ | refine Ext.alloc ?_ _)))) hm hm2 G1.out G2.out).mono ?_; rintro e w' ⟨rfl, q2, rfl⟩; rw [hB])
    go_ret
    refine ⟨by rw [HZ.out]; rfl, ?_⟩
    (repeat with_reducible (first | exact Ext.refl _ | exact ext_alloc _ _ | refine Ext.drewN ?_ _ | refine Ext.drew1 ?_ | refine Ext.set ?_ (by dsimp only; omega) _ | refine Ext.alloc ?_ _))
  have HE := hid (show sameE ts us zs ys = sameI ts us from by unfold sameE; rw [hB]; simp)
  have HBB := hid hB
  clear hB
  go_enter Try.func20, Try.ntmps20
  go_wp2_with (go_at_call 58; refine (l01SameAll_any b1 b2 m m2 d1 d2 zs ys _ (Holds.ext K1.out (by (repeat with_reducible (first | exact Ext.refl _ | exact ext_alloc _ _ | refine Ext.drewN ?_ _ | refine Ext.drew1 ?_ | refine Ext.set ?_ (by dsimp only; omega) _ | refine Ext.alloc ?_ _)))) (Holds.ext K2.out (by (repeat with_reducible (first | exact Ext.refl _ | exact ext_alloc _ _ | refine Ext.drewN ?_ _ | refine Ext.drew1 ?_ | refine Ext.set ?_ (by dsimp only; omega) _ | refine Ext.alloc ?_ _)))) hm hm2 G1.out G2.out).mono ?_; rintro e w' ⟨rfl, q2, rfl⟩; rw [HBB.out])
  obtain ⟨w0, hw0⟩ : ∃ u, u = ((w.alloc (.cells #[.slice a1 n c1, .slice b1 m d1] 28)).alloc (.cells #[.slice a2 n c2, .slice b2 m2 d2] 28)).drewN q2 := ⟨_, rfl⟩
  rw [← hw0]
  have EX := hid (show Ext w w0 from by rw [hw0]; (repeat with_reducible (first | exact Ext.refl _ | exact ext_alloc _ _ | refine Ext.drewN ?_ _ | refine Ext.drew1 ?_ | refine Ext.set ?_ (by dsimp only; omega) _ | refine Ext.alloc ?_ _)))
  have A : Hid (Box w0 w.heap.size #[.slice a1 n c1, .slice b1 m d1]) := by rw [hw0]; exact hid (Box.drewN (Box.alloc (box_new (w := w) #[.slice a1 n c1, .slice b1 m d1] 28) _) _)
  have B : Hid (Box w0 (w.heap.size + 1) #[.slice a2 n c2, .slice b2 m2 d2]) := by rw [hw0]; exact hid (Box.drewN (Box.cast' (box_new (w := w.alloc (.cells #[.slice a1 n c1, .slice b1 m d1] 28)) #[.slice a2 n c2, .slice b2 m2 d2] 28) (by simp)) _)
  clear hw0
  go_loopw [24] (fun i wr => ∃ k : Nat, k ≤ n ∧ i = .int .i64 k ∧ Hid (∀ q, q < k → ts.getD q 0 = us.getD q 0) ∧ Hid (∃ q, wr = w0.drewN q)) (fun i _ => n - (intOf i).toNat)
  case atStart => exact ⟨0, Nat.zero_le _, rfl, hid (fun q hq => by omega), 0, rfl⟩
  case round =>
    obtain ⟨k, hk, rfl, hr, hw⟩ := hrel
    have E0 : Ext w0 wr := by obtain ⟨q, hq⟩ := hw.out; rw [hq]; exact Ext.drewN (Ext.refl _) _
    have EW := hid (Ext.trans EX.out E0)
    have y0 : wr.cell? ⟨w.heap.size, 0, none⟩ = some (.slice a1 n c1) := Box.cell (Box.ext A.out E0) 0
    have z0 : wr.cell? ⟨w.heap.size + 1, 0, none⟩ = some (.slice a2 n c2) := Box.cell (Box.ext B.out E0) 0
    by_cases hlt : k < n
    · obtain ⟨b1', o1, rfl, e1⟩ := cellI_at H1.out EW.out k hlt
      obtain ⟨b2', o2, rfl, e2⟩ := cellI_at H2.out EW.out k hlt
      clear E0
      have HD := hid (sameI_bad (ts := ts) (us := us) (q := k) (by rw [L1.out]; exact hlt))
      have HU := hid (upto_succ (P := fun q => ts.getD q 0 = us.getD q 0) (k := k) hr.out)
      generalize ts.getD k 0 = x at e1 HD HU
      generalize us.getD k 0 = y at e2 HD HU
      have i0 : (0 : Int) ≤ (k : Int) := by omega
      have i1 : (k : Int) < (n : Int) := by omega
      by_cases hxy : x = y
      · have HG := hid (HU.out hxy)
        subst hxy
        go_wp2
        go_quiet (fail)
        go_wp2
        go_roundw
        case rel => exact ⟨k + 1, by omega, by go_num, HG, by obtain ⟨m2, hm2⟩ := hw.out; exact ⟨m2 + nq, by rw [hm2, World.drewN_drewN]⟩⟩
        case measure => simp [intOf]; omega
      · have HB := hid (HD.out hxy)
        have hbe : (x == y) = false := by simpa using hxy
        go_wp2
        go_quiet (fail)
        go_wp2
        go_ret
        exact ⟨by rw [HE.out, HB.out]; rfl, Ext.trans EW.out (Ext.drewN (Ext.refl _) _)⟩
    · have hkn : k = n := by omega
      subst hkn
      have HG := hid (show sameI ts us = true from sameI_good (by rw [L1.out, L2.out]) (fun q hq => hr.out q (by rw [L1.out] at hq; exact hq)))
      go_wp2
      go_ret
      exact ⟨by rw [HE.out, HG.out]; rfl, EW.out⟩
end Go.Proofs.Ytkmgkcbbbaioiab
