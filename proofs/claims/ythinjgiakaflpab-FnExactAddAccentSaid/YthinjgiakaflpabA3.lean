/- Valid tunes. -/
import Derived.Test.YthinjgiakaflpabA2
namespace Go.Proofs.Ythinjgiakaflpab
open Go.RowKit Flt
set_option linter.unusedVariables false


/-- are all accents valid, and is a tune? -/
def accsB (ys : List Nat) (n : Nat) : Bool := (List.range n).all fun k => accC (cls .f32 (ys.getD (k * 3) 0)) (cls .f32 (ys.getD (k * 3 + 1) 0)) (cls .f32 (ys.getD (k * 3 + 2) 0))
def tuneV (b f r : Option Nat) (ys : List Nat) (n : Nat) : Bool := decide (n ≤ 8) && (areaC b && (shareC f && (fin32 r && accsB ys n)))
theorem accs_bad {ys : List Nat} {n k : Nat} (hk : k < n) (h : accC (cls .f32 (ys.getD (k * 3) 0)) (cls .f32 (ys.getD (k * 3 + 1) 0)) (cls .f32 (ys.getD (k * 3 + 2) 0)) = false) : accsB ys n = false := by
  unfold accsB
  rw [List.all_eq_false]
  exact ⟨k, List.mem_range.2 hk, by rw [h]; decide⟩
theorem accs_good {ys : List Nat} {n : Nat} (h : ∀ k, k < n → accC (cls .f32 (ys.getD (k * 3) 0)) (cls .f32 (ys.getD (k * 3 + 1) 0)) (cls .f32 (ys.getD (k * 3 + 2) 0)) = true) : accsB ys n = true := by
  unfold accsB
  rw [List.all_eq_true]
  exact fun k hk => h k (List.mem_range.1 hk)
theorem tune_accs {b f r : Option Nat} {ys : List Nat} {n : Nat} (h : accsB ys n = false) : tuneV b f r ys n = false := by
  unfold tuneV; rw [h]; simp
set_option maxHeartbeats 2000000 in
theorem l06AccentAt_any (b o x y z : Nat) (w : World) (h : Cell3 w b o x y z) : Calls Try.prog 130 #[.pointer (some ⟨b, o, none⟩)] w fun e w' => e = .returned (.bool (accC (cls .f32 x) (cls .f32 y) (cls .f32 z))) ∧ ∃ m, w' = w.drewN m := by
  obtain ⟨c0, c1, c2⟩ := h
  unfold accC
  cases h1 : fin32 (cls .f32 x)
  · go_enter Try.func130, Try.ntmps130
    go_wp2_with (first | (go_at_call 101; with_reducible refine (l01Finite_any x _).mono ?_; rintro e w' ⟨rfl, m, rfl⟩; rw [h1]))
    go_ret
    exact ⟨rfl, _, rfl⟩
  cases h2 : fin32 (cls .f32 y)
  · go_enter Try.func130, Try.ntmps130
    go_wp2_with (first | (go_at_call 101; with_reducible refine (l01Finite_any x _).mono ?_; rintro e w' ⟨rfl, m, rfl⟩; rw [h1]) | (go_at_call 101; with_reducible refine (l01Finite_any y _).mono ?_; rintro e w' ⟨rfl, m, rfl⟩; rw [h2]))
    go_ret
    exact ⟨rfl, _, rfl⟩
  cases h3 : areaC (cls .f32 z)
  · go_enter Try.func130, Try.ntmps130
    go_wp2_with (first | (go_at_call 101; with_reducible refine (l01Finite_any x _).mono ?_; rintro e w' ⟨rfl, m, rfl⟩; rw [h1]) | (go_at_call 101; with_reducible refine (l01Finite_any y _).mono ?_; rintro e w' ⟨rfl, m, rfl⟩; rw [h2]) | (go_at_call 117; refine (l02Above_any z _).mono ?_; rintro e w' ⟨rfl, m2, rfl⟩; rw [h3]))
    go_ret
    exact ⟨rfl, _, rfl⟩
  go_enter Try.func130, Try.ntmps130
  go_wp2_with (first | (go_at_call 101; with_reducible refine (l01Finite_any x _).mono ?_; rintro e w' ⟨rfl, m, rfl⟩; rw [h1]) | (go_at_call 101; with_reducible refine (l01Finite_any y _).mono ?_; rintro e w' ⟨rfl, m, rfl⟩; rw [h2]) | (go_at_call 117; refine (l02Above_any z _).mono ?_; rintro e w' ⟨rfl, m2, rfl⟩; rw [h3]))
  go_ret
  exact ⟨rfl, _, rfl⟩

set_option maxHeartbeats 4000000 in
set_option maxRecDepth 100000 in
theorem validTune_is (b f r : Nat) (a : Option Addr) (n c : Nat) (ys : List Nat) (V : Bool) (w : World) (h : HoldsA w a n ys) (hn : n ≤ 1048576) (hV : tuneV (cls .f32 b) (cls .f32 f) (cls .f32 r) ys n = V) :
    Calls Try.prog 131 #[.agg #[.float .f32 b, .float .f32 f, .float .f32 r, .slice a n c]] w fun e w' => e = .returned (.bool V) ∧ Ext w w' := by
  have HH := hid h
  have HN := hid hn
  have HV := hid hV
  clear h hn hV
  go_enter Try.func131, Try.ntmps131
  go_wp2
  go_loopw [8] (fun i wr => ∃ (k : Nat), k ≤ n ∧ i = .int .i64 k ∧ Hid (∀ q, q < k → accC (cls .f32 (ys.getD (q * 3) 0)) (cls .f32 (ys.getD (q * 3 + 1) 0)) (cls .f32 (ys.getD (q * 3 + 2) 0)) = true) ∧ Hid (Ext (w.alloc (.cells #[.float .f32 b, .float .f32 f, .float .f32 r, .slice a n c] 31)) wr)) (fun i _ => n - (intOf i).toNat)
  case atStart => exact ⟨0, Nat.zero_le _, rfl, hid (fun q hq => absurd hq (Nat.not_lt_zero _)), hid (Ext.refl _)⟩
  case round =>
    obtain ⟨k, hk, rfl, hr, he⟩ := hrel
    have hn2 : n ≤ 1048576 := HN.out
    by_cases hlt : k < n
    · obtain ⟨_, h0 | ⟨g, off, rfl, hbl, hcell⟩⟩ := HoldsA.ext HH.out (Ext.trans (ext_alloc _ _) he.out)
      · omega
      obtain ⟨e0, e1, e2⟩ := hcell k hlt
      clear hcell
      cases hA : accC (cls .f32 (ys.getD (k * 3) 0)) (cls .f32 (ys.getD (k * 3 + 1) 0)) (cls .f32 (ys.getD (k * 3 + 2) 0))
      · have HB := hid (tune_accs (b := cls .f32 b) (f := cls .f32 f) (r := cls .f32 r) (accs_bad hlt hA))
        generalize ys.getD (k * 3) 0 = x at e0 hA
        generalize ys.getD (k * 3 + 1) 0 = y at e1 hA
        generalize ys.getD (k * 3 + 2) 0 = z at e2 hA
        have hi0 : (0 : Int) ≤ (k : Int) := by omega
        have hi1 : (k : Int) < (n : Int) := by omega
        go_wp2_with (go_at_call 159; with_reducible refine (isAccent_any x y z _).mono ?_; rintro e w' ⟨rfl, m, rfl⟩; rw [hA])
        go_ret
        exact ⟨by rw [← HV.out, HB.out]; rfl, Ext.trans (ext_alloc _ _) (Ext.trans he.out (by (repeat with_reducible (first | exact Ext.refl _ | exact ext_alloc _ _ | refine Ext.drewN ?_ _ | refine Ext.drew1 ?_ | refine Ext.set ?_ (by dsimp only; omega) _ | refine Ext.alloc ?_ _))))⟩
      · have HG := hid (upto_succ (P := fun q => accC (cls .f32 (ys.getD (q * 3) 0)) (cls .f32 (ys.getD (q * 3 + 1) 0)) (cls .f32 (ys.getD (q * 3 + 2) 0)) = true) hr.out hA)
        generalize ys.getD (k * 3) 0 = x at e0 hA
        generalize ys.getD (k * 3 + 1) 0 = y at e1 hA
        generalize ys.getD (k * 3 + 2) 0 = z at e2 hA
        have hi0 : (0 : Int) ≤ (k : Int) := by omega
        have hi1 : (k : Int) < (n : Int) := by omega
        go_wp2_with (go_at_call 159; with_reducible refine (isAccent_any x y z _).mono ?_; rintro e w' ⟨rfl, m, rfl⟩; rw [hA])
        go_roundw
        case rel => exact ⟨k + 1, by omega, by go_num, HG, hid (Ext.trans he.out (by (repeat with_reducible (first | exact Ext.refl _ | exact ext_alloc _ _ | refine Ext.drewN ?_ _ | refine Ext.drew1 ?_ | refine Ext.set ?_ (by dsimp only; omega) _ | refine Ext.alloc ?_ _))))⟩
        case measure => simp [intOf]; omega
    · have hkn : k = n := by omega
      subst hkn
      have hVV : V = (decide (k ≤ 8) && (areaC (cls .f32 b) && (shareC (cls .f32 f) && fin32 (cls .f32 r)))) := by
        rw [← HV.out]; unfold tuneV; rw [accs_good hr.out, Bool.and_true]
      obtain ⟨d0, d1, d2, d3, dl⟩ := Box.cells4 (Box.ext (box_new (w := w) #[.float .f32 b, .float .f32 f, .float .f32 r, .slice a k c] 31) he.out)
      have EX := hid (Ext.trans (ext_alloc w (.cells #[.float .f32 b, .float .f32 f, .float .f32 r, .slice a k c] 31)) he.out)
      clear HV hr he
      by_cases h8 : k ≤ 8
      rotate_left
      · have e : V = false := by rw [hVV, decide_eq_false h8]; rfl
        subst e
        clear hVV
        go_wp2_with fail
        go_ret
        exact ⟨ret_bool (by first | rfl | (simp; done) | (simp; omega)), EX.out⟩
      rw [decide_eq_true h8, Bool.true_and] at hVV
      cases hB : areaC (cls .f32 b)
      · have e : V = false := by rw [hVV, hB]; rfl
        subst e
        clear hVV
        go_wp2_with (first | (go_at_call 126; with_reducible refine (isExtent_any b _).mono ?_; rintro e w' ⟨rfl, m1, rfl⟩; rw [hB]))
        go_ret
        exact ⟨ret_bool (by first | rfl | (simp; done) | (simp; omega)), Ext.trans EX.out (by (repeat with_reducible (first | exact Ext.refl _ | exact ext_alloc _ _ | refine Ext.drewN ?_ _ | refine Ext.drew1 ?_ | refine Ext.set ?_ (by dsimp only; omega) _ | refine Ext.alloc ?_ _)))⟩
      cases hF : shareC (cls .f32 f)
      · have e : V = false := by rw [hVV, hB, hF]; rfl
        subst e
        clear hVV
        go_wp2_with (first | (go_at_call 126; with_reducible refine (isExtent_any b _).mono ?_; rintro e w' ⟨rfl, m1, rfl⟩; rw [hB]) | (go_at_call 142; with_reducible refine (isShare_any f _).mono ?_; rintro e w' ⟨rfl, rfl⟩; rw [hF]))
        go_ret
        exact ⟨ret_bool (by first | rfl | (simp; done) | (simp; omega)), Ext.trans EX.out (by (repeat with_reducible (first | exact Ext.refl _ | exact ext_alloc _ _ | refine Ext.drewN ?_ _ | refine Ext.drew1 ?_ | refine Ext.set ?_ (by dsimp only; omega) _ | refine Ext.alloc ?_ _)))⟩
      cases hR : fin32 (cls .f32 r)
      · have e : V = false := by rw [hVV, hB, hF, hR]; rfl
        subst e
        clear hVV
        go_wp2_with (first | (go_at_call 126; with_reducible refine (isExtent_any b _).mono ?_; rintro e w' ⟨rfl, m1, rfl⟩; rw [hB]) | (go_at_call 142; with_reducible refine (isShare_any f _).mono ?_; rintro e w' ⟨rfl, rfl⟩; rw [hF]) | (go_at_call 104; with_reducible refine (isFinite_any r _).mono ?_; rintro e w' ⟨rfl, m, rfl⟩; rw [hR]))
        go_ret
        exact ⟨ret_bool (by first | rfl | (simp; done) | (simp; omega)), Ext.trans EX.out (by (repeat with_reducible (first | exact Ext.refl _ | exact ext_alloc _ _ | refine Ext.drewN ?_ _ | refine Ext.drew1 ?_ | refine Ext.set ?_ (by dsimp only; omega) _ | refine Ext.alloc ?_ _)))⟩
      · have e : V = true := by rw [hVV, hB, hF, hR]; rfl
        subst e
        clear hVV
        go_wp2_with (first | (go_at_call 126; with_reducible refine (isExtent_any b _).mono ?_; rintro e w' ⟨rfl, m1, rfl⟩; rw [hB]) | (go_at_call 142; with_reducible refine (isShare_any f _).mono ?_; rintro e w' ⟨rfl, rfl⟩; rw [hF]) | (go_at_call 104; with_reducible refine (isFinite_any r _).mono ?_; rintro e w' ⟨rfl, m, rfl⟩; rw [hR]))
        go_ret
        exact ⟨ret_bool (by first | rfl | (simp; done) | (simp; omega)), Ext.trans EX.out (by (repeat with_reducible (first | exact Ext.refl _ | exact ext_alloc _ _ | refine Ext.drewN ?_ _ | refine Ext.drew1 ?_ | refine Ext.set ?_ (by dsimp only; omega) _ | refine Ext.alloc ?_ _)))⟩

set_option maxHeartbeats 4000000 in
set_option maxRecDepth 100000 in
theorem l06Tune_drew (x0 b f r : Nat) (a : Option Addr) (n c : Nat) (ys : List Nat) (V : Bool) (w : World) (hb : Box w x0 #[.float .f32 b, .float .f32 f, .float .f32 r, .slice a n c]) (h : HoldsA w a n ys) (hn : n ≤ 1048576) (hV : tuneV (cls .f32 b) (cls .f32 f) (cls .f32 r) ys n = V) :
    Calls Try.prog 74 #[.pointer (some ⟨x0, 0, none⟩)] w fun e w' => e = .returned (.bool V) ∧ ∃ m, w' = w.drewN m := by
  have HH := hid h
  have HN := hid hn
  obtain ⟨d0, d1, d2, d3, dl⟩ := Box.cells4 hb
  have HBX := hid hb
  clear h hn hb
  cases hB : areaC (cls .f32 b)
  · have e : V = false := by rw [← hV]; unfold tuneV; rw [hB]; simp
    subst e
    clear hV
    go_enter Try.func74, Try.ntmps74
    go_wp2_with (first | (go_at_call 117; with_reducible refine (l02Above_any b _).mono ?_; rintro e w' ⟨rfl, m1, rfl⟩; rw [hB]))
    go_ret
    exact ⟨ret_bool (by first | rfl | (simp; done) | (simp; omega)), _, rfl⟩
  cases hF : shareC (cls .f32 f)
  · have e : V = false := by rw [← hV]; unfold tuneV; rw [hB, hF]; simp
    subst e
    clear hV
    go_enter Try.func74, Try.ntmps74
    go_wp2_with (first | (go_at_call 117; with_reducible refine (l02Above_any b _).mono ?_; rintro e w' ⟨rfl, m1, rfl⟩; rw [hB]) | (go_at_call 129; with_reducible refine (l02Share_any f _).mono ?_; rintro e w' ⟨rfl, rfl⟩; rw [hF]))
    go_ret
    exact ⟨ret_bool (by first | rfl | (simp; done) | (simp; omega)), _, rfl⟩
  cases hR : fin32 (cls .f32 r)
  · have e : V = false := by rw [← hV]; unfold tuneV; rw [hB, hF, hR]; simp
    subst e
    clear hV
    go_enter Try.func74, Try.ntmps74
    go_wp2_with (first | (go_at_call 117; with_reducible refine (l02Above_any b _).mono ?_; rintro e w' ⟨rfl, m1, rfl⟩; rw [hB]) | (go_at_call 129; with_reducible refine (l02Share_any f _).mono ?_; rintro e w' ⟨rfl, rfl⟩; rw [hF]) | (go_at_call 101; with_reducible refine (l01Finite_any r _).mono ?_; rintro e w' ⟨rfl, m, rfl⟩; rw [hR]))
    go_ret
    exact ⟨ret_bool (by first | rfl | (simp; done) | (simp; omega)), _, rfl⟩
  by_cases h8 : ¬ n ≤ 8
  · have e : V = false := by rw [← hV]; unfold tuneV; rw [decide_eq_false h8]; rfl
    subst e
    clear hV
    have hi8 : (8 : Int) < (n : Int) := by omega
    go_enter Try.func74, Try.ntmps74
    go_wp2_with (first | (go_at_call 117; with_reducible refine (l02Above_any b _).mono ?_; rintro e w' ⟨rfl, m1, rfl⟩; rw [hB]) | (go_at_call 129; with_reducible refine (l02Share_any f _).mono ?_; rintro e w' ⟨rfl, rfl⟩; rw [hF]) | (go_at_call 101; with_reducible refine (l01Finite_any r _).mono ?_; rintro e w' ⟨rfl, m, rfl⟩; rw [hR]))
    go_ret
    exact ⟨ret_bool (by first | rfl | (simp; done) | (simp; omega)), _, rfl⟩
  replace h8 := Decidable.not_not.1 h8
  have HV := hid (show V = accsB ys n from by rw [← hV]; unfold tuneV; rw [decide_eq_true h8, hB, hF, hR]; rfl)
  have hi8 : ¬ (8 : Int) < (n : Int) := by omega
  clear hV
  go_enter Try.func74, Try.ntmps74
  go_wp2_with (first | (go_at_call 117; with_reducible refine (l02Above_any b _).mono ?_; rintro e w' ⟨rfl, m1, rfl⟩; rw [hB]) | (go_at_call 129; with_reducible refine (l02Share_any f _).mono ?_; rintro e w' ⟨rfl, rfl⟩; rw [hF]) | (go_at_call 101; with_reducible refine (l01Finite_any r _).mono ?_; rintro e w' ⟨rfl, m, rfl⟩; rw [hR]))
  go_loopw [3] (fun i wr => ∃ (k : Nat), k ≤ n ∧ i = .int .i64 k ∧ Hid (∀ q, q < k → accC (cls .f32 (ys.getD (q * 3) 0)) (cls .f32 (ys.getD (q * 3 + 1) 0)) (cls .f32 (ys.getD (q * 3 + 2) 0)) = true) ∧ Hid (∃ m, wr = w.drewN m)) (fun i _ => n - (intOf i).toNat)
  case atStart => exact ⟨0, Nat.zero_le _, rfl, hid (fun q hq => absurd hq (Nat.not_lt_zero _)), hid ⟨_, rfl⟩⟩
  case round =>
    obtain ⟨k, hk, rfl, hr, hw⟩ := hrel
    have hn2 : n ≤ 1048576 := HN.out
    have he : Hid (Ext w wr) := by obtain ⟨m, hm⟩ := hw.out; rw [hm]; exact hid (Ext.drewN (Ext.refl _) _)
    clear d0 d1 d2 d3 dl
    obtain ⟨d0, d1, d2, d3, dl⟩ := Box.cells4 (Box.ext HBX.out he.out)
    by_cases hlt : k < n
    · obtain ⟨_, h0 | ⟨g, off, rfl, hbl, hcell⟩⟩ := HoldsA.ext HH.out he.out
      · omega
      have hc3 := hcell k hlt
      clear hcell
      cases hA : accC (cls .f32 (ys.getD (k * 3) 0)) (cls .f32 (ys.getD (k * 3 + 1) 0)) (cls .f32 (ys.getD (k * 3 + 2) 0))
      · have HB := hid (accs_bad hlt hA)
        generalize ys.getD (k * 3) 0 = x at hc3 hA
        generalize ys.getD (k * 3 + 1) 0 = y at hc3 hA
        generalize ys.getD (k * 3 + 2) 0 = z at hc3 hA
        have HC3 := hid hc3
        clear hc3
        have hi0 : (0 : Int) ≤ (k : Int) := by omega
        have hi1 : (k : Int) < (n : Int) := by omega
        go_wp2_with (go_at_call 130; with_reducible refine (l06AccentAt_any _ _ x y z _ HC3.out).mono ?_; rintro e w' ⟨rfl, m, rfl⟩; rw [hA])
        go_ret
        exact ⟨by rw [HV.out, HB.out]; rfl, by obtain ⟨m2, hm⟩ := hw.out; exact ⟨m2 + m, by rw [hm, World.drewN_drewN]⟩⟩
      · have HG := hid (upto_succ (P := fun q => accC (cls .f32 (ys.getD (q * 3) 0)) (cls .f32 (ys.getD (q * 3 + 1) 0)) (cls .f32 (ys.getD (q * 3 + 2) 0)) = true) hr.out hA)
        generalize ys.getD (k * 3) 0 = x at hc3 hA
        generalize ys.getD (k * 3 + 1) 0 = y at hc3 hA
        generalize ys.getD (k * 3 + 2) 0 = z at hc3 hA
        have HC3 := hid hc3
        clear hc3
        have hi0 : (0 : Int) ≤ (k : Int) := by omega
        have hi1 : (k : Int) < (n : Int) := by omega
        go_wp2_with (go_at_call 130; with_reducible refine (l06AccentAt_any _ _ x y z _ HC3.out).mono ?_; rintro e w' ⟨rfl, m, rfl⟩; rw [hA])
        go_roundw
        case rel => exact ⟨k + 1, by omega, by go_num, HG, by obtain ⟨m2, hm⟩ := hw.out; exact hid ⟨m2 + m, by rw [hm, World.drewN_drewN]⟩⟩
        case measure => simp [intOf]; omega
    · have hkn : k = n := by omega
      subst hkn
      go_wp2_with fail
      go_ret
      exact ⟨by rw [HV.out, accs_good hr.out]; rfl, hw.out⟩
end Go.Proofs.Ythinjgiakaflpab
