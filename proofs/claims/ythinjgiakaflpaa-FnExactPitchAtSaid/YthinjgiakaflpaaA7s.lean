/- PitchAt, the specification as a whole. -/
import Derived.Test.YthinjgiakaflpaaA7x
namespace Go.Proofs.Ythinjgiakaflpaa
open Go.RowKit Flt
set_option linter.unusedVariables false

open Ieee
set_option maxHeartbeats 2000000 in
theorem l06Timed_drew (x0 b f ri : Nat) (a : Option Addr) (n c l : Nat) (ys : List Nat) (V : Bool) (w : World) (hb : Box w x0 #[.float .f32 b, .float .f32 f, .float .f32 ri, .slice a n c]) (h : HoldsA w a n ys) (hn : n ≤ 1048576) (hV : (tuneV (cls .f32 b) (cls .f32 f) (cls .f32 ri) ys n && areaC (cls .f32 l)) = V) :
    Calls Try.prog 102 #[.pointer (some ⟨x0, 0, none⟩), .float .f32 l] w fun e w' => e = .returned (.bool V) ∧ ∃ m, w' = w.drewN m := by
  have HH := hid h
  have HN := hid hn
  have HBX := hid hb
  clear h hn hb
  cases hT : tuneV (cls .f32 b) (cls .f32 f) (cls .f32 ri) ys n
  · have e : V = false := by rw [← hV, hT]; rfl
    subst e
    clear hV
    go_enter Try.func102, Try.ntmps102
    go_wp2_with (go_at_call 93; with_reducible refine (l06Tune_drew x0 b f ri a n c ys false _ HBX.out HH.out HN.out hT).mono ?_; rintro e w' ⟨rfl, m, rfl⟩)
    go_ret
    exact ⟨rfl, _, rfl⟩
  cases hL : areaC (cls .f32 l)
  all_goals
    rw [hT, hL] at hV
    subst hV
    go_enter Try.func102, Try.ntmps102
    go_wp2_with (first | (go_at_call 93; with_reducible refine (l06Tune_drew x0 b f ri a n c ys true _ HBX.out HH.out HN.out hT).mono ?_; rintro e w' ⟨rfl, m, rfl⟩) | (go_at_call 108; with_reducible refine (l02Above_any l _).mono ?_; rintro e w' ⟨rfl, m2, rfl⟩; rw [hL]))
    go_ret
    exact ⟨rfl, _, rfl⟩

set_option maxHeartbeats 4000000 in
set_option maxRecDepth 100000 in
theorem sPitch_any (b f ri : Nat) (a : Option Addr) (n c t l : Nat) (ys : List Nat) (R : Option Nat) (O : Bool) (w : World) (h : HoldsA w a n ys) (hn : n ≤ 1048576) (hR : pitchR (cls .f32 b) (cls .f32 f) (cls .f32 ri) ys n (cls .f32 t) (cls .f32 l) = (R, O)) :
    Calls Try.prog 54 #[.agg #[.float .f32 b, .float .f32 f, .float .f32 ri, .slice a n c], .float .f32 t, .float .f32 l] w fun e w' => ∃ v, e = .returned (.tuple #[.float .f32 v, .bool O]) ∧ Is .f32 v R ∧ Ext w w' := by
  have HH := hid h
  have HN := hid hn
  clear h hn
  cases hV : (tuneV (cls .f32 b) (cls .f32 f) (cls .f32 ri) ys n && areaC (cls .f32 l))
  · have e : R = some 0 ∧ O = false := by
      unfold pitchR at hR
      have h9 : (tuneV (cls .f32 b) (cls .f32 f) (cls .f32 ri) ys n && (leastC (cls .f32 t) && areaC (cls .f32 l))) = false := by
        revert hV; cases tuneV (cls .f32 b) (cls .f32 f) (cls .f32 ri) ys n <;> cases areaC (cls .f32 l) <;> simp
      rw [h9] at hR
      cases hR; exact ⟨rfl, rfl⟩
    obtain ⟨rfl, rfl⟩ := e
    have HV := hid hV
    clear hR hV
    go_enter Try.func54, Try.ntmps54
    go_wp2_with (go_at_call 102; with_reducible refine (l06Timed_drew _ b f ri a n c l ys false _ (Box.ext (box_new (w := w) #[.float .f32 b, .float .f32 f, .float .f32 ri, .slice a n c] 72) (by (repeat with_reducible (first | exact Ext.refl _ | exact ext_alloc _ _ | refine Ext.drewN ?_ _ | refine Ext.drew1 ?_ | refine Ext.set ?_ (by dsimp only; omega) _ | refine Ext.alloc ?_ _)))) (HoldsA.ext HH.out (by (repeat with_reducible (first | exact Ext.refl _ | exact ext_alloc _ _ | refine Ext.drewN ?_ _ | refine Ext.drew1 ?_ | refine Ext.set ?_ (by dsimp only; omega) _ | refine Ext.alloc ?_ _)))) HN.out HV.out).mono ?_; rintro e w' ⟨rfl, m, rfl⟩)
    go_returns
    refine ⟨_, rfl, is_const (by decide), ?_⟩
    (repeat with_reducible (first | exact Ext.refl _ | exact ext_alloc _ _ | refine Ext.drewN ?_ _ | refine Ext.drew1 ?_ | refine Ext.set ?_ (by dsimp only; omega) _ | refine Ext.alloc ?_ _))
  cases hT : leastC (cls .f32 t)
  · have e : R = some 0 ∧ O = false := by
      unfold pitchR at hR
      rw [hT] at hR
      simp only [Bool.false_and, Bool.and_false, Bool.false_eq_true, if_false] at hR
      cases hR; exact ⟨rfl, rfl⟩
    obtain ⟨rfl, rfl⟩ := e
    have HV := hid hV
    clear hR hV
    go_enter Try.func54, Try.ntmps54
    go_wp2_with (first | (go_at_call 102; with_reducible refine (l06Timed_drew _ b f ri a n c l ys true _ (Box.ext (box_new (w := w) #[.float .f32 b, .float .f32 f, .float .f32 ri, .slice a n c] 72) (by (repeat with_reducible (first | exact Ext.refl _ | exact ext_alloc _ _ | refine Ext.drewN ?_ _ | refine Ext.drew1 ?_ | refine Ext.set ?_ (by dsimp only; omega) _ | refine Ext.alloc ?_ _)))) (HoldsA.ext HH.out (by (repeat with_reducible (first | exact Ext.refl _ | exact ext_alloc _ _ | refine Ext.drewN ?_ _ | refine Ext.drew1 ?_ | refine Ext.set ?_ (by dsimp only; omega) _ | refine Ext.alloc ?_ _)))) HN.out HV.out).mono ?_; rintro e w' ⟨rfl, m, rfl⟩) | (go_at_call 103; with_reducible refine (l02Least_drew t _).mono ?_; rintro e w' ⟨rfl, m2, rfl⟩; rw [hT]))
    go_returns
    refine ⟨_, rfl, is_const (by decide), ?_⟩
    (repeat with_reducible (first | exact Ext.refl _ | exact ext_alloc _ _ | refine Ext.drewN ?_ _ | refine Ext.drew1 ?_ | refine Ext.set ?_ (by dsimp only; omega) _ | refine Ext.alloc ?_ _))
  have hV2 : tuneV (cls .f32 b) (cls .f32 f) (cls .f32 ri) ys n = true ∧ areaC (cls .f32 l) = true := by simpa using hV
  have HR := hid (show (finR (pitchG (riseC (cls .f32 ri) (pitchX (cls .f32 t) (cls .f32 l)) (pitchK (fop .add .f32 (some 0) (pitch0 (cls .f32 b) (cls .f32 f) (pitchX (cls .f32 t) (cls .f32 l)))) (cls .f32 t) ys n))), fin32 (pitchG (riseC (cls .f32 ri) (pitchX (cls .f32 t) (cls .f32 l)) (pitchK (fop .add .f32 (some 0) (pitch0 (cls .f32 b) (cls .f32 f) (pitchX (cls .f32 t) (cls .f32 l)))) (cls .f32 t) ys n)))) = (R, O) from by
    rw [(pitchS_num hV2.1 hT hV2.2).1, ← hR]
    unfold pitchR pitchS
    rw [hV2.1, hV2.2, hT]
    rfl)
  have HV := hid hV
  clear hR hV hV2
  go_enter Try.func54, Try.ntmps54
  go_wp2_with (first | (go_at_call 102; with_reducible refine (l06Timed_drew _ b f ri a n c l ys true _ (Box.ext (box_new (w := w) #[.float .f32 b, .float .f32 f, .float .f32 ri, .slice a n c] 72) (by (repeat with_reducible (first | exact Ext.refl _ | exact ext_alloc _ _ | refine Ext.drewN ?_ _ | refine Ext.drew1 ?_ | refine Ext.set ?_ (by dsimp only; omega) _ | refine Ext.alloc ?_ _)))) (HoldsA.ext HH.out (by (repeat with_reducible (first | exact Ext.refl _ | exact ext_alloc _ _ | refine Ext.drewN ?_ _ | refine Ext.drew1 ?_ | refine Ext.set ?_ (by dsimp only; omega) _ | refine Ext.alloc ?_ _)))) HN.out HV.out).mono ?_; rintro e w' ⟨rfl, m, rfl⟩) | (go_at_call 103; with_reducible refine (l02Least_drew t _).mono ?_; rintro e w' ⟨rfl, m2, rfl⟩; rw [hT]) | (go_at_call 104; refine (l06Pitch_any _ b f ri a n c t l ys R O _ (Box.ext (box_new (w := w) #[.float .f32 b, .float .f32 f, .float .f32 ri, .slice a n c] 72) (by (repeat with_reducible (first | exact Ext.refl _ | exact ext_alloc _ _ | refine Ext.drewN ?_ _ | refine Ext.drew1 ?_ | refine Ext.set ?_ (by dsimp only; omega) _ | refine Ext.alloc ?_ _)))) (HoldsA.ext HH.out (by (repeat with_reducible (first | exact Ext.refl _ | exact ext_alloc _ _ | refine Ext.drewN ?_ _ | refine Ext.drew1 ?_ | refine Ext.set ?_ (by dsimp only; omega) _ | refine Ext.alloc ?_ _)))) HN.out HR.out).mono ?_; rintro e w1 ⟨v, rfl, hv, E1⟩))
  go_returns
  exact ⟨_, rfl, hv, Ext.trans (by (repeat with_reducible (first | exact Ext.refl _ | exact ext_alloc _ _ | refine Ext.drewN ?_ _ | refine Ext.drew1 ?_ | refine Ext.set ?_ (by dsimp only; omega) _ | refine Ext.alloc ?_ _))) E1⟩

end Go.Proofs.Ythinjgiakaflpaa
