/- Voices; the contracts that the laws want. -/
import Derived.Test.YtkmgkcbbbaioiabV1
namespace Go.Proofs.Ytkmgkcbbbaioiab
open Go.RowKit Flt
set_option linter.unusedVariables false

theorem sameFloat_of (a b : Nat) (x : Option Nat) (ha : Is .f64 a x) (hb : Is .f64 b x) : Hid (cls .f64 a = x) ∧ Hid (cls .f64 b = x) := ⟨ha, hb⟩
theorem sameFloat_is (a b : Nat) (x : Option Nat) (ha : Is .f64 a x) (hb : Is .f64 b x) (w : World) : Calls Try.prog 24 #[.float .f64 a, .float .f64 b] w fun e w' => e = .returned (.bool true) ∧ ∃ n, w' = w.drewN n := sameFloat_yes a b x ha hb w
/-- a seed; a voice, by the classes of its numbers -/
def seedB (n : Int) : Bool := decide (0 ≤ n) && decide (n ≤ 2147483647)
def phaseC (x : Option Nat) : Bool := fcmp .geq (ford .f32 x (some 0)) && fcmp .lss (ford .f32 x (some 1065353216))
def voiceC (p n : Option Nat) (s : Int) : Bool := phaseC p && (fcmp .geq (ford .f32 n (some 1065353216)) && (fin32 n && seedB s))
structure VR where
  p : Option Nat
  n : Option Nat
  s : Int
def VoiceIs (R : VR) (v : Value) : Prop := ∃ a b, v = .agg #[.float .f32 a, .float .f32 b, .int .i64 R.s] ∧ cls .f32 a = R.p ∧ cls .f32 b = R.n
def zeroV : VR := ⟨some 0, some 0, 0⟩
theorem zeroV_is : VoiceIs zeroV (.agg #[.float .f32 0, .float .f32 0, .int .i64 0]) := ⟨0, 0, rfl, cls_num (by decide), cls_num (by decide)⟩
theorem toVoice_any (p n : Nat) (s : Int) (w : World) :
    Calls Try.prog 46 #[.agg #[.float .f32 p, .float .f32 n, .int .i64 s]] w fun e w' => e = .returned (.agg #[.float .f32 p, .float .f32 n, .int .i64 s]) ∧ Ext w w' := by
  go_enter Try.func46, Try.ntmps46
  go_wp2_with fail
  go_returns
  refine ⟨rfl, ?_⟩
  (repeat with_reducible (first | exact Ext.refl _ | exact ext_alloc _ _ | refine Ext.drewN ?_ _ | refine Ext.drew1 ?_ | refine Ext.set ?_ (by dsimp only; omega) _ | refine Ext.alloc ?_ _))
theorem eqVoice_yes (p n p2 n2 : Nat) (s : Int) (hp : cls .f32 p = cls .f32 p2) (hn : cls .f32 n = cls .f32 n2) (w : World) :
    Calls Try.prog 48 #[.agg #[.float .f32 p, .float .f32 n, .int .i64 s], .agg #[.float .f32 p2, .float .f32 n2, .int .i64 s]] w fun e w' => e = .returned (.bool true) ∧ Ext w w' := by
  have H1 : Is .f32 p (cls .f32 p2) := hp
  have H2 : Is .f32 n (cls .f32 n2) := hn
  have G1 := is_self .f32 p2
  have G2 := is_self .f32 n2
  clear hp hn
  go_enter Try.func48, Try.ntmps48
  go_wp2_with (first | (refine wpList_fw rfl rfl Try.underlying33 Try.underlying37 rfl (by assumption) ?_; intro r m hr hrw) | (go_at_call 24; refine (sameFloat_is _ _ _ (by assumption) (by assumption) _).mono ?_; rintro e w' ⟨rfl, m, rfl⟩))
  go_ret
  refine ⟨rfl, ?_⟩
  (repeat with_reducible (first | exact Ext.refl _ | exact ext_alloc _ _ | refine Ext.drewN ?_ _ | refine Ext.drew1 ?_ | refine Ext.set ?_ (by dsimp only; omega) _ | refine Ext.alloc ?_ _))
theorem isSeed_any (n : Int) (w : World) : Calls Try.prog 119 #[.int .i64 n] w fun e w' => e = .returned (.bool (seedB n)) ∧ w = w' := by
  unfold seedB
  by_cases h1 : 0 ≤ n <;> by_cases h2 : n ≤ 2147483647
  all_goals
    go_enter Try.func119, Try.ntmps119
    go_wp2
    go_ret
    exact ⟨ret_bool (by simp [h1, h2]), rfl⟩
theorem l03Seed_any (n : Int) (w : World) : Calls Try.prog 117 #[.int .i64 n] w fun e w' => e = .returned (.bool (seedB n)) ∧ w = w' := by
  by_cases h : 0 ≤ n ∧ n ≤ 2147483647
  · have HV : Hid (seedB n = true) := by show seedB n = true; simp [seedB, h.1, h.2]
    go_enter Try.func117, Try.ntmps117
    go_wp2_with (go_at_call 72; refine (l00In_yes _ _ _ h.1 h.2 _).mono ?_; rintro e w' ⟨rfl, rfl⟩)
    go_ret
    exact ⟨by rw [HV.out]; rfl, rfl⟩
  · have HV : Hid (seedB n = false) := by show seedB n = false; simp [seedB]; omega
    go_enter Try.func117, Try.ntmps117
    go_wp2_with (go_at_call 72; refine (l00In_no _ _ _ h _).mono ?_; rintro e w' ⟨rfl, rfl⟩)
    go_ret
    exact ⟨by rw [HV.out]; rfl, rfl⟩
theorem isPhase_any (b : Nat) (w : World) : Calls Try.prog 87 #[.float .f32 b] w fun e w' => e = .returned (.bool (phaseC (cls .f32 b))) ∧ w = w' := by
  unfold phaseC
  cases h1 : fcmp .geq (ford .f32 (cls .f32 b) (some 0)) <;> cases h2 : fcmp .lss (ford .f32 (cls .f32 b) (some 1065353216))
  all_goals
    go_enter Try.func87, Try.ntmps87
    go_wp2_with (refine wpList_fcmp rfl rfl rfl rfl rfl (by first | exact is_const (by decide) | exact is_self _ _) (by first | exact is_const (by decide) | exact is_self _ _) ?_; try simp only [h1, h2])
    go_ret
    exact ⟨rfl, rfl⟩
theorem l03Phase_any (b : Nat) (w : World) : Calls Try.prog 84 #[.float .f32 b] w fun e w' => e = .returned (.bool (phaseC (cls .f32 b))) ∧ w = w' := by
  unfold phaseC
  cases h1 : fcmp .geq (ford .f32 (cls .f32 b) (some 0)) <;> cases h2 : fcmp .lss (ford .f32 (cls .f32 b) (some 1065353216))
  all_goals
    go_enter Try.func84, Try.ntmps84
    go_wp2_with (refine wpList_fcmp rfl rfl rfl rfl rfl (by first | exact is_const (by decide) | exact is_self _ _) (by first | exact is_const (by decide) | exact is_self _ _) ?_; try simp only [h1, h2])
    go_ret
    exact ⟨rfl, rfl⟩
end Go.Proofs.Ytkmgkcbbbaioiab
