/- Voices; the contracts that the laws want. -/
import Derived.Test.YthinjgiakaflpabV1
namespace Go.Proofs.Ythinjgiakaflpab
open Go.RowKit Flt
set_option linter.unusedVariables false

theorem sameFloat_of (a b : Nat) (x : Option Nat) (ha : Is .f64 a x) (hb : Is .f64 b x) : Hid (cls .f64 a = x) ∧ Hid (cls .f64 b = x) := ⟨ha, hb⟩
theorem sameFloat_is (a b : Nat) (x : Option Nat) (ha : Is .f64 a x) (hb : Is .f64 b x) (w : World) : Calls Try.prog 80 #[.float .f64 a, .float .f64 b] w fun e w' => e = .returned (.bool true) ∧ ∃ n, w' = w.drewN n := sameFloat_yes a b x ha hb w
/-- a seed; a voice, by the classes of its numbers -/
def seedB (n : Int) : Bool := decide (0 ≤ n) && decide (n ≤ 2147483647)
def phaseC (x : Option Nat) : Bool := fcmp .geq (ford .f32 x (some 0)) && fcmp .lss (ford .f32 x (some 1065353216))
def voiceC (p n : Option Nat) (s : Int) : Bool := phaseC p && (fcmp .geq (ford .f32 n (some 1065353216)) && (fin32 n && seedB s))
structure VR where
  p : Option Nat
  n : Option Nat
  s : Int
def VoiceIs (R : VR) (v : Value) : Prop := ∃ a b, v = .agg #[.float .f32 a, .float .f32 b, .int .i64 R.s] ∧ cls .f32 a = R.p ∧ cls .f32 b = R.n
def zeroV : VR := ⟨some 0, some 0, 0⟩
theorem zeroV_is : VoiceIs zeroV (.agg #[.float .f32 0, .float .f32 0, .int .i64 0]) := ⟨0, 0, rfl, cls_num (by decide), cls_num (by decide)⟩
end Go.Proofs.Ythinjgiakaflpab
