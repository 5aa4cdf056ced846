/- A sound with its echo: both contracts. -/
import Derived.Test.YthadoamehdnnoaaV16
namespace Go.Proofs.Ythadoamehdnnoaa
open Go.RowKit Flt
set_option linter.unusedVariables false

def echoSt (X : Option Nat) (d : Nat) (cs : List (Option Nat)) : Nat → List (Option Nat)
  | 0 => cs
  | t + 1 => (echoSt X d cs t).set (d + t) (fop .add .f32 ((echoSt X d cs t).getD (d + t) none) (fop .mul .f32 X ((echoSt X d cs t).getD t none)))
theorem echoSt_len (X : Option Nat) (d : Nat) (cs : List (Option Nat)) : ∀ t, (echoSt X d cs t).length = cs.length
  | 0 => rfl
  | t + 1 => by rw [echoSt, List.length_set]; exact echoSt_len X d cs t
def echoR (X : Option Nat) (zs : List Nat) (d : Int) : List (Option Nat) × Bool := if soundB (zs.map (cls .f32)) && (decide (1 ≤ d) && (decide (d ≤ 256) && fin32 X)) then finR2 (echoSt X d.toNat (zs.map (cls .f32)) (zs.length - d.toNat)) else ([], false)
theorem finR2_len (cs : List (Option Nat)) : (finR2 cs).1.length ≤ cs.length := by
  unfold finR2
  split
  · exact Nat.le_refl _
  · exact Nat.zero_le _
theorem echo_len (X : Option Nat) (zs : List Nat) (d : Int) : (echoR X zs d).1.length ≤ 256 := by
  unfold echoR
  split
  · rename_i h
    simp only [Bool.and_eq_true] at h
    have h1 := sound_len h.1
    have h2 := finR2_len (echoSt X d.toNat (zs.map (cls .f32)) (zs.length - d.toNat))
    rw [echoSt_len] at h2
    omega
  · exact Nat.zero_le _
theorem echo_step {X : Option Nat} {d n t : Nat} {zs ys : List Nat} {r : Nat} (hl : ys.length = n) (ht : d + t < n) (hy : ys.map (cls .f32) = echoSt X d (zs.map (cls .f32)) t)
    (hr : cls .f32 r = fop .add .f32 (cls .f32 (ys.getD (d + t) 0)) (fop .mul .f32 X (cls .f32 (ys.getD t 0)))) : (ys.set (d + t) r).map (cls .f32) = echoSt X d (zs.map (cls .f32)) (t + 1) := by
  have hg : ∀ j, j < n → (ys.map (cls .f32)).getD j none = cls .f32 (ys.getD j 0) := by
    intro j hj
    simp [List.getD, show j < ys.length by omega]
  rw [echoSt, ← hy, hg _ ht, hg t (by omega), List.map_set, hr]
section
variable {P : Program}
theorem mult_isub {w : World} {o : Oper} {a : Act} {K : Act → Prop} {t ty : TypeId} {x y : Operand} (r : Int) (hop : o.op = Op.binOp .sub t x y ty) {p q : Int} (hx : a.eval x = .int .i64 p) (hy : a.eval y = .int .i64 q)
    (hr : p - q = r) (h0 : -9223372036854775808 ≤ r) (h1 : r < 9223372036854775808) (hK : K (a.put o.dst (.int .i64 r))) : Mult P o a (fun w' => ∃ n, w' = w.drewN n) K := by
  refine mult_one (.int .i64 r) (fun n => ?_) hK
  have hw : IntKind.i64.wrap (p - q) = r := by
    have hb : IntKind.i64.bits = 64 := rfl
    have hs : IntKind.i64.signed = true := rfl
    have e1 : (2 : Int) ^ 64 = 18446744073709551616 := by decide
    have e2 : (2 : Int) ^ (64 - 1) = 9223372036854775808 := by decide
    rw [hr]
    unfold IntKind.wrap
    simp only [hb, hs, e1, e2, Bool.true_and, decide_eq_true_eq]
    split <;> omega
  simp [execOp, hop, hx, hy, eqGuard, binOp, Op.intArith, hw]
end
set_option maxRecDepth 100000 in
theorem clone_zero (a : Option Addr) (c : Nat) (w : World) :
    Calls Try.prog 14 #[.slice a 0 c] w fun e w' => ∃ v, e = .returned v ∧ Own w' w.heap.size 0 v [] ∧ Ext w w' := by
  obtain ⟨i0, hi, hz0, hz1, hz2⟩ := info_parts infoF
  have HI := hid hi
  clear hi hz0 hz1 hz2
  cases a with
  | none =>
    have q : ∀ (w : World), (binOp .eql 22 (.slice none 0 c) (.slice none 0 0)).run Try.prog w = .ok (.bool true) w := fun w => by first | (simp [binOp]; rfl) | (simp [binOp, run_underlying Try.underlying22]; rfl)
    go_enter Try.func14, Try.ntmps14
    go_wp2
    go_ret
    exact ⟨_, rfl, own_nil _ _, by (repeat with_reducible (first | exact Ext.refl _ | exact ext_alloc _ _ | refine Ext.drewN ?_ _ | refine Ext.drew1 ?_ | refine Ext.set ?_ (by dsimp only; omega) _ | refine Ext.alloc ?_ _))⟩
  | some p =>
    have q : ∀ (w : World), (binOp .eql 22 (.slice (some p) 0 c) (.slice none 0 0)).run Try.prog w = .ok (.bool false) w := fun w => Lib.run_eql_slice_nil w _ _ _ 0 c 0 0 Try.underlying22
    go_enter Try.func14, Try.ntmps14
    go_wp2_with (at_builtin; refine wpList_append_none _ rfl _ _ 22 rfl 32 i0 Try.underlying22 HI.out _ _ rfl _ _ rfl ?_)
    go_ret
    exact ⟨_, rfl, own_fresh (cs := #[]) (zs := []) (hid rfl) rfl (by simp) (by simp) (Nat.zero_le _), by (repeat with_reducible (first | exact Ext.refl _ | exact ext_alloc _ _ | refine Ext.drewN ?_ _ | refine Ext.drew1 ?_ | refine Ext.set ?_ (by dsimp only; omega) _ | refine Ext.alloc ?_ _))⟩
end Go.Proofs.Ythadoamehdnnoaa
