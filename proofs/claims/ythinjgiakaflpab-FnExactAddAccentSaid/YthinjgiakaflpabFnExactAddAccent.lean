/- 'FnExactAddAccent': whatever the input, the law returns true, and its arguments read as they did. No conditions. -/
import Derived.Test.YthinjgiakaflpabRows
import Derived.Test.YthinjgiakaflpabLAdA
import Derived.Test.YthinjgiakaflpabAgg
import Derived.Test.YthinjgiakaflpabAggA
import Derived.Test.YthinjgiakaflpabRow
import Derived.WalkKit
import Derived.ProofKit
import Derived.OpenShut
import Derived.ShutString
import Derived.ChangeOld
import Derived.Below
import Derived.Lib.SmallJoins
namespace Go.Proofs.Ythinjgiakaflpab.fnExactAddAccent
open Go.ChangeShapes Go.WideShapes Go.ChangeAt Go.RowKit
open Go.ChangeMaps (open_string shut_string)
open Go.Joins
set_option linter.unusedVariables false

theorem own : ownKnob Try.prog.godebug = none := by kernel_rfl
theorem laidOut : laidOutB Try.prog = true := by kernel_rfl

set_option maxRecDepth 100000 in
theorem lifted (os : Os) (started : os.Started) (H : Type) (enc : TypeId × Value → H) :
    ReturnsInHanded {} Try.checked os 3 .any (Rows.fnExactAddAccentSpec.pre6 enc Try.prog Try.f3 Rows.fnExactAddAccentRow.domain false) (Rows.fnExactAddAccentSpec.post enc Try.prog Try.f3 false true false false) := by
  refine returnsInHanded_of_change (C := Try.checked) own started (by kernel_rfl) Try.func3
    (ChangeSpec.witness6 (enc := enc) (C := Try.checked) false ⟨#[], #[.agg #[.float .f32 0, .float .f32 0, .float .f32 0, .slice none 0 0], .agg #[.float .f32 0, .float .f32 0, .float .f32 0]], []⟩ 8 (by kernel_rfl) (by kernel_rfl) (by kernel_rfl) (by kernel_rfl)) ?_
  intro W base args ds gs before hval0 hW hcnd _
  have hval : ∀ (j : Nat) t v, Try.f3.params[j]? = some t → args[j]? = some v → Value.okWide Try.prog W .any base t v := hval0
  have hW' := hW
  obtain ⟨p, q, hA0, hV, rfl, hfz, hnd⟩ := hW
  have hA : DataW.TrodAll enc Try.prog W 0 (fun _ => true) true Try.f3.params.toList args.toList ds p := hA0
  rw [Try.params3] at hA hval
  obtain ⟨v0, vs0, d0, ds0, p0, q0, hargs, rfl, rfl, h0, r0⟩ := trodAll_cons hA
  obtain ⟨v1, vs1, d1, ds1, p1, q1, rfl, rfl, rfl, h1, r1⟩ := trodAll_cons r0
  obtain ⟨rfl, rfl, rfl⟩ := trodAll_nil r1
  obtain rfl : args = #[v0, v1] := by cases args; simp_all
  obtain ⟨rfl, rfl⟩ := trodVars_none hV
  have k0 := h0
  have lt0 : ∀ x ∈ p0, x.block < W.heap.size := by obtain ⟨m, hm⟩ := k0; exact DataW.trod_lt m _ _ _ hm
  obtain ⟨v0a, v0b, v0c, v0d, y0a, y0b, y0c, y0d, m0, rfl, ed0, ep0, t0a, t0b, t0c, t0d⟩ := open_agg4 Try.underlying25 (by kernel_rfl) (by kernel_rfl) (hval 0 25 v0 rfl rfl) h0
  obtain ⟨b0a, rfl, w0a⟩ := Flt.trod_float_inv (t := 22) Try.underlying22 t0a
  obtain ⟨b0b, rfl, w0b⟩ := Flt.trod_float_inv (t := 22) Try.underlying22 t0b
  obtain ⟨b0c, rfl, w0c⟩ := Flt.trod_float_inv (t := 22) Try.underlying22 t0c
  obtain ⟨a0d, len0d, cap0d, z0d, rfl, w0d⟩ := open_accents (t := 23) Try.underlying23 Try.underlying27 (by kernel_rfl) (by kernel_rfl) (by kernel_rfl) (by kernel_rfl) (by kernel_rfl) (by kernel_rfl) rfl rfl rfl (by kernel_rfl) t0d
  have k1 := h1
  have lt1 : ∀ x ∈ p1, x.block < W.heap.size := by obtain ⟨m, hm⟩ := k1; exact DataW.trod_lt m _ _ _ hm
  obtain ⟨v1a, v1b, v1c, y1a, y1b, y1c, m1, rfl, ed1, ep1, t1a, t1b, t1c⟩ := open_agg3 Try.underlying27 (by kernel_rfl) (by kernel_rfl) (hval 1 27 v1 rfl rfl) h1
  obtain ⟨b1a, rfl, w1a⟩ := Flt.trod_float_inv (t := 22) Try.underlying22 t1a
  obtain ⟨b1b, rfl, w1b⟩ := Flt.trod_float_inv (t := 22) Try.underlying22 t1b
  obtain ⟨b1c, rfl, w1c⟩ := Flt.trod_float_inv (t := 22) Try.underlying22 t1c
  clear hA0 hval0
  refine (FnExactAddAccent_walk b0a b0b b0c a0d len0d cap0d z0d b1a b1b b1c W w0a w0b w0c w0d w1a w1b w1c).mono fun e W' ⟨he, bel⟩ => ?_
  subst he
  exact ⟨_, rfl, _, _, _, [], _, [], hW', trodAll_mk1 (shut_bool Try.underlying4 _), (trodAll_cons_mk (Below.trod laidOut (by kernel_rfl) (of_decide_eq_true (by kernel_rfl)) k0 bel lt0) (trodAll_cons_mk (Below.trod laidOut (by kernel_rfl) (of_decide_eq_true (by kernel_rfl)) k1 bel lt1) trodAll_mk0)), rfl, bel.frame _, fun h => by cases h⟩

theorem over : Rows.fnExactAddAccentRow.holds Try.pinned (OpenSpec.ofChange Rows.fnExactAddAccentSpec) :=
  OpenClaim.holds_of_wide 3 Try.f3 rfl rfl rfl rfl rfl rfl rfl ⟨rfl, rfl, rfl, rfl, rfl⟩ rfl rfl rfl rfl rfl (by kernel_rfl) Try.func3 (by kernel_rfl)
    (of_decide_eq_true (by kernel_rfl)) (by unfold Func.isWrapper; first | (rw [if_pos (by decide +kernel)]; kernel_rfl) | (rw [if_neg (by decide +kernel)]; exact ⟨rfl, rfl⟩))
    (fun os started H enc _ => lifted os started H enc)

/-- The statement. -/
theorem proved : Rows.FnExactAddAccentSaid :=
  over
end Go.Proofs.Ythinjgiakaflpab.fnExactAddAccent
