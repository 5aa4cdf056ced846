/- What is made of a number that is not finite is not finite. -/
import Derived.Test.YthinjgiakaflpabAbs
namespace Go.Proofs.Ythinjgiakaflpab.Flt
open Ieee Go.RowKit
set_option linter.unusedVariables false

theorem inf_not_fin (s : Bool) : fin32 (some (FloatKind.f32.format.write (.infinity s))) = false := by cases s <;> decide
theorem fin_number {b m : Nat} {s : Bool} {i : Int} (h : FloatKind.f32.format.read b = .number s m i) : fin32 (some b) = true := by
  show (!(FloatKind.f32.format.read b).isInfinity) = true
  rw [h]; rfl
theorem fin_sum {X Y : Option Nat} {D : Nat → Datum} (hD : ∀ b, (∀ s, FloatKind.f32.format.read b = .infinity s → ∃ t, D b = .infinity t) ∧ (∀ s m i, FloatKind.f32.format.read b = .number s m i → ∃ t, D b = .number t m i)) (hX : ∀ b, X = some b → nanW .f32 b = false) (hY : ∀ b, Y = some b → nanW .f32 b = false)
    (h : fin32 (X.bind fun a => Y.bind fun b => ((FloatKind.f32.format.read a).sum (D b)).map FloatKind.f32.format.write) = true) : fin32 X = true ∧ fin32 Y = true := by
  cases X with
  | none => cases h
  | some a =>
    cases Y with
    | none => cases h
    | some b =>
      have h' : fin32 (((FloatKind.f32.format.read a).sum (D b)).map FloatKind.f32.format.write) = true := h
      rcases read32 a (hX a rfl) with ⟨s, hr⟩ | ⟨s, m, i, hr, _⟩
      · exfalso
        rw [hr] at h'
        rcases read32 b (hY b rfl) with ⟨t, hk⟩ | ⟨t, n, j, hk, _⟩
        · obtain ⟨t', e⟩ := (hD b).1 t hk
          rw [e] at h'
          cases s <;> cases t' <;> revert h' <;> decide
        · obtain ⟨t', e⟩ := (hD b).2 t n j hk
          rw [e] at h'
          have e2 : fin32 (some (FloatKind.f32.format.write (.infinity s))) = true := h'
          rw [inf_not_fin] at e2; cases e2
      · refine ⟨fin_number hr, ?_⟩
        rcases read32 b (hY b rfl) with ⟨t, hk⟩ | ⟨t, n, j, hk, _⟩
        · exfalso
          rw [hr] at h'
          obtain ⟨t', e⟩ := (hD b).1 t hk
          rw [e] at h'
          have e2 : fin32 (some (FloatKind.f32.format.write (.infinity t'))) = true := h'
          rw [inf_not_fin] at e2; cases e2
        · exact fin_number hk
theorem num_of_cls (x : Nat) : ∀ b, cls .f32 x = some b → nanW .f32 b = false := fun b h => cls_ok .f32 x b h
theorem num_of_fop {op : BinOp} {X Y : Option Nat} : ∀ b, fop op .f32 X Y = some b → nanW .f32 b = false := by
  intro b h
  cases X with
  | none => cases h
  | some x =>
    cases Y with
    | none => cases h
    | some y => exact floatBits_num (show floatBits op .f32 x y = some b from h)
theorem fin_add {X Y : Option Nat} (hX : ∀ b, X = some b → nanW .f32 b = false) (hY : ∀ b, Y = some b → nanW .f32 b = false) (h : fin32 (fop .add .f32 X Y) = true) : fin32 X = true ∧ fin32 Y = true :=
  fin_sum (D := fun b => FloatKind.f32.format.read b) (fun b => ⟨fun s h => ⟨s, h⟩, fun s m i h => ⟨s, h⟩⟩) hX hY h
theorem fin_sub {X Y : Option Nat} (hX : ∀ b, X = some b → nanW .f32 b = false) (hY : ∀ b, Y = some b → nanW .f32 b = false) (h : fin32 (fop .sub .f32 X Y) = true) : fin32 X = true ∧ fin32 Y = true :=
  fin_sum (D := fun b => (FloatKind.f32.format.read b).opposite) (fun b => ⟨fun s h => ⟨!s, by rw [h]; rfl⟩, fun s m i h => ⟨!s, by rw [h]; rfl⟩⟩) hX hY h
theorem fin_mul {X Y : Option Nat} (hX : ∀ b, X = some b → nanW .f32 b = false) (hY : ∀ b, Y = some b → nanW .f32 b = false) (h : fin32 (fop .mul .f32 X Y) = true) : fin32 X = true ∧ fin32 Y = true := by
  cases X with
  | none => cases h
  | some a =>
    cases Y with
    | none => cases h
    | some b =>
      have h' : fin32 (((FloatKind.f32.format.read a).product (FloatKind.f32.format.read b)).map FloatKind.f32.format.write) = true := h
      have bad : ∀ (s : Bool) (n : Nat), fin32 ((if n = 0 then none else some (Datum.infinity s)).map FloatKind.f32.format.write) = false := by
        intro s n
        split
        · rfl
        · exact inf_not_fin s
      rcases read32 a (hX a rfl) with ⟨s, hr⟩ | ⟨s, m, i, hr, _⟩
      · exfalso
        rw [hr] at h'
        rcases read32 b (hY b rfl) with ⟨t, hk⟩ | ⟨t, n, j, hk, _⟩
        · rw [hk] at h'
          cases s <;> cases t <;> revert h' <;> decide
        · rw [hk] at h'
          have := bad (s ^^ t) n
          rw [show ((Datum.infinity s).product (Datum.number t n j)) = if n = 0 then none else some (.infinity (s ^^ t)) from rfl, this] at h'
          cases h'
      · refine ⟨fin_number hr, ?_⟩
        rcases read32 b (hY b rfl) with ⟨t, hk⟩ | ⟨t, n, j, hk, _⟩
        · exfalso
          rw [hr, hk] at h'
          have := bad (t ^^ s) m
          rw [show ((Datum.number s m i).product (Datum.infinity t)) = if m = 0 then none else some (.infinity (t ^^ s)) from rfl, this] at h'
          cases h'
        · exact fin_number hk
end Go.Proofs.Ythinjgiakaflpab.Flt
