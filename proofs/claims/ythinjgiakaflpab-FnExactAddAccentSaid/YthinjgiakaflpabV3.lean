/- Valid voices, new ones. -/
import Derived.Test.YthinjgiakaflpabV2
namespace Go.Proofs.Ythinjgiakaflpab
open Go.RowKit Flt
set_option linter.unusedVariables false

theorem voice_eq (p n : Option Nat) (s : Int) : voiceC p n s = (phaseC p && (fin32 n && (fcmp .geq (ford .f32 n (some 1065353216)) && seedB s))) := by
  unfold voiceC
  cases phaseC p <;> cases fin32 n <;> cases fcmp .geq (ford .f32 n (some 1065353216)) <;> rfl
def newV (p o c b s : Option Nat) (q : Int) : Bool × VR := if throatC p o c b s && seedB q then (true, ⟨some 0, p, q⟩) else (false, zeroV)
theorem Box.set3 {w : World} {b : Nat} {v0 v1 v2 : Value} (h : Box w b #[v0, v1, v2]) (u0 u1 u2 : Value) : Box (((w.setCell ⟨b, 0, none⟩ u0).setCell ⟨b, 1, none⟩ u1).setCell ⟨b, 2, none⟩ u2) b #[u0, u1, u2] := Box.eqv (box_set (j := 2) (box_set (j := 1) (box_set (j := 0) h u0) u1) u2) (by rfl)
theorem Box.all3 {w : World} {b : Nat} {v0 v1 v2 : Value} (h : Box w b #[v0, v1, v2]) :
    w.cell? ⟨b, 0, none⟩ = some v0 ∧ w.cell? ⟨b, 1, none⟩ = some v1 ∧ w.cell? ⟨b, 2, none⟩ = some v2 ∧ w.frozen? ⟨b, 0, none⟩ = false ∧ w.frozen? ⟨b, 1, none⟩ = false ∧ w.frozen? ⟨b, 2, none⟩ = false ∧ b < w.heap.size := ⟨h.cell 0, h.cell 1, h.cell 2, h.frozen 0, h.frozen 1, h.frozen 2, h.lt⟩
theorem ext_set3 {a w : World} {b : Nat} (h : Ext a w) (hb : a.heap.size ≤ b) (u0 u1 u2 : Value) : Ext a (((w.setCell ⟨b, 0, none⟩ u0).setCell ⟨b, 1, none⟩ u1).setCell ⟨b, 2, none⟩ u2) := Ext.set (Ext.set (Ext.set h hb _) hb _) hb _
end Go.Proofs.Ythinjgiakaflpab
