/- Areas out of reflections. -/
import Derived.Test.YthinjgiakaflpaaT4
namespace Go.Proofs.Ythinjgiakaflpaa
open Go.RowKit Flt
set_option linter.unusedVariables false

def stepC (x r : Option Nat) : Option Nat := fop .mul .f32 x (fop .quo .f32 (fop .sub .f32 (some 1065353216) r) (fop .add .f32 (some 1065353216) r))
def okC (r : Option Nat) : Bool := fcmp .gtr (ford .f32 r (some 3212836864)) && fcmp .lss (ford .f32 r (some 1065353216))
def seqC (x : Option Nat) : List (Option Nat) → List (Option Nat)
  | [] => [x]
  | r :: rs => x :: seqC (stepC x r) rs
def lastC (x : Option Nat) (rs : List (Option Nat)) : Option Nat := rs.foldl stepC x
theorem seq_snoc (rs : List (Option Nat)) (r : Option Nat) : ∀ x, seqC x (rs ++ [r]) = seqC x rs ++ [stepC (lastC x rs) r] := by
  induction rs with
  | nil => intro x; rfl
  | cons a rs ih => intro x; show x :: seqC (stepC x a) (rs ++ [r]) = _; rw [ih]; rfl
theorem last_snoc (x : Option Nat) (rs : List (Option Nat)) (r : Option Nat) : lastC x (rs ++ [r]) = stepC (lastC x rs) r := by simp [lastC]
theorem seq_len (rs : List (Option Nat)) : ∀ x, (seqC x rs).length = rs.length + 1 := by
  induction rs with
  | nil => intro x; rfl
  | cons a rs ih => intro x; show (seqC (stepC x a) rs).length + 1 = _; rw [ih]; rfl
def fromR (x : Option Nat) (cs : List (Option Nat)) : List (Option Nat) × Bool := if (decide (cs.length < 16) && (cs.all okC && areasC (seqC x cs))) = true then (seqC x cs, true) else ([], false)
theorem from_len (x : Option Nat) (cs : List (Option Nat)) : (fromR x cs).1.length ≤ 16 := by
  unfold fromR
  split
  · rename_i h
    simp at h
    exact (areas_len h.2.2).2
  · exact Nat.zero_le _
/-- the value is this list, of the call's own -/
def ListIs (w : World) (B : Nat) (R : List (Option Nat)) (v : Value) : Prop := ∃ a c zs, v = .slice a R.length c ∧ Own w B R.length (.slice a R.length c) zs ∧ zs.map (cls .f32) = R
theorem nil_is (w : World) (B : Nat) : ListIs w B [] (.slice none 0 0) := ⟨none, 0, [], rfl, own_nil _ _, rfl⟩
theorem list_is {w : World} {B n : Nat} {v : Value} {zs : List Nat} {R : List (Option Nat)} (h : Own w B n v zs) (e : zs.map (cls .f32) = R) : ListIs w B R v := by
  have hl := h.len
  have e1 : R.length = n := by rw [← e]; simp [hl]
  obtain ⟨a, c, rfl, _⟩ := Own.holds h
  exact ⟨a, c, zs, by rw [e1], by rw [e1]; exact h, e⟩
theorem own_snoc9 {w : World} {B k : Nat} {v : Value} {ys : List Nat} {r : Nat} (h : w.ownsRow B 22 1 v (k + 1) (ys.map (Value.float .f32) ++ [.float .f32 r])) : Own w B (k + 1) v (ys ++ [r]) := by
  unfold Own; simpa using h

end Go.Proofs.Ythinjgiakaflpaa