/- Valid tubes. -/
import Derived.Test.YthadoamehdnnoaaT1
namespace Go.Proofs.Ythadoamehdnnoaa
open Go.RowKit Flt

/-- an area; an end; a loss; areas; a tube, told by the classes of its numbers -/
def areaC (x : Option Nat) : Bool := fcmp .gtr (ford .f32 x (some 0)) && fin32 x
def endC (x : Option Nat) : Bool := fcmp .geq (ford .f32 x (some 3212836864)) && fcmp .leq (ford .f32 x (some 1065353216))
def lossC (x : Option Nat) : Bool := fcmp .gtr (ford .f32 x (some 0)) && fcmp .leq (ford .f32 x (some 1065353216))
def shareC (x : Option Nat) : Bool := fcmp .geq (ford .f32 x (some 0)) && fcmp .leq (ford .f32 x (some 1065353216))
def areasC (cs : List (Option Nat)) : Bool := decide (1 ≤ cs.length) && (decide (cs.length ≤ 16) && cs.all areaC)
def finsC (cs : List (Option Nat)) : Bool := cs.all fin32
def tubeC (cs : List (Option Nat)) (l t p : Option Nat) : Bool := areasC cs && (lossC l && (endC t && endC p))

theorem upto_succ {P : Nat → Prop} {k : Nat} (h : ∀ q, q < k → P q) (hk : P k) : ∀ q, q < k + 1 → P q := fun q hq => by
  rcases Nat.lt_or_eq_of_le (Nat.le_of_lt_succ hq) with h1 | h1
  · exact h q h1
  · subst h1; exact hk
theorem all_bad {f : Option Nat → Bool} {zs : List Nat} {j : Nat} (hj : j < zs.length) (h : f (cls .f32 (zs.getD j 0)) = false) : (zs.map (cls .f32)).all f = false := by
  rw [List.all_eq_false]
  refine ⟨cls .f32 (zs.getD j 0), ?_, by rw [h]; decide⟩
  rw [List.mem_map]
  refine ⟨zs.getD j 0, ?_, rfl⟩
  simp [List.getD, hj]
theorem all_good {f : Option Nat → Bool} {zs : List Nat} (h : ∀ j, j < zs.length → f (cls .f32 (zs.getD j 0)) = true) : (zs.map (cls .f32)).all f = true := by
  rw [List.all_eq_true]
  intro x hx
  rw [List.mem_map] at hx
  obtain ⟨z, hz, rfl⟩ := hx
  obtain ⟨i, hi, rfl⟩ := List.mem_iff_getElem.1 hz
  have := h i hi
  simpa [List.getD, hi] using this
theorem areas_bad {zs : List Nat} {j : Nat} (hj : j < zs.length) (h : areaC (cls .f32 (zs.getD j 0)) = false) : areasC (zs.map (cls .f32)) = false := by
  unfold areasC; rw [all_bad hj h]; simp
theorem areas_good {zs : List Nat} (h1 : 1 ≤ zs.length) (h2 : zs.length ≤ 16) (h : ∀ j, j < zs.length → areaC (cls .f32 (zs.getD j 0)) = true) : areasC (zs.map (cls .f32)) = true := by
  unfold areasC; rw [all_good h]; simp [h1, h2]
theorem areas_len {cs : List (Option Nat)} (h : areasC cs = true) : 1 ≤ cs.length ∧ cs.length ≤ 16 := by
  unfold areasC at h
  simp at h
  exact ⟨by omega, by omega⟩

end Go.Proofs.Ythadoamehdnnoaa
