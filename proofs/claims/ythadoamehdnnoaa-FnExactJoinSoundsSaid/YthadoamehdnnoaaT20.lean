/- Reflections. -/
import Derived.Test.YthadoamehdnnoaaT9
import Derived.Test.YthadoamehdnnoaaT19
import Derived.Test.YthadoamehdnnoaaQuo
import Derived.Test.YthadoamehdnnoaaTail2
namespace Go.Proofs.Ythadoamehdnnoaa
open Go.RowKit Flt
set_option linter.unusedVariables false

def reflQ (a b : Option Nat) : Option Nat := fop .quo .f32 (fop .sub .f32 a b) (fop .add .f32 a b)
def reflK (xs : List Nat) (k : Nat) : List (Option Nat) := (List.range k).map fun q => reflQ (cls .f32 (xs.getD q 0)) (cls .f32 (xs.getD (q + 1) 0))
theorem refl_snoc (xs : List Nat) (k : Nat) : reflK xs (k + 1) = reflK xs k ++ [reflQ (cls .f32 (xs.getD k 0)) (cls .f32 (xs.getD (k + 1) 0))] := by simp [reflK, List.range_succ]
theorem refl_klen (xs : List Nat) (k : Nat) : (reflK xs k).length = k := by simp [reflK]
def reflR (zs : List Nat) (l t p : Option Nat) : List (Option Nat) × Bool := if tubeC (zs.map (cls .f32)) l t p then (reflK zs (zs.length - 1), true) else ([], false)
theorem refl_len {zs : List Nat} {l t p : Option Nat} : (reflR zs l t p).1.length ≤ 16 := by
  unfold reflR
  split
  · rename_i h
    have := (tube_len h).2
    simp at this
    simp [refl_klen]; omega
  · exact Nat.zero_le _
theorem areas_at {zs : List Nat} {l t p : Option Nat} (h : tubeC (zs.map (cls .f32)) l t p = true) (q : Nat) (hq : q < zs.length) : fcmp .gtr (ford .f32 (cls .f32 (zs.getD q 0)) (some 0)) = true ∧ fin32 (cls .f32 (zs.getD q 0)) = true := by
  unfold tubeC areasC at h
  simp only [Bool.and_eq_true] at h
  have h2 := List.all_eq_true.1 h.1.2.2 (cls .f32 (zs.getD q 0)) (by
    simp only [List.mem_map]
    exact ⟨zs.getD q 0, by simp [List.getD, hq], rfl⟩)
  unfold areaC at h2
  simpa using h2
theorem refl_fins {zs : List Nat} {l t p : Option Nat} (h : tubeC (zs.map (cls .f32)) l t p = true) : finsC (reflK zs (zs.length - 1)) = true := by
  unfold finsC reflK
  rw [List.all_eq_true]
  intro x hx
  rw [List.mem_map] at hx
  obtain ⟨q, hq, rfl⟩ := hx
  have hq' : q < zs.length - 1 := by simpa using hq
  have a := areas_at h q (by omega)
  have b := areas_at h (q + 1) (by omega)
  exact refl_fin _ _ a.1 a.2 b.1 b.2
theorem own_snoc20 {w : World} {B k : Nat} {v : Value} {ys : List Nat} {r : Nat} (h : w.ownsRow B 32 1 v (k + 1) (ys.map (Value.float .f32) ++ [.float .f32 r])) : Own w B (k + 1) v (ys ++ [r]) := by
  unfold Own; simpa using h
end Go.Proofs.Ythadoamehdnnoaa
