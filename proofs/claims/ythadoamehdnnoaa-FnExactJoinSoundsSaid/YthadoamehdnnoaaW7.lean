/- Ladders. -/
import Derived.Test.YthadoamehdnnoaaW1
import Derived.Test.YthadoamehdnnoaaT9
import Derived.Test.YthadoamehdnnoaaT21
import Derived.Test.YthadoamehdnnoaaT10
namespace Go.Proofs.Ythadoamehdnnoaa
open Go.RowKit Flt
set_option linter.unusedVariables false


def ladderC (cs : List (Option Nat)) : Bool := decide (1 ≤ cs.length) && (decide (cs.length ≤ 16) && cs.all okC)
theorem ladder_bad {zs : List Nat} {j : Nat} (hj : j < zs.length) (h : okC (cls .f32 (zs.getD j 0)) = false) : ladderC (zs.map (cls .f32)) = false := by
  unfold ladderC; rw [all_bad hj h]; simp
theorem ladder_good {zs : List Nat} (h1 : 1 ≤ zs.length) (h2 : zs.length ≤ 16) (h : ∀ j, j < zs.length → okC (cls .f32 (zs.getD j 0)) = true) : ladderC (zs.map (cls .f32)) = true := by
  unfold ladderC; rw [all_good h]; simp [h1, h2]
theorem ladder_len {cs : List (Option Nat)} (h : ladderC cs = true) : 1 ≤ cs.length ∧ cs.length ≤ 16 := by
  unfold ladderC at h
  simp at h
  exact ⟨by omega, by omega⟩
def ladR (cs : List (Option Nat)) : List (Option Nat) × Bool := if ladderC cs then (cs, true) else ([], false)
def mixLR (s : Option Nat) (us vs : List Nat) : List (Option Nat) × Bool := if ladderC (us.map (cls .f32)) && (ladderC (vs.map (cls .f32)) && (decide (us.length = vs.length) && (fcmp .geq (ford .f32 s (some 0)) && fcmp .leq (ford .f32 s (some 1065353216))))) then ladR (mixC s (us.map (cls .f32)) (vs.map (cls .f32))) else ([], false)
theorem ladR_len (cs : List (Option Nat)) : (ladR cs).1.length ≤ 16 := by
  unfold ladR
  split
  · rename_i h; exact (ladder_len h).2
  · exact Nat.zero_le _
theorem mixL_len (s : Option Nat) (us vs : List Nat) : (mixLR s us vs).1.length ≤ 16 := by
  unfold mixLR
  split
  · exact ladR_len _
  · exact Nat.zero_le _


end Go.Proofs.Ythadoamehdnnoaa
