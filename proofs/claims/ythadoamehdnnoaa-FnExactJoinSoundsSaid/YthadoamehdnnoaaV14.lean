/- A sound that begins and ends softly: the closure and the program's contract. -/
import Derived.Test.YthadoamehdnnoaaV12
import Derived.Test.YthadoamehdnnoaaShare
namespace Go.Proofs.Ythadoamehdnnoaa
open Go.RowKit Flt
set_option linter.unusedVariables false

def ratioC (a b : Int) : Option Nat := fop .quo .f32 (some (floatOfInt .f32 a)) (some (floatOfInt .f32 b))
def softIn (zs : List Nat) (i k : Nat) : Option Nat := if k < i then fop .mul .f32 (cls .f32 (zs.getD k 0)) (ratioC ((k : Int) + 1) ((i : Int) + 1)) else cls .f32 (zs.getD k 0)
def softC (zs : List Nat) (i o n k : Nat) : Option Nat := if n - k ≤ o then fop .mul .f32 (softIn zs i k) (ratioC ((n : Int) - (k : Int)) ((o : Int) + 1)) else softIn zs i k
def softR (zs : List Nat) (i o : Int) : List (Option Nat) × Bool := if soundB (zs.map (cls .f32)) && (decide (0 ≤ i) && (decide (i ≤ zs.length) && (decide (0 ≤ o) && decide (o ≤ zs.length)))) then soundR (softC zs i.toNat o.toNat zs.length) zs.length else ([], false)
theorem soft_len (zs : List Nat) (i o : Int) : (softR zs i o).1.length ≤ 256 := by
  unfold softR
  split
  · rename_i h
    simp only [Bool.and_eq_true] at h
    have h1 := sound_len h.1
    have := soundR_len (softC zs i.toNat o.toNat zs.length) zs.length
    simp at h1
    omega
  · exact Nat.zero_le _
theorem mul_share {x : Nat} {a b : Nat} (ha : a ≠ 0) (hb : b < 258) (hab : a ≤ b) (hf : fin32 (cls .f32 x) = true) : ∃ r, fop .mul .f32 (cls .f32 x) (ratioC (a : Int) (b : Int)) = cls .f32 r ∧ fin32 (cls .f32 r) = true := by
  obtain ⟨q, n, j, h1, h2, h3, h4⟩ := share_le ha hb hab
  unfold ratioC
  rw [h1]
  exact mul_share_fin hf h2 h3 h4
theorem softIn_word (zs : List Nat) (i k : Nat) (hi : i ≤ 256) (hf : fin32 (cls .f32 (zs.getD k 0)) = true) : ∃ r, softIn zs i k = cls .f32 r ∧ fin32 (cls .f32 r) = true := by
  unfold softIn
  split
  · rename_i h
    exact mul_share (x := zs.getD k 0) (a := k + 1) (b := i + 1) (by omega) (by omega) (by omega) hf
  · exact ⟨_, rfl, hf⟩
theorem softC_word (zs : List Nat) (i o n k : Nat) (hi : i ≤ 256) (ho : o ≤ 256) (hk : k < n) (hf : fin32 (cls .f32 (zs.getD k 0)) = true) : ∃ r, softC zs i o n k = cls .f32 r ∧ fin32 (cls .f32 r) = true := by
  obtain ⟨r, h1, h2⟩ := softIn_word zs i k hi hf
  unfold softC
  rw [h1]
  split
  · rename_i h
    have := mul_share (x := r) (a := n - k) (b := o + 1) (by omega) (by omega) (by omega) h2
    rw [show ((n - k : Nat) : Int) = (n : Int) - (k : Int) from by omega] at this
    exact this
  · exact ⟨_, rfl, h2⟩
theorem soft_all {zs : List Nat} {n i o : Nat} (hn : zs.length = n) (hs : soundB (zs.map (cls .f32)) = true) (hi : i ≤ 256) (ho : o ≤ 256) : soundR (softC zs i o n) n = (listK (softC zs i o n) n, true) := by
  unfold soundR finR2
  rw [if_pos]
  unfold finsC listK
  rw [List.all_eq_true]
  intro X hX
  obtain ⟨k, hk, rfl⟩ := List.mem_map.1 hX
  have hk2 := List.mem_range.1 hk
  obtain ⟨r, h1, h2⟩ := softC_word zs i o n k hi ho hk2 (fins_at hs k (by omega))
  rw [h1]; exact h2
end Go.Proofs.Ythadoamehdnnoaa
