/- Where a sound is loudest. -/
import Derived.Test.YthadoamehdnnoaaV9
import Derived.Test.YthadoamehdnnoaaAbs
import Derived.Test.YthadoamehdnnoaaT17
import Derived.BigQuiet
namespace Go.Proofs.Ythadoamehdnnoaa
open Go.RowKit Flt
set_option linter.unusedVariables false

def sizeW (zs : List Nat) (k : Nat) : Nat := zs.getD k 0 % 2147483648
/-- the first place of the greatest size among the first k -/
def bestP (zs : List Nat) : Nat → Nat
  | 0 => 0
  | k + 1 => if (FloatKind.f32.format.order (sizeW zs k) (sizeW zs (bestP zs k)) == some .gt) = true then k else bestP zs k
theorem bestP_lt (zs : List Nat) : ∀ k, bestP zs k < k ∨ bestP zs k = 0
  | 0 => .inr rfl
  | k + 1 => by
    unfold bestP
    split
    · exact .inl (Nat.lt_succ_self _)
    · rcases bestP_lt zs k with h | h
      · exact .inl (by omega)
      · exact .inr h
structure PR where
  i : Nat
  x : Option Nat
  ok : Bool
def peakR (zs : List Nat) : PR := if soundB (zs.map (cls .f32)) && decide (zs.length ≠ 0) then ⟨bestP zs zs.length, some (sizeW zs (bestP zs zs.length)), true⟩ else ⟨0, some 0, false⟩
theorem fins_at {zs : List Nat} (h : soundB (zs.map (cls .f32)) = true) (k : Nat) (hk : k < zs.length) : fin32 (cls .f32 (zs.getD k 0)) = true := by
  unfold soundB finsC at h
  simp only [Bool.and_eq_true] at h
  refine List.all_eq_true.1 h.2 _ ?_
  simp only [List.mem_map]
  exact ⟨zs.getD k 0, by simp [List.getD, hk], rfl⟩
theorem peak_first {x : Nat} (hf : fin32 (cls .f32 x) = true) : (FloatKind.f32.format.order (x % 2147483648) 3212836864 == some .gt) = true := by
  obtain ⟨_, s, m, e, hr, h1, h2, h3⟩ := fin_read hf
  have e1 : FloatKind.f32.format.read 3212836864 = .number true 8388608 (-23) := by decide
  have e2 : FloatKind.f32.format.read (x % 2147483648) = .number false m e := by rw [read_abs32, hr]; rfl
  have ho : FloatKind.f32.format.order (x % 2147483648) 3212836864 = some (compare (Ieee.signed false m (e - -149).toNat) (Ieee.signed true 8388608 (-23 - -149 : Int).toNat)) := by
    unfold Ieee.Format.order; rw [e2, e1]; exact order_num false true m 8388608 e (-23) (-149) h2 (by omega)
  have hp : Ieee.signed true 8388608 (-23 - -149 : Int).toNat < Ieee.signed false m (e - -149).toNat := by
    have g1 : Ieee.signed true 8388608 (-23 - -149 : Int).toNat < 0 := by decide
    have g2 : (0 : Int) ≤ Ieee.signed false m (e - -149).toNat := by unfold Ieee.signed; simp only [Bool.false_eq_true, if_false]; exact Int.natCast_nonneg _
    exact Int.lt_of_lt_of_le g1 g2
  rw [ho, compare_gt hp]
  rfl
end Go.Proofs.Ythadoamehdnnoaa
