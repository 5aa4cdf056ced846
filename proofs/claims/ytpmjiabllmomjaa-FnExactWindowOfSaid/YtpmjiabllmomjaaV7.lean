/- Numbers that tremble. -/
import Derived.Test.YtpmjiabllmomjaaV5
import Derived.Test.YtpmjiabllmomjaaSineT
namespace Go.Proofs.Ytpmjiabllmomjaa
open Go.RowKit Flt
set_option linter.unusedVariables false

/-- the sine of turns, as a function of classes -/
noncomputable def sineF (x : Option Nat) : Option Nat := by
  classical exact if h : ∃ r, sineResult x r then Classical.choose h else none
theorem sineF_of {x r : Option Nat} (h : sineResult x r) : sineF x = r := by
  have hx : ∃ r, sineResult x r := ⟨r, h⟩
  unfold sineF
  rw [dif_pos hx]
  exact sine_one (Classical.choose_spec hx) h
theorem sine_is (b : Nat) (X : Option Nat) (hX : Is .f32 b X) (w : World) : Calls Try.prog 80 #[.float .f32 b] w fun e w' => ∃ r, e = .returned (.float .f32 r) ∧ Is .f32 r (sineF X) ∧ ∃ m, w' = w.drewN m := by
  refine (sineTurns_any b w).mono ?_
  rintro e w' ⟨r, Y, rfl, hr, hs, m, rfl⟩
  rw [hX.out] at hs
  exact ⟨r, rfl, by rw [sineF_of hs]; exact hr, m, rfl⟩
theorem l01Sine_is (b : Nat) (X : Option Nat) (hX : Is .f32 b X) (w : World) : Calls Try.prog 79 #[.float .f32 b] w fun e w' => ∃ r, e = .returned (.float .f32 r) ∧ Is .f32 r (sineF X) ∧ ∃ m, w' = w.drewN m := by
  refine (l01Sine_any b w).mono ?_
  rintro e w' ⟨r, Y, rfl, hr, hs, m, rfl⟩
  rw [hX.out] at hs
  exact ⟨r, rfl, by rw [sineF_of hs]; exact hr, m, rfl⟩
noncomputable def tremC (b d t : Option Nat) (k : Nat) : Option Nat := fop .mul .f32 b (fop .add .f32 (some 1065353216) (fop .mul .f32 d (sineF (fop .mul .f32 t (some (floatOfInt .f32 (k : Int)))))))
noncomputable def tremR (b d t : Option Nat) (n : Int) : List (Option Nat) × Bool := if finsC [b, d, t] && (decide (1 ≤ n) && decide (n ≤ 256)) then soundR (tremC b d t) n.toNat else ([], false)
theorem trem_len (b d t : Option Nat) (n : Int) : (tremR b d t n).1.length ≤ 256 := by
  unfold tremR
  split
  · rename_i h
    simp at h
    have := soundR_len (tremC b d t) n.toNat
    omega
  · exact Nat.zero_le _
end Go.Proofs.Ytpmjiabllmomjaa
