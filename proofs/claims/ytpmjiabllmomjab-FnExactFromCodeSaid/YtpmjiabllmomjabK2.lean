/- The number of a code: what is told. -/
import Derived.Test.YtpmjiabllmomjabK1
import Derived.Test.YtpmjiabllmomjabBox
namespace Go.Proofs.Ytpmjiabllmomjab
open Go.RowKit Flt
set_option linter.unusedVariables false

def fromR (c : Int) : Option Nat × Bool := if 0 ≤ c ∧ c ≤ 255 then (cls .f32 (fromV c), true) else (some 0, false)

theorem fromCode_any (c : Int) (R : Option Nat) (O : Bool) (w : World) (hR : fromR c = (R, O)) : Calls Try.prog 16 #[.int .i64 c] w fun e w' => ∃ r, e = .returned (.tuple #[.float .f32 r, .bool O]) ∧ Is .f32 r R ∧ Ext w w' := by
  by_cases h : 0 ≤ c ∧ c ≤ 255
  · have e : O = true ∧ R = cls .f32 (fromV c) := by unfold fromR at hR; rw [if_pos h] at hR; simpa [eq_comm, and_comm] using hR
    obtain ⟨rfl, rfl⟩ := e
    refine (fromCode_yes c h.1 h.2 w).mono ?_
    rintro e w' ⟨rfl, m, rfl⟩
    exact ⟨_, rfl, rfl, Ext.drewN (Ext.refl _) _⟩
  · have e : O = false ∧ R = some 0 := by unfold fromR at hR; rw [if_neg h] at hR; simpa [eq_comm, and_comm] using hR
    obtain ⟨rfl, rfl⟩ := e
    refine (fromCode_no c h w).mono ?_
    rintro e w' ⟨rfl, rfl⟩
    exact ⟨_, rfl, is_const (by decide), Ext.refl _⟩

theorem sFromCode_any (c : Int) (R : Option Nat) (O : Bool) (w : World) (hR : fromR c = (R, O)) : Calls Try.prog 15 #[.int .i64 c] w fun e w' => ∃ r, e = .returned (.tuple #[.float .f32 r, .bool O]) ∧ Is .f32 r R ∧ Ext w w' := by
  by_cases h : 0 ≤ c ∧ c ≤ 255
  · have e : O = true ∧ R = cls .f32 (fromV c) := by unfold fromR at hR; rw [if_pos h] at hR; simpa [eq_comm, and_comm] using hR
    obtain ⟨rfl, rfl⟩ := e
    refine (sFromCode_yes c h.1 h.2 w).mono ?_
    rintro e w' ⟨rfl, m, rfl⟩
    exact ⟨_, rfl, rfl, Ext.drewN (Ext.refl _) _⟩
  · have e : O = false ∧ R = some 0 := by unfold fromR at hR; rw [if_neg h] at hR; simpa [eq_comm, and_comm] using hR
    obtain ⟨rfl, rfl⟩ := e
    refine (sFromCode_no c h w).mono ?_
    rintro e w' ⟨rfl, rfl⟩
    exact ⟨_, rfl, is_const (by decide), Ext.refl _⟩

end Go.Proofs.Ytpmjiabllmomjab
