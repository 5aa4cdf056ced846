/- Sounds: lists whose numbers are finite; lists told number by number. -/
import Derived.Test.YthadoamehdnnoaaT15
import Derived.Test.YthadoamehdnnoaaT20
import Derived.Test.YthadoamehdnnoaaV2
import Derived.Deep.AppendLies
namespace Go.Proofs.Ythadoamehdnnoaa
open Go.RowKit Flt
set_option linter.unusedVariables false

theorem areFinite_is (a : Option Addr) (n c : Nat) (zs : List Nat) (V : Bool) (w : World) (h : Holds .f32 w a n zs) (hn : n ≤ 1048576) (hV : finsC (zs.map (cls .f32)) = V) :
    Calls Try.prog 19 #[.slice a n c] w fun e w' => e = .returned (.bool V) ∧ Ext w w' := by
  refine (areFinite_any _ _ _ zs _ h hn).mono ?_
  rintro e w' ⟨rfl, m, rfl⟩
  rw [hV]
  exact ⟨rfl, Ext.drewN (Ext.refl _) _⟩
theorem areFinite_drew (a : Option Addr) (n c : Nat) (zs : List Nat) (V : Bool) (w : World) (h : Holds .f32 w a n zs) (hn : n ≤ 1048576) (hV : finsC (zs.map (cls .f32)) = V) :
    Calls Try.prog 19 #[.slice a n c] w fun e w' => e = .returned (.bool V) ∧ ∃ m, w' = w.drewN m := by
  refine (areFinite_any _ _ _ zs _ h hn).mono ?_
  rintro e w' ⟨rfl, m, rfl⟩
  rw [hV]
  exact ⟨rfl, m, rfl⟩
def soundB (cs : List (Option Nat)) : Bool := decide (cs.length ≤ 256) && finsC cs
theorem isSound_drew (a : Option Addr) (n c : Nat) (zs : List Nat) (V : Bool) (w : World) (h : Holds .f32 w a n zs) (hn : n ≤ 1048576) (hV : soundB (zs.map (cls .f32)) = V) :
    Calls Try.prog 13 #[.slice a n c] w fun e w' => e = .returned (.bool V) ∧ ∃ m, w' = w.drewN m := by
  have HH := hid h
  have HN := hid hn
  have hl := h.1
  by_cases h1 : n ≤ 256
  · have e : finsC (zs.map (cls .f32)) = V := by rw [← hV]; simp [soundB, hl, h1]
    have HE := hid e
    clear h hn hl hV e
    go_enter Try.func13, Try.ntmps13
    go_wp2_with fail
    refine (areFinite_drew _ _ _ zs V _ HH.out HN.out HE.out).mono ?_
    rintro e w1 ⟨rfl, m1, rfl⟩
    go_wp2
    go_ret
    exact ⟨rfl, m1, rfl⟩
  · have e : V = false := by rw [← hV]; simp [soundB, hl, h1]
    subst e
    clear h hn hl hV
    go_enter Try.func13, Try.ntmps13
    go_wp2_with fail
    go_ret
    exact ⟨rfl, 0, rfl⟩
theorem isSound_is (a : Option Addr) (n c : Nat) (zs : List Nat) (V : Bool) (w : World) (h : Holds .f32 w a n zs) (hn : n ≤ 1048576) (hV : soundB (zs.map (cls .f32)) = V) :
    Calls Try.prog 13 #[.slice a n c] w fun e w' => e = .returned (.bool V) ∧ Ext w w' := by
  refine (isSound_drew _ _ _ zs V _ h hn hV).mono ?_
  rintro e w' ⟨rfl, m, rfl⟩
  exact ⟨rfl, Ext.drewN (Ext.refl _) _⟩
/-- a list, if its numbers are finite -/
def finR2 (cs : List (Option Nat)) : List (Option Nat) × Bool := if finsC cs then (cs, true) else ([], false)
/-- a list told number by number -/
def listK (C : Nat → Option Nat) (n : Nat) : List (Option Nat) := (List.range n).map C
theorem listK_succ (C : Nat → Option Nat) (n : Nat) : listK C (n + 1) = listK C n ++ [C n] := by simp [listK, List.range_succ]
theorem listK_len (C : Nat → Option Nat) (n : Nat) : (listK C n).length = n := by simp [listK]
def soundR (C : Nat → Option Nat) (n : Nat) : List (Option Nat) × Bool := finR2 (listK C n)
theorem soundR_len (C : Nat → Option Nat) (n : Nat) : (soundR C n).1.length ≤ n := by
  unfold soundR finR2
  split
  · simp [listK_len]
  · exact Nat.zero_le _
end Go.Proofs.Ythadoamehdnnoaa
