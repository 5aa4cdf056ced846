/- Sounds of chapter 4, as the reference tells them. -/
import Derived.Test.YthadoamehdnnoaaV9
import Derived.Test.YthadoamehdnnoaaSum
namespace Go.Proofs.Ythadoamehdnnoaa
open Go.RowKit Flt
set_option linter.unusedVariables false

theorem signed_val (s : Bool) (m k : Nat) : Ieee.signed s m k = if s then -((m * 2 ^ k : Nat) : Int) else ((m * 2 ^ k : Nat) : Int) := by
  unfold Ieee.signed
  cases s <;> simp [Nat.shiftLeft_eq]

theorem l02Finite_drew (a : Option Addr) (n c : Nat) (zs : List Nat) (V : Bool) (w : World) (h : Holds .f32 w a n zs) (hn : n ≤ 1048576) (hV : finsC (zs.map (cls .f32)) = V) :
    Calls Try.prog 18 #[.slice a n c] w fun e w' => e = .returned (.bool V) ∧ ∃ m, w' = w.drewN m := by
  refine (l02Finite_any _ _ _ zs _ h hn).mono ?_
  rintro e w' ⟨rfl, m, rfl⟩
  rw [hV]
  exact ⟨rfl, m, rfl⟩

theorem l04Sound_drew (a : Option Addr) (n c : Nat) (zs : List Nat) (V : Bool) (w : World) (h : Holds .f32 w a n zs) (hn : n ≤ 1048576) (hV : soundB (zs.map (cls .f32)) = V) :
    Calls Try.prog 10 #[.slice a n c] w fun e w' => e = .returned (.bool V) ∧ ∃ m, w' = w.drewN m := by
  have HH := hid h
  have HN := hid hn
  have hl := h.1
  by_cases h1 : n ≤ 256
  · have e : finsC (zs.map (cls .f32)) = V := by rw [← hV]; simp [soundB, hl, h1]
    have HE := hid e
    clear h hn hl hV e
    go_enter Try.func10, Try.ntmps10
    go_wp2_with (go_at_call 17; refine (l01Few_any _ _ _ HN.out _).mono ?_; rintro e w' ⟨rfl, rfl⟩; rw [decide_eq_true h1])
    refine (l02Finite_drew _ _ _ zs V _ HH.out HN.out HE.out).mono ?_
    rintro e w1 ⟨rfl, m1, rfl⟩
    go_wp2
    go_ret
    exact ⟨rfl, m1, rfl⟩
  · have e : V = false := by rw [← hV]; simp [soundB, hl, h1]
    subst e
    clear h hn hl hV
    go_enter Try.func10, Try.ntmps10
    go_wp2_with (go_at_call 17; refine (l01Few_any _ _ _ HN.out _).mono ?_; rintro e w' ⟨rfl, rfl⟩; rw [decide_eq_false h1])
    go_ret
    exact ⟨rfl, 0, rfl⟩
theorem l04Sound_is (a : Option Addr) (n c : Nat) (zs : List Nat) (V : Bool) (w : World) (h : Holds .f32 w a n zs) (hn : n ≤ 1048576) (hV : soundB (zs.map (cls .f32)) = V) :
    Calls Try.prog 10 #[.slice a n c] w fun e w' => e = .returned (.bool V) ∧ Ext w w' := by
  refine (l04Sound_drew _ _ _ zs V _ h hn hV).mono ?_
  rintro e w' ⟨rfl, m, rfl⟩
  exact ⟨rfl, Ext.drewN (Ext.refl _) _⟩

end Go.Proofs.Ythadoamehdnnoaa
