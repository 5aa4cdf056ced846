/- The volume of a tube. -/
import Derived.Test.YthinjgiakaflpabT4
import Derived.Test.YthinjgiakaflpabSum
namespace Go.Proofs.Ythinjgiakaflpab
open Go.RowKit Flt

def finR (x : Option Nat) : Option Nat := if fin32 x then x else some 0
def volR (zs : List Nat) (l t p : Option Nat) : Option Nat × Bool := if tubeC (zs.map (cls .f32)) l t p then (finR (sumF zs), fin32 (sumF zs)) else (some 0, false)
theorem cls0 : Is .f32 0 (some 0) := is_const (by decide)
theorem finiteOnly_any (b : Nat) (X : Option Nat) (hX : Is .f32 b X) (w : World) : Calls Try.prog 158 #[.float .f32 b] w fun e w' => ∃ r, e = .returned (.tuple #[.float .f32 r, .bool (fin32 X)]) ∧ Is .f32 r (finR X) ∧ ∃ m, w' = w.drewN m := by
  have HX := hid hX.out
  cases hf : fin32 X
  · have HF := hid (show finR X = some 0 from by unfold finR; rw [hf]; rfl)
    clear hX
    go_enter Try.func158, Try.ntmps158
    go_wp2_with (go_at_call 104; refine (isFinite_any _ _).mono ?_; rintro e w' ⟨rfl, m, rfl⟩; simp only [HX.out, hf])
    go_ret2
    exact ⟨_, rfl, by rw [HF.out]; exact cls0, _, rfl⟩
  · have HF := hid (show finR X = X from by unfold finR; rw [hf]; rfl)
    clear hX
    go_enter Try.func158, Try.ntmps158
    go_wp2_with (go_at_call 104; refine (isFinite_any _ _).mono ?_; rintro e w' ⟨rfl, m, rfl⟩; simp only [HX.out, hf])
    go_ret2
    exact ⟨_, rfl, by rw [HF.out]; exact HX.out, _, rfl⟩
theorem l02Number_any (b : Nat) (X : Option Nat) (hX : Is .f32 b X) (w : World) : Calls Try.prog 156 #[.float .f32 b] w fun e w' => ∃ r, e = .returned (.tuple #[.float .f32 r, .bool (fin32 X)]) ∧ Is .f32 r (finR X) ∧ ∃ m, w' = w.drewN m := by
  have HX := hid hX.out
  cases hf : fin32 X
  · have HF := hid (show finR X = some 0 from by unfold finR; rw [hf]; rfl)
    clear hX
    go_enter Try.func156, Try.ntmps156
    go_wp2_with (go_at_call 101; refine (l01Finite_any _ _).mono ?_; rintro e w' ⟨rfl, m, rfl⟩; simp only [HX.out, hf])
    go_ret2
    exact ⟨_, rfl, by rw [HF.out]; exact cls0, _, rfl⟩
  · have HF := hid (show finR X = X from by unfold finR; rw [hf]; rfl)
    clear hX
    go_enter Try.func156, Try.ntmps156
    go_wp2_with (go_at_call 101; refine (l01Finite_any _ _).mono ?_; rintro e w' ⟨rfl, m, rfl⟩; simp only [HX.out, hf])
    go_ret2
    exact ⟨_, rfl, by rw [HF.out]; exact HX.out, _, rfl⟩
end Go.Proofs.Ythinjgiakaflpab
