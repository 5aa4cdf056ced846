/- The energy of waves. -/
import Derived.Test.YtnmigjiaeahekaaT15
import Derived.Test.YtnmigjiaeahekaaT5
namespace Go.Proofs.Ytnmigjiaeahekaa
open Go.RowKit Flt
set_option linter.unusedVariables false

def sqC (x y : Option Nat) : Option Nat := fop .add .f32 (fop .mul .f32 x x) (fop .mul .f32 y y)
def energyC (zs rs ls : List Nat) : Nat → Option Nat
  | 0 => some 0
  | k + 1 => fop .add .f32 (energyC zs rs ls k) (fop .mul .f32 (cls .f32 (zs.getD k 0)) (sqC (cls .f32 (rs.getD k 0)) (cls .f32 (ls.getD k 0))))
def energyR (zs rs ls : List Nat) (l t p : Option Nat) : Option Nat × Bool := if wavesB (zs.map (cls .f32)) l t p (rs.map (cls .f32)) (ls.map (cls .f32)) then (finR (energyC zs rs ls zs.length), fin32 (energyC zs rs ls zs.length)) else (some 0, false)
theorem waves_lens {zs rs ls : List Nat} {l t p : Option Nat} (h : wavesB (zs.map (cls .f32)) l t p (rs.map (cls .f32)) (ls.map (cls .f32)) = true) : rs.length = zs.length ∧ ls.length = zs.length := by
  unfold wavesB at h
  simp at h
  exact ⟨h.2.1, h.2.2.1⟩

end Go.Proofs.Ytnmigjiaeahekaa
