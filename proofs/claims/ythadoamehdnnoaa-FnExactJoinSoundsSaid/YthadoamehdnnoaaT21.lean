/- Mixed tubes. -/
import Derived.Test.YthadoamehdnnoaaT10
import Derived.Test.YthadoamehdnnoaaTail2
import Derived.Test.YthadoamehdnnoaaT19
import Derived.Test.YthadoamehdnnoaaT17
namespace Go.Proofs.Ythadoamehdnnoaa
open Go.RowKit Flt
set_option linter.unusedVariables false

theorem product_comm (x y : Ieee.Datum) : x.product y = y.product x := by
  cases x <;> cases y <;> simp [Ieee.Datum.product, Nat.mul_comm, Int.add_comm, bne_comm]
theorem fop_mul_comm (k : FloatKind) (x y : Option Nat) : fop .mul k x y = fop .mul k y x := by
  cases x with
  | none => cases y <;> rfl
  | some a =>
    cases y with
    | none => rfl
    | some b =>
      show ((k.format.read a).product (k.format.read b)).map k.format.write = ((k.format.read b).product (k.format.read a)).map k.format.write
      rw [product_comm]
def mixC (S : Option Nat) (cs ds : List (Option Nat)) : List (Option Nat) := (List.range cs.length).map fun q => betC (cs.getD q none) (ds.getD q none) S
def mixK (S : Option Nat) (xs ys : List Nat) (k : Nat) : List (Option Nat) := (List.range k).map fun q => betC (cls .f32 (xs.getD q 0)) (cls .f32 (ys.getD q 0)) S
theorem mix_snoc (S : Option Nat) (xs ys : List Nat) (k : Nat) : mixK S xs ys (k + 1) = mixK S xs ys k ++ [betC (cls .f32 (xs.getD k 0)) (cls .f32 (ys.getD k 0)) S] := by simp [mixK, List.range_succ]
theorem mix_all (S : Option Nat) {xs ys : List Nat} {n : Nat} (h1 : xs.length = n) (h2 : ys.length = n) : mixK S xs ys n = mixC S (xs.map (cls .f32)) (ys.map (cls .f32)) := by
  unfold mixK mixC
  simp only [List.length_map, h1]
  apply List.map_congr_left
  intro q hq
  have hq' : q < n := by simpa using hq
  simp [List.getD, show q < xs.length by omega, show q < ys.length by omega]
def mixT (cs : List (Option Nat)) (l t p : Option Nat) (ds : List (Option Nat)) (l2 t2 p2 S : Option Nat) : TR :=
  if tubeC cs l t p = true ∧ tubeC ds l2 t2 p2 = true ∧ cs.length = ds.length ∧ shareC S = true then giveT (mixC S cs ds) l t p else zeroT
theorem mix_len (cs : List (Option Nat)) (l t p : Option Nat) (ds : List (Option Nat)) (l2 t2 p2 S : Option Nat) : (mixT cs l t p ds l2 t2 p2 S).cs.length ≤ 16 := by
  unfold mixT
  split
  · exact give_len _ _ _ _
  · exact Nat.zero_le _
end Go.Proofs.Ythadoamehdnnoaa
