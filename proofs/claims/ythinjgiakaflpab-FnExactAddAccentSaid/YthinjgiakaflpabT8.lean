/- Scaled tubes. -/
import Derived.Test.YthinjgiakaflpabT7
namespace Go.Proofs.Ythinjgiakaflpab
open Go.RowKit Flt
set_option linter.unusedVariables false

theorem step_fa {P : Program} {w : World} {ops : Array Oper} {o : Oper} {a : Act} {K : Act → World → Prop} {Q : Exit → Act → World → Prop} {E : Prop} {op : BinOp} {t ty : TypeId} {x y : Operand} (hgd : o.guard = none) (hop : o.op = Op.binOp op t x y ty) (hops : isArith op = true)
    {k : FloatKind} {bx cy : Nat} (hx : a.eval x = .float k bx) (hy : a.eval y = .float k cy)
    (hK : ∀ r n, Hid (cls k r = fop op k (cls k bx) (cls k cy)) → K (a.put o.dst (.float k r)) (w.drewN n)) :
    if Region.wanted o (yielded ops a.tmps) = true then Oper.wp P o a w K Q else E := by
  have hw : Region.wanted o (yielded ops a.tmps) = true := by simp [Region.wanted, hgd]
  rw [if_pos hw]
  have hops := isArith_or hops
  obtain ⟨r, n, hrun, h1, h2⟩ := run_farith (P := P) w op hops t k bx cy
  unfold Oper.wp
  have hk := hK r n (hid h1)
  rcases hops with rfl | rfl | rfl | rfl <;> simp [execOp, hop, hx, hy, hrun, eqGuard] <;> exact hk

def scaleC (X : Option Nat) (cs : List (Option Nat)) : List (Option Nat) := cs.map fun x => fop .mul .f32 x X
def scaleT (cs : List (Option Nat)) (l t p X : Option Nat) : TR := if tubeC cs l t p then giveT (scaleC X cs) l t p else zeroT
theorem scaleC_snoc (X : Option Nat) (zs : List Nat) (k : Nat) (h : k < zs.length) : scaleC X ((zs.take (k + 1)).map (cls .f32)) = scaleC X ((zs.take k).map (cls .f32)) ++ [fop .mul .f32 (cls .f32 (zs.getD k 0)) X] := by
  rw [take_snoc_getD zs k h]; simp [scaleC]
theorem own_snoc {w : World} {B k : Nat} {v : Value} {ys : List Nat} {r : Nat} (h : w.ownsRow B 22 1 v (k + 1) (ys.map (Value.float .f32) ++ [.float .f32 r])) : Own w B (k + 1) v (ys ++ [r]) := by
  unfold Own; simpa using h
theorem give_ok {cs : List (Option Nat)} {l t p : Option Nat} (h : tubeC cs l t p = true) : (giveT cs l t p).ok = true := by unfold giveT; rw [if_pos h]
theorem give_no {cs : List (Option Nat)} {l t p : Option Nat} (h : tubeC cs l t p = false) : giveT cs l t p = zeroT := by unfold giveT; rw [if_neg (by simp [h])]
end Go.Proofs.Ythinjgiakaflpab
