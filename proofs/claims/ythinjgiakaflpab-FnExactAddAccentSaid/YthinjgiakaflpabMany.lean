/- More laws for regions that draw their order: comparisons of floats, operations on classes, what is not wanted. -/
import Derived.Test.YthinjgiakaflpabDraw
import Derived.Test.YthinjgiakaflpabIs
namespace Go.Proofs.Ythinjgiakaflpab.Flt
open Go.RowKit
section
variable {P : Program} {ops : Array Oper} {md : Region.Mode} {C : World → Prop}

theorem wpM_skip {Q : Act → Prop} {a : Act} {o : Oper} {rest : List Oper} (hw : Region.wanted o (yielded ops a.tmps) = false)
    (h : wpM P ops C Q rest (a.put o.dst undef)) : wpM P ops C Q (o :: rest) a := by
  unfold wpM
  rw [if_neg (by rw [hw]; decide)]
  exact h
theorem wpM_cons {Q : Act → Prop} {a : Act} {o : Oper} {rest : List Oper} (h : wpM P ops C Q (o :: rest) a) : wpM P ops C Q (o :: rest) a := h
theorem wpM_want {Q : Act → Prop} {a : Act} {o : Oper} {rest : List Oper} (hm : multiOp o = false) (hw : Region.wanted o (yielded ops a.tmps) = true)
    (h : ∀ K : Act → Prop, (∀ a, wpM P ops C Q rest a → K a) → o.quiet P a C K) : wpM P ops C Q (o :: rest) a :=
  wpM_quiet hm fun K hK => by rw [if_pos hw]; exact h K hK
theorem wpM_fcmp {Q : Act → Prop} {a : Act} {o : Oper} {rest : List Oper} {op : BinOp} {t ty : TypeId} {x y : Operand} (hop : o.op = Op.binOp op t x y ty) (hops : isCmp op = true)
    (hw : Region.wanted o (yielded ops a.tmps) = true) {k : FloatKind} {bx cy : Nat} (hx : a.eval x = .float k bx) (hy : a.eval y = .float k cy) {X Y : Option Nat} (hX : Is k bx X) (hY : Is k cy Y)
    (hK : wpM P ops C Q rest (a.put o.dst (.bool (fcmp op (ford k X Y))))) : wpM P ops C Q (o :: rest) a := by
  have hm : multiOp o = false := by
    unfold multiOp; rw [hop]
    cases op <;> simp [isCmp] at hops <;> rfl
  refine wpM_quiet hm fun K hK' => ?_
  rw [if_pos hw]
  have e : k.format.order bx cy = ford k X Y := by rw [order_cls, hX.out, hY.out]
  refine ⟨_, fun w hw' => ?_, hK' _ hK⟩
  have hrun : (execOp a.eval o).run P w = .ok (.value (.bool (fcmp op (ford k X Y)))) w := by
    cases op <;> simp [isCmp] at hops <;> simp [execOp, hop, hx, hy, eqGuard, binOp, Op.floatCmp, e] <;> rfl
  unfold Oper.quietAt
  rw [hrun]
  exact ⟨rfl, rfl⟩
theorem wpM_fa {Q : Act → Prop} {a : Act} {o : Oper} {rest : List Oper} {w : World} {op : BinOp} {t ty : TypeId} {x y : Operand} (hop : o.op = Op.binOp op t x y ty) (hops : isArith op = true)
    (hw : Region.wanted o (yielded ops a.tmps) = true) {k : FloatKind} {bx cy : Nat} (hx : a.eval x = .float k bx) (hy : a.eval y = .float k cy) {X Y : Option Nat} (hX : Is k bx X) (hY : Is k cy Y)
    (hK : ∀ r, Is k r (fop op k X Y) → Hid (r < 2 ^ k.format.width) → wpM P ops (fun w' => ∃ n, w' = w.drewN n) Q rest (a.put o.dst (.float k r))) : wpM P ops (fun w' => ∃ n, w' = w.drewN n) Q (o :: rest) a := by
  have hm : multiOp o = true := by
    unfold multiOp; rw [hop]; exact hops
  refine wpM_mult hm hw (mult_farith hop hops hx hy fun r hr hrw => hK r ?_ hrw)
  show cls k r = _
  rw [hr.out, hX.out, hY.out]
theorem wpM_fw {Q : Act → Prop} {a : Act} {o : Oper} {rest : List Oper} {w : World} {src dst : TypeId} {x : Operand} (hop : o.op = Op.convert src dst x) (hw : Region.wanted o (yielded ops a.tmps) = true)
    (hs : P.underlying src = some (.float .f32)) (hd : P.underlying dst = some (.float .f64)) {b : Nat} (hx : a.eval x = .float .f32 b) {X : Option Nat} (hX : Is .f32 b X)
    (hK : ∀ r, Is .f64 r (fwide X) → Hid (r < 2 ^ FloatKind.f64.format.width) → wpM P ops (fun w' => ∃ n, w' = w.drewN n) Q rest (a.put o.dst (.float .f64 r))) : wpM P ops (fun w' => ∃ n, w' = w.drewN n) Q (o :: rest) a := by
  have hm : multiOp o = true := by unfold multiOp; rw [hop]
  refine wpM_mult hm hw (mult_widen hop hs hd hx fun r hr hrw => hK r ?_ hrw)
  show cls .f64 r = _
  rw [hr.out, hX.out]
end
end Go.Proofs.Ythinjgiakaflpab.Flt
