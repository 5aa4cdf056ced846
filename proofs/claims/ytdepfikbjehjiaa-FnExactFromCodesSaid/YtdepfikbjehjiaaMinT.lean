/- The lesser of two integers. -/
import Derived.Test.YtdepfikbjehjiaaBox
import Derived.Test.YtdepfikbjehjiaaIs
namespace Go.Proofs.Ytdepfikbjehjiaa
open Go.RowKit Flt
set_option linter.unusedVariables false
theorem wpList_imin {ops : Array Oper} {rest : List Oper} {o : Oper} {a : Act} {Q : Exit → Act → World → Prop} {w : World} {x y : Operand} {t1 t2 : TypeId} (ho : o.op = .call { callee := .builtin .min, args := #[x, y], argTypes := #[t1, t2] }) (hw : Region.wanted o (yielded ops a.tmps) = true) {p q : Int} (hx : a.eval x = .int .i64 p) (hy : a.eval y = .int .i64 q)
    (h : wpList Try.prog ops Q rest (a.put o.dst (.int .i64 (min p q))) w) : wpList Try.prog ops Q (o :: rest) a w := by
  refine wpList_wanted hw fun K hK' => ?_
  have hrun : ∀ ts ty, (Builtin.min_ ts ty #[.int .i64 p, .int .i64 q]).run Try.prog w = .ok (.int .i64 (min p q)) w := by
    intro ts ty
    have e : (if q < p then q else p) = min p q := by split <;> omega
    simp [Builtin.min_, Builtin.min2, e]
  unfold Oper.wp
  have hk := hK' _ _ h
  simp [execOp, ho, resolve, invoke, builtin, hx, hy, hrun, Result.andThen]
  exact hk
end Go.Proofs.Ytdepfikbjehjiaa
