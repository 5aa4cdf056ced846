/- The walk's laws on floats, told by classes: what a word's class is, is told as an expression of the classes that came in. -/
import Derived.Test.YthinjgiakaflpabFlt2
import Derived.Test.YthinjgiakaflpabMag2
namespace Go.Proofs.Ythinjgiakaflpab.Flt
open Ieee Go.RowKit

/-- the word is of this class -/
def Is (k : FloatKind) (r : Nat) (X : Option Nat) : Prop := cls k r = X
theorem Is.out {k : FloatKind} {r : Nat} {X : Option Nat} (h : Is k r X) : cls k r = X := h
theorem is_const {k : FloatKind} {c : Nat} (h : nanW k c = false) : Is k c (some c) := cls_num h
theorem is_int {k : FloatKind} (n : Int) : Is k (floatOfInt k n) (some (floatOfInt k n)) := cls_num (show nanW k (floatOfInt k n) = false from write_num k (.number (n < 0) n.natAbs 0) rfl)
theorem is_self (k : FloatKind) (b : Nat) : Is k b (cls k b) := rfl
theorem Is.neg {r : Nat} {X : Option Nat} (h : Is .f64 r X) : Is .f64 (Op.negFloat .f64 r) (fneg X) := by
  show cls .f64 _ = _; rw [cls_neg, h.out]

@[go_sem] theorem unary_neg_float (k : FloatKind) (b : Nat) : Op.unary .neg (.float k b) = pure (.float k (Op.negFloat k b)) := rfl
theorem below_drewN0 {B : Nat} {w w' : World} (h : Below B w w') (n : Nat) : Below B w (w'.drewN n) := ⟨h.os, h.tape, h.output, h.size, h.block⟩

def isCmp : BinOp → Bool
  | .lss | .leq | .gtr | .geq | .eql | .neq => true
  | _ => false
/-- a comparison, of an order -/
def fcmp (op : BinOp) (c : Option Ordering) : Bool := match op with
  | .lss => c == some .lt
  | .leq => c == some .lt || c == some .eq
  | .gtr => c == some .gt
  | .geq => c == some .gt || c == some .eq
  | .eql => c == some .eq
  | .neq => c != some .eq
  | _ => false
/-- the square root, on classes -/
def fsqrt (x : Option Nat) : Option Nat := x.bind fun b => FloatKind.f64.format.sqrt b

section
variable {P : Program} {w : World} {ops : Array Oper} {rest : List Oper} {o : Oper} {a : Act} {Q : Exit → Act → World → Prop}

theorem wpList_fa {op : BinOp} {t ty : TypeId} {x y : Operand} (hop : o.op = Op.binOp op t x y ty) (hops : isArith op = true)
    (hw : Region.wanted o (yielded ops a.tmps) = true) {k : FloatKind} {bx cy : Nat} (hx : a.eval x = .float k bx) (hy : a.eval y = .float k cy) {X Y : Option Nat} (hX : Is k bx X) (hY : Is k cy Y)
    (hK : ∀ r n, Is k r (fop op k X Y) → Hid (r < 2 ^ k.format.width) → wpList P ops Q rest (a.put o.dst (.float k r)) (w.drewN n)) :
    wpList P ops Q (o :: rest) a w :=
  wpList_farith hop hops hw hx hy fun r n h h2 => hK r n (by show cls k r = _; rw [h.out, hX.out, hY.out]) h2

theorem wpList_fw {src dst : TypeId} {x : Operand} (hop : o.op = Op.convert src dst x) (hw : Region.wanted o (yielded ops a.tmps) = true)
    (hs : P.underlying src = some (.float .f32)) (hd : P.underlying dst = some (.float .f64)) {b : Nat} (hx : a.eval x = .float .f32 b) {X : Option Nat} (hX : Is .f32 b X)
    (hK : ∀ r n, Is .f64 r (fwide X) → Hid (r < 2 ^ FloatKind.f64.format.width) → wpList P ops Q rest (a.put o.dst (.float .f64 r)) (w.drewN n)) :
    wpList P ops Q (o :: rest) a w :=
  wpList_widen hop hw hs hd hx fun r n h h2 => hK r n (by show cls .f64 r = _; rw [h.out, hX.out]) h2

theorem wpList_fn {src dst : TypeId} {x : Operand} (hop : o.op = Op.convert src dst x) (hw : Region.wanted o (yielded ops a.tmps) = true)
    (hs : P.underlying src = some (.float .f64)) (hd : P.underlying dst = some (.float .f32)) {b : Nat} (hx : a.eval x = .float .f64 b) {X : Option Nat} (hX : Is .f64 b X) (hf : fits X)
    (hK : ∀ r n, Is .f32 r (fnar X) → Hid (r < 2 ^ FloatKind.f32.format.width) → wpList P ops Q rest (a.put o.dst (.float .f32 r)) (w.drewN n)) :
    wpList P ops Q (o :: rest) a w :=
  wpList_narrow hop hw hs hd hx (by rw [hX.out]; exact hf) fun r n h h2 => hK r n (by show cls .f32 r = _; rw [h.out, hX.out]) h2

theorem wpList_fcmp {op : BinOp} {t ty : TypeId} {x y : Operand} (hop : o.op = Op.binOp op t x y ty) (hops : isCmp op = true)
    (hw : Region.wanted o (yielded ops a.tmps) = true) {k : FloatKind} {bx cy : Nat} (hx : a.eval x = .float k bx) (hy : a.eval y = .float k cy) {X Y : Option Nat} (hX : Is k bx X) (hY : Is k cy Y)
    (hK : wpList P ops Q rest (a.put o.dst (.bool (fcmp op (ford k X Y)))) w) :
    wpList P ops Q (o :: rest) a w := by
  refine wpList_wanted hw fun K hK' => ?_
  have hk := hK' _ _ hK
  have e : k.format.order bx cy = ford k X Y := by rw [order_cls, hX.out, hY.out]
  unfold Oper.wp
  cases op <;> simp [isCmp] at hops <;> simp [execOp, hop, hx, hy, eqGuard, binOp, Op.floatCmp, e] <;> exact hk

/-- the square root's entry, called -/
theorem wpList_fsqrt {f : FuncId} {fn : Func} {x : Tmp} {ts : Array TypeId} (hop : o.op = Op.call { callee := Callee.value (Operand.func f), args := #[.tmp x], argTypes := ts }) (hw : Region.wanted o (yielded ops a.tmps) = true)
    (hf : P.funcs[f]? = some fn) (hname : (fn.name == "runtime.NumGoroutine") = false) (hb : fn.body.isNone = true) (hn : Extern.findNext fn = none) (he : Extern.find fn = some Extern.MathSqrt.sqrt)
    {b : Nat} (hx : a.eval (.tmp x) = .float .f64 b) {X : Option Nat} (hX : Is .f64 b X)
    (hK : ∀ r n, Is .f64 r (fsqrt X) → Hid (r < 2 ^ FloatKind.f64.format.width) → wpList P ops Q rest (a.put o.dst (.float .f64 r)) (w.drewN n)) :
    wpList P ops Q (o :: rest) a w := by
  refine wpList_wanted hw fun K hK' => ?_
  have hrun : ∃ r n, (Extern.MathSqrt.sqrt #[.float .f64 b]).run P w = .ok (.float .f64 r) (w.drewN n) ∧ cls .f64 r = fsqrt X ∧ r < 2 ^ FloatKind.f64.format.width := by
    rw [← hX.out]
    have e : Extern.MathSqrt.sqrt #[.float .f64 b] = (match FloatKind.f64.format.sqrt b with | some r => pure (.float .f64 r) | none => do pure (.float .f64 (← choose (.nanBits .f64 b b)))) := rfl
    rw [e]
    cases hs : FloatKind.f64.format.sqrt b with
    | some r =>
      refine ⟨r, 0, ?_, ?_, FloatKind.f64.format.sqrt_lt hs⟩
      · rfl
      · have hr : nanW .f64 r = false := map_write_num .f64 (fun _ => root_num) hs
        have hb2 : nanW .f64 b = false := by
          rw [← read_nan]
          cases hd : FloatKind.f64.format.read b with
          | number s m i => rfl
          | infinity s => rfl
          | nan s t => unfold Format.sqrt at hs; rw [hd] at hs; simp [Datum.root] at hs
        rw [cls_num hr, cls_num hb2]
        show _ = FloatKind.f64.format.sqrt b
        rw [hs]
    | none =>
      refine ⟨(Question.nanBits .f64 b b).cut (w.tape w.drawn (.nanBits .f64 b b)), 1, ?_, ?_, (tape_nan ..).2⟩
      · simp [Question.forced]
        rfl
      · rw [cls_nan (tape_nan ..).1]
        unfold fsqrt cls
        split
        · rfl
        · show none = FloatKind.f64.format.sqrt b
          rw [hs]
  obtain ⟨r, n, hrun, h1, h2⟩ := hrun
  have hk := hK' _ _ (hK r n h1 (show Hid _ from h2))
  have hc := run_callFunc_extern hf hname hb hn he #[.float .f64 b] w
  rw [hrun] at hc
  unfold Oper.wp
  have hx' : (a.tmps[x]?).getD undef = .float .f64 b := by simpa [Act.eval] using hx
  simp [go_sem, execOp, hop, hx', hc]
  exact hk
end

end Go.Proofs.Ythinjgiakaflpab.Flt
