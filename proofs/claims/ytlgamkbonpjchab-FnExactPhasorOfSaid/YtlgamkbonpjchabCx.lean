/- Complex numbers: a walk's law on widening. -/
import Derived.Test.YtlgamkbonpjchabIs
namespace Go.Proofs.Ytlgamkbonpjchab.Flt
open Ieee Go.RowKit

theorem run_ftf {P : Program} (w : World) (src dst : TypeId) (hs : P.underlying src = some (.float .f32)) (hd : P.underlying dst = some (.float .f64)) (b : Nat) :
    ∃ r n, (Conv.floatToFloat .f32 b .f64).run P w = .ok (.float .f64 r) (w.drewN n) ∧ cls .f64 r = fwide (cls .f32 b) ∧ r < 2 ^ FloatKind.f64.format.width := by
  obtain ⟨r, n, h1, h2, h3⟩ := run_widen (P := P) w src dst (by rw [hs]; rfl) hd b
  refine ⟨r, n, ?_, h2, h3⟩
  rw [← h1]
  simp [convert, run_underlying hs, run_underlying hd]

section
variable {P : Program} {w : World} {ops : Array Oper} {rest : List Oper} {o : Oper} {a : Act} {Q : Exit → Act → World → Prop}
theorem wpList_cw {src dst : TypeId} {x : Operand} (hop : o.op = Op.convert src dst x) (hw : Region.wanted o (yielded ops a.tmps) = true)
    (hs : P.underlying src = some (.complex .f32)) (hd : P.underlying dst = some (.complex .f64)) (s32 d64 : TypeId) (hs2 : P.underlying s32 = some (.float .f32)) (hd2 : P.underlying d64 = some (.float .f64))
    {b c : Nat} (hx : a.eval x = .complex .f32 b c) {X Y : Option Nat} (hX : Is .f32 b X) (hY : Is .f32 c Y)
    (hK : ∀ r t n, Is .f64 r (fwide X) → Is .f64 t (fwide Y) → wpList P ops Q rest (a.put o.dst (.complex .f64 r t)) (w.drewN n)) :
    wpList P ops Q (o :: rest) a w := by
  refine wpList_wanted hw fun K hK' => ?_
  obtain ⟨r, n, h1, h2, _⟩ := run_ftf (P := P) w s32 d64 hs2 hd2 b
  obtain ⟨t, m, g1, g2, _⟩ := run_ftf (P := P) (w.drewN n) s32 d64 hs2 hd2 c
  have hrun : (convert src dst (.complex .f32 b c)).run P w = .ok (.complex .f64 r t) (w.drewN (n + m)) := by
    simp [convert, run_underlying hs, run_underlying hd, Conv.complexToComplex, h1, g1, World.drewN_drewN]
  have hk := hK' _ _ (hK r t (n + m) (by show cls .f64 r = _; rw [h2, hX.out]) (by show cls .f64 t = _; rw [g2, hY.out]))
  unfold Oper.wp
  simp [execOp, hop, hx, hrun]
  exact hk
end
end Go.Proofs.Ytlgamkbonpjchab.Flt
