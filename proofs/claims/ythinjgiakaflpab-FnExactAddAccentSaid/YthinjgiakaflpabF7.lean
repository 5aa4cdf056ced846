/- Frames: cells and far stores. -/
import Derived.Test.YthinjgiakaflpabF4
import Derived.Test.YthinjgiakaflpabT18
import Derived.Test.YthinjgiakaflpabT21
namespace Go.Proofs.Ythinjgiakaflpab
open Go.RowKit Flt
set_option linter.unusedVariables false


theorem FrameIs.far4 {w : World} {B b : Nat} {R : FR} {v : Value} (h : FrameIs w B R v) (hb : b < B) (u0 u1 u2 u3 : Value) : FrameIs ((((w.setCell ⟨b, 0, none⟩ u0).setCell ⟨b, 1, none⟩ u1).setCell ⟨b, 2, none⟩ u2).setCell ⟨b, 3, none⟩ u3) B R v := by
  obtain ⟨a, c, l, t, p, zs, h1, h2, h3⟩ := h
  exact ⟨a, c, l, t, p, zs, h1, own_far4 h2 hb _ _ _ _, h3⟩
theorem box_far4 {w : World} {b b' : Nat} {vs : Array Value} (h : Box w b vs) (hb : b ≠ b') (u0 u1 u2 u3 : Value) : Box ((((w.setCell ⟨b', 0, none⟩ u0).setCell ⟨b', 1, none⟩ u1).setCell ⟨b', 2, none⟩ u2).setCell ⟨b', 3, none⟩ u3) b vs :=
  Box.far (Box.far (Box.far (Box.far h hb _) hb _) hb _) hb _
theorem Box.at1 {w w' : World} {o : Obj} {vs : Array Value} (h : Box w' (w.alloc o).drew.heap.size vs) : Box w' (w.heap.size + 1) vs := Box.cast' h (by simp)
theorem infoFr : (Try.prog.info? 89).map (·.size) = some 4 := by kernel_rfl

end Go.Proofs.Ythinjgiakaflpab
