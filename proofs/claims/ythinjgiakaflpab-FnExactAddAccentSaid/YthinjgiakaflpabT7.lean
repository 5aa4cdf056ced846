/- Tubes that come back in a result's own block; tubes with other ends. -/
import Derived.Test.YthinjgiakaflpabT4
namespace Go.Proofs.Ythinjgiakaflpab
open Go.RowKit Flt

theorem TubeIs.far4 {w : World} {B b : Nat} {R : TR} {v : Value} (h : TubeIs w B R v) (hb : b < B) (u0 u1 u2 u3 : Value) :
    TubeIs ((((w.setCell ⟨b, 0, none⟩ u0).setCell ⟨b, 1, none⟩ u1).setCell ⟨b, 2, none⟩ u2).setCell ⟨b, 3, none⟩ u3) B R v := by
  obtain ⟨a, c, l, t, p, zs, h1, h2, h3⟩ := h
  have hn : (Value.slice a R.cs.length c).ownBlock ≠ some b := fun hk => by have := (Own.block h2 _ hk).1; omega
  exact ⟨a, c, l, t, p, zs, h1, Own.far (Own.far (Own.far (Own.far h2 hn _) hn _) hn _) hn _, h3⟩
theorem box_set4 {w : World} {b : Nat} {v0 v1 v2 v3 : Value} (h : Box w b #[v0, v1, v2, v3]) (u0 u1 u2 u3 : Value) :
    Box ((((w.setCell ⟨b, 0, none⟩ u0).setCell ⟨b, 1, none⟩ u1).setCell ⟨b, 2, none⟩ u2).setCell ⟨b, 3, none⟩ u3) b #[u0, u1, u2, u3] :=
  Box.eqv (box_set (j := 3) (box_set (j := 2) (box_set (j := 1) (box_set (j := 0) h u0) u1) u2) u3) (by rfl)
theorem ext_set4 {a w : World} {b : Nat} (h : Ext a w) (hb : a.heap.size ≤ b) (u0 u1 u2 u3 : Value) :
    Ext a ((((w.setCell ⟨b, 0, none⟩ u0).setCell ⟨b, 1, none⟩ u1).setCell ⟨b, 2, none⟩ u2).setCell ⟨b, 3, none⟩ u3) :=
  Ext.set (Ext.set (Ext.set (Ext.set h hb _) hb _) hb _) hb _
theorem Box.cast {w : World} {b b' : Nat} {vs : Array Value} (h : Box w b vs) (e : b = b') : Box w b' vs := e ▸ h
def setEndsT (cs : List (Option Nat)) (l t p x y z : Option Nat) : TR := if tubeC cs l t p then giveT cs x y z else zeroT
def zv : Array Value := #[.slice none 0 0, .float .f32 0, .float .f32 0, .float .f32 0]

end Go.Proofs.Ythinjgiakaflpab