/- Joined tubes. -/
import Derived.Test.YthinjgiakaflpabT8
import Derived.Deep.RegionLawGrows
namespace Go.Proofs.Ythinjgiakaflpab
open Go.RowKit Flt
set_option linter.unusedVariables false

theorem Holds.some_of {w : World} {a : Option Addr} {n : Nat} {zs : List Nat} (h : Holds .f32 w a n zs) (h1 : 1 ≤ n) : ∃ b off, a = some ⟨b, off, none⟩ ∧ b < w.heap.size ∧ zs.length = n ∧ ∀ i, i < n → w.cell? ⟨b, off + i, none⟩ = some (.float .f32 (zs.getD i 0)) := by
  obtain ⟨hl, h0 | ⟨b, off, rfl, hb, hc⟩⟩ := h
  · omega
  · exact ⟨b, off, rfl, hb, hl, hc⟩
theorem own_join {w : World} {B k m : Nat} {v : Value} {xs ys : List Nat} (h : w.ownsRow B 22 1 v (k + m) (xs.map (Value.float .f32) ++ ys.map (Value.float .f32))) : Own w B (k + m) v (xs ++ ys) := by
  unfold Own; simpa using h
theorem cells44' {w : World} {b c : Nat} {v0 v1 v2 v3 u0 u1 u2 u3 : Value} (h : Box w b #[v0, v1, v2, v3]) (k : Box w c #[u0, u1, u2, u3]) :
    (w.cell? ⟨b, 0, none⟩ = some v0 ∧ w.cell? ⟨b, 1, none⟩ = some v1 ∧ w.cell? ⟨b, 2, none⟩ = some v2 ∧ w.cell? ⟨b, 3, none⟩ = some v3) ∧ w.cell? ⟨c, 0, none⟩ = some u0 ∧ w.cell? ⟨c, 1, none⟩ = some u1 ∧ w.cell? ⟨c, 2, none⟩ = some u2 ∧ w.cell? ⟨c, 3, none⟩ = some u3 := cells44 h k
def joinT (xs : List (Option Nat)) (l1 t1 p1 : Option Nat) (ys : List (Option Nat)) (l2 t2 p2 : Option Nat) : TR := if tubeC xs l1 t1 p1 && tubeC ys l2 t2 p2 then giveT (xs ++ ys) l1 t1 p2 else zeroT
theorem join_len (xs : List (Option Nat)) (l1 t1 p1 : Option Nat) (ys : List (Option Nat)) (l2 t2 p2 : Option Nat) : (joinT xs l1 t1 p1 ys l2 t2 p2).cs.length ≤ 16 := by
  unfold joinT
  split
  · exact give_len _ _ _ _
  · exact Nat.zero_le _
end Go.Proofs.Ythinjgiakaflpab
