/- Tubes that are given if they are valid. -/
import Derived.Test.YthinjgiakaflpabT2
namespace Go.Proofs.Ythinjgiakaflpab
open Go.RowKit Flt

/-- a tube that comes back, and whether it does, told by classes -/
structure TR where
  ok : Bool
  cs : List (Option Nat)
  l : Option Nat
  t : Option Nat
  p : Option Nat
def zeroT : TR := ⟨false, [], some 0, some 0, some 0⟩
def giveT (cs : List (Option Nat)) (l t p : Option Nat) : TR := if tubeC cs l t p then ⟨true, cs, l, t, p⟩ else zeroT
theorem tube_len {cs : List (Option Nat)} {l t p : Option Nat} (h : tubeC cs l t p = true) : 1 ≤ cs.length ∧ cs.length ≤ 16 := by
  unfold tubeC at h
  cases hA : areasC cs
  · simp [hA] at h
  · exact areas_len hA
theorem give_len (cs : List (Option Nat)) (l t p : Option Nat) : (giveT cs l t p).cs.length ≤ 16 := by
  unfold giveT
  split
  · rename_i h; exact (tube_len h).2
  · exact Nat.zero_le _
/-- the value is this tube, its areas of the call's own -/
def TubeIs (w : World) (B : Nat) (R : TR) (v : Value) : Prop :=
  ∃ a c l t p zs, v = .agg #[.slice a R.cs.length c, .float .f32 l, .float .f32 t, .float .f32 p] ∧ Own w B R.cs.length (.slice a R.cs.length c) zs ∧ zs.map (cls .f32) = R.cs ∧ cls .f32 l = R.l ∧ cls .f32 t = R.t ∧ cls .f32 p = R.p
theorem zero_is (w : World) (B : Nat) : TubeIs w B zeroT (.agg #[.slice none 0 0, .float .f32 0, .float .f32 0, .float .f32 0]) :=
  ⟨none, 0, 0, 0, 0, [], rfl, own_nil _ _, rfl, rfl, rfl, rfl⟩
theorem TubeIs.ext {w w' : World} {B : Nat} {R : TR} {v : Value} (h : TubeIs w B R v) (e : Ext w w') : TubeIs w' B R v := by
  obtain ⟨a, c, l, t, p, zs, h1, h2, h3⟩ := h
  exact ⟨a, c, l, t, p, zs, h1, Own.ext h2 e, h3⟩
theorem TubeIs.base {w : World} {B B' : Nat} {R : TR} {v : Value} (h : TubeIs w B R v) (e : B' ≤ B) : TubeIs w B' R v := by
  obtain ⟨a, c, l, t, p, zs, h1, h2, h3⟩ := h
  exact ⟨a, c, l, t, p, zs, h1, Own.base h2 e, h3⟩
theorem give_yes {w : World} {B n : Nat} {a : Option Addr} {c l t p : Nat} {zs : List Nat} (h : tubeC (zs.map (cls .f32)) (cls .f32 l) (cls .f32 t) (cls .f32 p) = true) (ho : Own w B n (.slice a n c) zs) :
    TubeIs w B (giveT (zs.map (cls .f32)) (cls .f32 l) (cls .f32 t) (cls .f32 p)) (.agg #[.slice a n c, .float .f32 l, .float .f32 t, .float .f32 p]) := by
  have hl := Own.len ho
  unfold giveT
  rw [if_pos h]
  have e : (zs.map (cls .f32)).length = n := by simp [hl]
  exact ⟨a, c, l, t, p, zs, by simp only [e], by simp only [e]; exact ho, rfl, rfl, rfl, rfl⟩

end Go.Proofs.Ythinjgiakaflpab
