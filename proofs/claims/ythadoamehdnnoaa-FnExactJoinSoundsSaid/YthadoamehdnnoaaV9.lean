/- Two sounds together. -/
import Derived.Test.YthadoamehdnnoaaV5
import Derived.Test.YthadoamehdnnoaaV1
import Derived.Test.YthadoamehdnnoaaTail2
import Derived.Test.YthadoamehdnnoaaMany
namespace Go.Proofs.Ythadoamehdnnoaa
open Go.RowKit Flt
set_option linter.unusedVariables false

theorem ListIs.base {w : World} {B B' : Nat} {R : List (Option Nat)} {v : Value} (h : ListIs w B R v) (e : B' ≤ B) : ListIs w B' R v := by
  obtain ⟨a, c, zs, h1, h2, h3⟩ := h
  exact ⟨a, c, zs, h1, Own.base h2 e, h3⟩
def mixsC (x y : Option Nat) (us vs : List Nat) (k : Nat) : Option Nat := fop .add .f32 (fop .mul .f32 x (cls .f32 (us.getD k 0))) (fop .mul .f32 y (cls .f32 (vs.getD k 0)))
def mixsR (x y : Option Nat) (us vs : List Nat) : List (Option Nat) × Bool := if soundB (us.map (cls .f32)) && (soundB (vs.map (cls .f32)) && (decide (us.length = vs.length) && (fin32 x && fin32 y))) then soundR (mixsC x y us vs) us.length else ([], false)
theorem sound_len {cs : List (Option Nat)} (h : soundB cs = true) : cs.length ≤ 256 := by
  unfold soundB at h; simp at h; exact h.1
theorem mixs_len (x y : Option Nat) (us vs : List Nat) : (mixsR x y us vs).1.length ≤ 256 := by
  unfold mixsR
  split
  · rename_i h
    simp at h
    have h1 := sound_len h.1
    have := soundR_len (mixsC x y us vs) us.length
    simp at h1
    omega
  · exact Nat.zero_le _
theorem cell_at {w wr : World} {a : Option Addr} {n : Nat} {zs : List Nat} (h : Holds .f32 w a n zs) (e : Ext w wr) (k : Nat) (hk : k < n) : ∃ b off, a = some ⟨b, off, none⟩ ∧ wr.cell? ⟨b, off + k, none⟩ = some (.float .f32 (zs.getD k 0)) := by
  rcases h.2 with h0 | ⟨b, off, rfl, hb, hc⟩
  · omega
  · exact ⟨b, off, rfl, (Below.cell e (p := ⟨b, off + k, none⟩) hb).trans (hc k hk)⟩
end Go.Proofs.Ythadoamehdnnoaa
