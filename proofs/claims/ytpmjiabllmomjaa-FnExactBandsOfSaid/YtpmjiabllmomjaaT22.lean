/- Tubes the other way round. -/
import Derived.Test.YtpmjiabllmomjaaT19
import Derived.Deep.RegionLaw
namespace Go.Proofs.Ytpmjiabllmomjaa
open Go.RowKit Flt
set_option linter.unusedVariables false

theorem own_snoc22 {w : World} {B k : Nat} {v : Value} {ys : List Nat} {r : Nat} (h : w.ownsRow B 33 1 v (k + 1) (ys.map (Value.float .f32) ++ [.float .f32 r])) : Own w B (k + 1) v (ys ++ [r]) := by
  unfold Own; simpa using h
def backT (cs : List (Option Nat)) (l t p : Option Nat) : TR := if tubeC cs l t p then ⟨true, cs.reverse, l, p, t⟩ else zeroT
theorem back_len (cs : List (Option Nat)) (l t p : Option Nat) : (backT cs l t p).cs.length ≤ 16 := by
  unfold backT
  split
  · rename_i h
    have := (tube_len h).2
    simp; exact this
  · exact Nat.zero_le _
theorem tube_own {w : World} {B n c : Nat} {a : Option Addr} {zs : List Nat} {l t p : Nat} {cs : List (Option Nat)} {L T P : Option Nat} (ho : Own w B n (.slice a n c) zs) (e : zs.map (cls .f32) = cs) (el : cls .f32 l = L) (et : cls .f32 t = T) (ep : cls .f32 p = P) :
    TubeIs w B ⟨true, cs, L, T, P⟩ (.agg #[.slice a n c, .float .f32 l, .float .f32 t, .float .f32 p]) := by
  have hl := Own.len ho
  subst e el et ep
  have e2 : (zs.map (cls .f32)).length = n := by simp [hl]
  exact ⟨a, c, l, t, p, zs, by simp only [e2], by simp only [e2]; exact ho, rfl, rfl, rfl, rfl⟩
theorem getD_set22 (ys : List Nat) (k q r : Nat) (hk : k < ys.length) : (ys.set k r).getD q 0 = if q = k then r else ys.getD q 0 := by
  by_cases h : q = k
  · subst h; simp [List.getD, hk]
  · rw [if_neg h]; simp [List.getD, List.getElem?_set_ne (Ne.symm h)]
theorem rev_of {ys zs : List Nat} {n : Nat} (h1 : ys.length = n) (h2 : zs.length = n) (h : ∀ q, q < n → ys.getD q 0 = zs.getD (n - 1 - q) 0) : ys = zs.reverse := by
  apply List.ext_getElem?
  intro i
  by_cases hi : i < n
  · have := h i hi
    simp [List.getD, show i < ys.length by omega, show n - 1 - i < zs.length by omega] at this
    rw [List.getElem?_reverse (by omega), List.getElem?_eq_getElem (show i < ys.length by omega), List.getElem?_eq_getElem (show zs.length - 1 - i < zs.length by omega), this]
    congr 2
    omega
  · rw [List.getElem?_eq_none (by omega), List.getElem?_eq_none (by simp; omega)]
end Go.Proofs.Ytpmjiabllmomjaa
