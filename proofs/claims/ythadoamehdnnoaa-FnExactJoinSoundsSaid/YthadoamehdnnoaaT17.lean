/- Waves that are the same. -/
import Derived.Test.YthadoamehdnnoaaT8
import Derived.Deep.RegionHeld3
import Derived.BigQuiet
import Derived.Test.YthadoamehdnnoaaNum
namespace Go.Proofs.Ythadoamehdnnoaa
open Go.RowKit Flt
set_option linter.unusedVariables false

def eqW (x y : Nat) : Bool := bitsC (cls .f32 x) == bitsC (cls .f32 y)
def sameB (xs ys : List Nat) : Bool := decide (xs.length = ys.length) && (List.range xs.length).all fun q => eqW (xs.getD q 0) (ys.getD q 0)
theorem same_bad {xs ys : List Nat} {q : Nat} (hq : q < xs.length) (h : eqW (xs.getD q 0) (ys.getD q 0) = false) : sameB xs ys = false := by
  unfold sameB
  have : ((List.range xs.length).all fun q => eqW (xs.getD q 0) (ys.getD q 0)) = false := by
    rw [List.all_eq_false]
    exact ⟨q, List.mem_range.2 hq, by rw [h]; decide⟩
  rw [this]; simp
theorem same_good {xs ys : List Nat} (hl : xs.length = ys.length) (h : ∀ q, q < xs.length → eqW (xs.getD q 0) (ys.getD q 0) = true) : sameB xs ys = true := by
  unfold sameB
  have : ((List.range xs.length).all fun q => eqW (xs.getD q 0) (ys.getD q 0)) = true := by
    rw [List.all_eq_true]
    intro q hq
    exact h q (List.mem_range.1 hq)
  rw [this]; simp [hl]
theorem same_len {xs ys : List Nat} (h : xs.length ≠ ys.length) : sameB xs ys = false := by unfold sameB; simp [h]
def Words (n : Nat) (xs : List Nat) : Prop := ∀ q, q < n → xs.getD q 0 < 4294967296
theorem row_words {w : World} {a : Option Addr} {l c : Nat} {zs : List Nat} (h : IsRowF .f32 w a l c zs) : Words l (zs.take l) := by
  intro q hq
  rcases h with ⟨_, rfl, _⟩ | ⟨x, _, h1, h2, h3, _, h4⟩
  · omega
  · have hz : q < zs.length := by omega
    rw [getD_take _ _ _ hq]
    have hm : zs.getD q 0 ∈ zs := by simp [List.getD, hz]
    exact wf32 (h4 _ hm)
theorem two_cells {w : World} {a1 a2 : Option Addr} {n : Nat} {xs ys : List Nat} (h1 : Holds .f32 w a1 n xs) (h2 : Holds .f32 w a2 n ys) : ∀ k, k < n → ∃ b off b' off', a1 = some ⟨b, off, none⟩ ∧ a2 = some ⟨b', off', none⟩ ∧ w.cell? ⟨b, off + k, none⟩ = some (.float .f32 (xs.getD k 0)) ∧ w.cell? ⟨b', off' + k, none⟩ = some (.float .f32 (ys.getD k 0)) := by
  intro k hk
  rcases h1.2 with h0 | ⟨b, off, rfl, hb, hc⟩
  · omega
  · rcases h2.2 with h0 | ⟨b', off', rfl, hb', hc'⟩
    · omega
    · exact ⟨b, off, b', off', rfl, rfl, hc k hk, hc' k hk⟩

end Go.Proofs.Ythadoamehdnnoaa
