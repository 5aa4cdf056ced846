/- Sums and products of lists. -/
import Derived.Test.YthadoamehdnnoaaList
namespace Go.Proofs.Ythadoamehdnnoaa
open Go.RowKit Flt

theorem l01Few_any (a : Option Addr) (n c : Nat) (hn : n ≤ 1048576) (w : World) : Calls Try.prog 17 #[.slice a n c] w fun e w' => e = .returned (.bool (decide (n ≤ 256))) ∧ w = w' := by
  by_cases h : n ≤ 256
  all_goals
    go_enter Try.func17, Try.ntmps17
    go_wp2
    go_ret
    exact ⟨ret_bool (by simp <;> omega), rfl⟩
end Go.Proofs.Ythadoamehdnnoaa
