/- The sine of a 32-bit number of turns. -/
import Derived.Test.YtlgamkbonpjchacSineS
namespace Go.Proofs.Ytlgamkbonpjchac
open Go.RowKit Flt

/-- the class of the sine -/
def sineResult (x : Option Nat) (r : Option Nat) : Prop :=
  (fin32 x = false ∧ r = none) ∨ (fin32 x = true ∧ fcmp .geq (ford .f64 (fabs (fwide x)) (some 4841369599423283200)) = true ∧ r = some 0) ∨
  (fin32 x = true ∧ fcmp .geq (ford .f64 (fabs (fwide x)) (some 4841369599423283200)) = false ∧ ∃ n : Int, (∀ b, fwide x = some b → floatToIntVal .f64 b .i64 = some n) ∧ r = fnar (sineC (fracC (fwide x) n)))

theorem conv_fact {b : Nat} {X : Option Nat} (hX : Is .f64 b X) (hs : ∃ c, X = some c) {n : Int} (h : ∀ c, X = some c → floatToIntVal .f64 c .i64 = some n) (w : World) :
    (convert 28 2 (.float .f64 b)).run Try.prog w = .ok (.int .i64 n) w := by
  obtain ⟨c, rfl⟩ := hs
  have e := cls_word hX.out
  subst e
  exact run_convert_float_int w 28 2 .f64 .i64 _ n (by rw [Try.underlying28]; rfl) Try.underlying2 (h _ rfl)

theorem notANumber_any (w : World) : Calls Try.prog 51 #[] w fun e w' => e = .returned (.float .f32 2143289344) ∧ w = w' := by
  go_enter Try.func51, Try.ntmps51
  go_wp2
  go_ret
  exact ⟨rfl, rfl⟩
theorem is_nan32 : Is .f32 2143289344 none := by show cls .f32 2143289344 = none; decide
end Go.Proofs.Ytlgamkbonpjchac
