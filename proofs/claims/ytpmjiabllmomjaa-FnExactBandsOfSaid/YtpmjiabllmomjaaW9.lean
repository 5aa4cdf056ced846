/- Valid predictors. -/
import Derived.Test.YtpmjiabllmomjaaW1
import Derived.Test.YtpmjiabllmomjaaV1
import Derived.Test.YtpmjiabllmomjaaV4
import Derived.Test.YtpmjiabllmomjaaT1
namespace Go.Proofs.Ytpmjiabllmomjaa
open Go.RowKit Flt
set_option linter.unusedVariables false


def predC (cs : List (Option Nat)) (g : Option Nat) : Bool := decide (1 ≤ cs.length) && (decide (cs.length ≤ 16) && (finsC cs && leastC g))
theorem pred_len {cs : List (Option Nat)} {g : Option Nat} (h : predC cs g = true) : 1 ≤ cs.length ∧ cs.length ≤ 16 := by
  unfold predC at h; simp at h; exact ⟨by omega, by omega⟩
structure QR where
  ok : Bool
  cs : List (Option Nat)
  g : Option Nat
def zeroQ : QR := ⟨false, [], some 0⟩
def giveQ (cs : List (Option Nat)) (g : Option Nat) : QR := if predC cs g then ⟨true, cs, g⟩ else zeroQ
theorem giveQ_len (cs : List (Option Nat)) (g : Option Nat) : (giveQ cs g).cs.length ≤ 16 := by
  unfold giveQ
  split
  · rename_i h; exact (pred_len h).2
  · exact Nat.zero_le _
/-- the value is this predictor, its steps of the call's own -/
def PredIs (w : World) (B : Nat) (R : QR) (v : Value) : Prop := ∃ a c g zs, v = .agg #[.slice a R.cs.length c, .float .f32 g] ∧ Own w B R.cs.length (.slice a R.cs.length c) zs ∧ zs.map (cls .f32) = R.cs ∧ cls .f32 g = R.g
theorem zeroQ_is (w : World) (B : Nat) : PredIs w B zeroQ (.agg #[.slice none 0 0, .float .f32 0]) := ⟨none, 0, 0, [], rfl, own_nil _ _, rfl, cls0⟩
theorem predIs_of {w : World} {B n g : Nat} {a : Option Addr} {c : Nat} {zs : List Nat} (ho : Own w B n (.slice a n c) zs) {G : Option Nat} {cs : List (Option Nat)} (hg : cls .f32 g = G) (hc : zs.map (cls .f32) = cs) : PredIs w B ⟨true, cs, G⟩ (.agg #[.slice a n c, .float .f32 g]) := by
  have hl := Own.len ho
  subst hg hc
  have e2 : (zs.map (cls .f32)).length = n := by simp [hl]
  exact ⟨a, c, g, zs, by simp only [e2], by simp only [e2]; exact ho, rfl, rfl⟩
theorem PredIs.ext {w w' : World} {B : Nat} {R : QR} {v : Value} (h : PredIs w B R v) (e : Ext w w') : PredIs w' B R v := by
  obtain ⟨a, c, g, zs, h1, h2, h3, h4⟩ := h
  exact ⟨a, c, g, zs, h1, Own.ext h2 e, h3, h4⟩
theorem PredIs.base {w : World} {B B' : Nat} {R : QR} {v : Value} (h : PredIs w B R v) (e : B' ≤ B) : PredIs w B' R v := by
  obtain ⟨a, c, g, zs, h1, h2, h3, h4⟩ := h
  exact ⟨a, c, g, zs, h1, Own.base h2 e, h3, h4⟩



end Go.Proofs.Ytpmjiabllmomjaa
