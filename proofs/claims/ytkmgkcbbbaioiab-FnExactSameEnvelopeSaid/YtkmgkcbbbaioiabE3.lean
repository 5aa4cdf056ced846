/- Envelopes: what is equal; contracts that the laws want. -/
import Derived.Test.YtkmgkcbbbaioiabE2
import Derived.Test.YtkmgkcbbbaioiabV4
namespace Go.Proofs.Ytkmgkcbbbaioiab
open Go.RowKit Flt
set_option linter.unusedVariables false

theorem eqEnvelope_yes (a1 b1 a2 b2 : Option Addr) (n c1 m d1 c2 d2 : Nat) (ts us : List Int) (zs ys : List Nat) (w : World) (h1 : HoldsI w a1 n ts) (k1 : Holds .f32 w b1 m zs) (h2 : HoldsI w a2 n us) (k2 : Holds .f32 w b2 m ys) (hn : n ≤ 1048576) (hm : m ≤ 1048576) (he : ts = us) (hz : zs.map (cls .f32) = ys.map (cls .f32)) :
    Calls Try.prog 19 #[.agg #[.slice a1 n c1, .slice b1 m d1], .agg #[.slice a2 n c2, .slice b2 m d2]] w fun e w' => e = .returned (.bool true) ∧ Ext w w' := by
  have H1 := hid h1
  have H2 := hid h2
  have K1 := hid k1
  have K2 := hid k2
  clear h1 h2 k1 k2
  go_enter Try.func19, Try.ntmps19
  go_wp2_with fail
  obtain ⟨w0, hw0⟩ : ∃ u, u = ((w.alloc (.cells #[.slice a1 n c1, .slice b1 m d1] 28)).alloc (.cells #[.slice a2 n c2, .slice b2 m d2] 28)) := ⟨_, rfl⟩
  rw [← hw0]
  have EX := hid (show Ext w w0 from by rw [hw0]; (repeat with_reducible (first | exact Ext.refl _ | exact ext_alloc _ _ | refine Ext.drewN ?_ _ | refine Ext.drew1 ?_ | refine Ext.set ?_ (by dsimp only; omega) _ | refine Ext.alloc ?_ _)))
  have A : Hid (Box w0 w.heap.size #[.slice a1 n c1, .slice b1 m d1]) := by rw [hw0]; exact hid (Box.alloc (box_new (w := w) #[.slice a1 n c1, .slice b1 m d1] 28) _)
  have B : Hid (Box w0 (w.heap.size + 1) #[.slice a2 n c2, .slice b2 m d2]) := by rw [hw0]; exact hid (Box.cast' (box_new (w := w.alloc (.cells #[.slice a1 n c1, .slice b1 m d1] 28)) #[.slice a2 n c2, .slice b2 m d2] 28) (by simp))
  clear hw0
  refine (eqInts_any _ _ n _ _ ts us _ (HoldsI.ext H1.out EX.out) (HoldsI.ext H2.out EX.out) hn he).mono ?_
  rintro e w1 ⟨rfl, E1⟩
  have A1 := hid (Box.ext A.out E1)
  have B1 := hid (Box.ext B.out E1)
  have EY := hid (Ext.trans EX.out E1)
  clear E1
  obtain ⟨x0, x1, xl⟩ := Box.cells2 A1.out
  obtain ⟨y0, y1, yl⟩ := Box.cells2 B1.out
  go_wp2_with fail
  refine (eqList_any _ _ m _ _ zs ys _ (Holds.ext K1.out EY.out) (Holds.ext K2.out EY.out) hm hz).mono ?_
  rintro e w2 ⟨rfl, E2⟩
  go_wp2
  go_ret
  exact ⟨rfl, Ext.trans EY.out E2⟩
theorem validEnv_ext (a b : Option Addr) (n c m d : Nat) (ts : List Int) (zs : List Nat) (V : Bool) (w : World) (h1 : HoldsI w a n ts) (h2 : Holds .f32 w b m zs) (hn : n ≤ 1048576) (hm : m ≤ 1048576) (hV : envC ts (zs.map (cls .f32)) = V) :
    Calls Try.prog 18 #[.agg #[.slice a n c, .slice b m d]] w fun e w' => e = .returned (.bool V) ∧ Ext w w' := by
  refine (validEnv_any _ _ _ _ _ _ ts zs V _ h1 h2 hn hm hV).mono ?_
  rintro e w' ⟨rfl, q, rfl⟩
  refine ⟨rfl, ?_⟩
  (repeat with_reducible (first | exact Ext.refl _ | exact ext_alloc _ _ | refine Ext.drewN ?_ _ | refine Ext.drew1 ?_ | refine Ext.set ?_ (by dsimp only; omega) _ | refine Ext.alloc ?_ _))
theorem sValidEnv_ext (a b : Option Addr) (n c m d : Nat) (ts : List Int) (zs : List Nat) (V : Bool) (w : World) (h1 : HoldsI w a n ts) (h2 : Holds .f32 w b m zs) (hn : n ≤ 1048576) (hm : m ≤ 1048576) (hV : envC ts (zs.map (cls .f32)) = V) :
    Calls Try.prog 16 #[.agg #[.slice a n c, .slice b m d]] w fun e w' => e = .returned (.bool V) ∧ Ext w w' := by
  have H1 := hid h1
  have H2 := hid h2
  clear h1 h2
  go_enter Try.func16, Try.ntmps16
  go_wp2_with fail
  refine (l03Env_any _ _ _ _ _ _ _ ts zs V _ (box_new _ _) (HoldsI.ext H1.out (ext_alloc _ _)) (Holds.alloc H2.out _) hn hm hV).mono ?_
  rintro e w' ⟨rfl, q, rfl⟩
  go_wp2
  go_ret
  refine ⟨rfl, ?_⟩
  (repeat with_reducible (first | exact Ext.refl _ | exact ext_alloc _ _ | refine Ext.drewN ?_ _ | refine Ext.drew1 ?_ | refine Ext.set ?_ (by dsimp only; omega) _ | refine Ext.alloc ?_ _))
end Go.Proofs.Ytkmgkcbbbaioiab
