/- Two sounds as one: the program. -/
import Derived.Test.YthadoamehdnnoaaW17q
import Derived.Test.YthadoamehdnnoaaW17r
namespace Go.Proofs.Ythadoamehdnnoaa
open Go.RowKit Flt
set_option linter.unusedVariables false

set_option maxHeartbeats 4000000 in
set_option maxRecDepth 100000 in
theorem joinS_any (ba oa bb ob n m c1 c2 : Nat) (o : Int) (us vs : List Nat) (R : List (Option Nat)) (O : Bool) (w : World) (h1 : Holds .f32 w (some ⟨ba, oa, none⟩) n us) (h2 : Holds .f32 w (some ⟨bb, ob, none⟩) m vs) (hn : n ≤ 1048576) (hm : m ≤ 1048576) (k1 : n ≤ c1) (k2 : m ≤ c2) (hR : joinSR us vs o = (R, O)) :
    Calls Try.prog 6 #[.slice (some ⟨ba, oa, none⟩) n c1, .slice (some ⟨bb, ob, none⟩) m c2, .int .i64 o] w fun e w' => ∃ v, e = .returned (.tuple #[v, .bool O]) ∧ ListIs w' w.heap.size R v ∧ Ext w w' := by
  have H1 := hid h1
  have H2 := hid h2
  have HN := hid hn
  have HM := hid hm
  have HR := hid hR
  clear h1 h2 hn hm hR
  cases hA : soundB (us.map (cls .f32))
  · have e : O = false ∧ R = [] := by have := HR.out; unfold joinSR at this; rw [hA] at this; simpa [eq_comm, and_comm] using this
    obtain ⟨rfl, rfl⟩ := e
    go_enter Try.func6, Try.ntmps6
    go_wp2_with (first | (go_at_call 13; with_reducible refine (isSound_drew _ n _ us _ _ (Holds.ext H1.out (by (repeat with_reducible (first | exact Ext.refl _ | exact ext_alloc _ _ | refine Ext.drewN ?_ _ | refine Ext.drew1 ?_ | refine Ext.set ?_ (by dsimp only; omega) _ | refine Ext.alloc ?_ _)))) HN.out hA).mono ?_; rintro e w' ⟨rfl, m1, rfl⟩))
    go_returns
    refine ⟨_, rfl, nil_is _ _, ?_⟩
    (repeat with_reducible (first | exact Ext.refl _ | exact ext_alloc _ _ | refine Ext.drewN ?_ _ | refine Ext.drew1 ?_ | refine Ext.set ?_ (by dsimp only; omega) _ | refine Ext.alloc ?_ _))
  cases hB : soundB (vs.map (cls .f32))
  · have e : O = false ∧ R = [] := by have := HR.out; unfold joinSR at this; rw [hA, hB] at this; simpa [eq_comm, and_comm] using this
    obtain ⟨rfl, rfl⟩ := e
    go_enter Try.func6, Try.ntmps6
    go_wp2_with (first | (go_at_call 13; with_reducible refine (isSound_drew _ n _ us _ _ (Holds.ext H1.out (by (repeat with_reducible (first | exact Ext.refl _ | exact ext_alloc _ _ | refine Ext.drewN ?_ _ | refine Ext.drew1 ?_ | refine Ext.set ?_ (by dsimp only; omega) _ | refine Ext.alloc ?_ _)))) HN.out hA).mono ?_; rintro e w' ⟨rfl, m1, rfl⟩) | (go_at_call 13; with_reducible refine (isSound_drew _ m _ vs _ _ (Holds.ext H2.out (by (repeat with_reducible (first | exact Ext.refl _ | exact ext_alloc _ _ | refine Ext.drewN ?_ _ | refine Ext.drew1 ?_ | refine Ext.set ?_ (by dsimp only; omega) _ | refine Ext.alloc ?_ _)))) HM.out hB).mono ?_; rintro e w' ⟨rfl, m2, rfl⟩))
    go_returns
    refine ⟨_, rfl, nil_is _ _, ?_⟩
    (repeat with_reducible (first | exact Ext.refl _ | exact ext_alloc _ _ | refine Ext.drewN ?_ _ | refine Ext.drew1 ?_ | refine Ext.set ?_ (by dsimp only; omega) _ | refine Ext.alloc ?_ _))
  by_cases ho0 : o < 0
  · have e : O = false ∧ R = [] := by
      have := HR.out
      unfold joinSR at this
      rw [hA, hB, H1.out.1, H2.out.1, if_neg (by simp; omega)] at this
      simpa [eq_comm, and_comm] using this
    obtain ⟨rfl, rfl⟩ := e
    go_enter Try.func6, Try.ntmps6
    go_wp2_with (first | (go_at_call 13; with_reducible refine (isSound_drew _ n _ us _ _ (Holds.ext H1.out (by (repeat with_reducible (first | exact Ext.refl _ | exact ext_alloc _ _ | refine Ext.drewN ?_ _ | refine Ext.drew1 ?_ | refine Ext.set ?_ (by dsimp only; omega) _ | refine Ext.alloc ?_ _)))) HN.out hA).mono ?_; rintro e w' ⟨rfl, m1, rfl⟩) | (go_at_call 13; with_reducible refine (isSound_drew _ m _ vs _ _ (Holds.ext H2.out (by (repeat with_reducible (first | exact Ext.refl _ | exact ext_alloc _ _ | refine Ext.drewN ?_ _ | refine Ext.drew1 ?_ | refine Ext.set ?_ (by dsimp only; omega) _ | refine Ext.alloc ?_ _)))) HM.out hB).mono ?_; rintro e w' ⟨rfl, m2, rfl⟩) | (at_builtin; refine wpList_imin2 rfl rfl rfl rfl HMNI.out ?_))
    go_returns
    refine ⟨_, rfl, nil_is _ _, ?_⟩
    (repeat with_reducible (first | exact Ext.refl _ | exact ext_alloc _ _ | refine Ext.drewN ?_ _ | refine Ext.drew1 ?_ | refine Ext.set ?_ (by dsimp only; omega) _ | refine Ext.alloc ?_ _))
  by_cases ho1 : ¬ (o ≤ n ∧ o ≤ m)
  · have e : O = false ∧ R = [] := by
      have := HR.out
      unfold joinSR at this
      rw [hA, hB, H1.out.1, H2.out.1, if_neg (by simp; omega)] at this
      simpa [eq_comm, and_comm] using this
    obtain ⟨rfl, rfl⟩ := e
    have hon : ¬ o < 0 := ho0
    have hx : (if m < n then (m : Int) else (n : Int)) < o := by split <;> omega
    go_enter Try.func6, Try.ntmps6
    go_wp2_with (first | (go_at_call 13; with_reducible refine (isSound_drew _ n _ us _ _ (Holds.ext H1.out (by (repeat with_reducible (first | exact Ext.refl _ | exact ext_alloc _ _ | refine Ext.drewN ?_ _ | refine Ext.drew1 ?_ | refine Ext.set ?_ (by dsimp only; omega) _ | refine Ext.alloc ?_ _)))) HN.out hA).mono ?_; rintro e w' ⟨rfl, m1, rfl⟩) | (go_at_call 13; with_reducible refine (isSound_drew _ m _ vs _ _ (Holds.ext H2.out (by (repeat with_reducible (first | exact Ext.refl _ | exact ext_alloc _ _ | refine Ext.drewN ?_ _ | refine Ext.drew1 ?_ | refine Ext.set ?_ (by dsimp only; omega) _ | refine Ext.alloc ?_ _)))) HM.out hB).mono ?_; rintro e w' ⟨rfl, m2, rfl⟩) | (at_builtin; refine wpList_imin2 rfl rfl rfl rfl HMNI.out ?_))
    all_goals
      go_returns
      refine ⟨_, rfl, nil_is _ _, ?_⟩
      (repeat with_reducible (first | exact Ext.refl _ | exact ext_alloc _ _ | refine Ext.drewN ?_ _ | refine Ext.drew1 ?_ | refine Ext.set ?_ (by dsimp only; omega) _ | refine Ext.alloc ?_ _))
  replace ho1 := Decidable.not_not.1 ho1
  obtain ⟨o, rfl⟩ : ∃ q : Nat, o = (q : Int) := ⟨o.toNat, by omega⟩
  have HS : sndR (joinL us vs o) = (R, O) := (by
    have := HR.out
    unfold joinSR at this
    rw [hA, hB, H1.out.1, H2.out.1, if_pos (by simp; omega)] at this
    exact this)
  have hon : o ≤ n := by omega
  have hom : o ≤ m := by omega
  obtain ⟨d, hd⟩ : ∃ d : Nat, d + o = n := ⟨n - o, by omega⟩
  by_cases hc1 : d = c1
  · by_cases hc2 : o = c2
    · exact joinS_11 ba oa bb ob n m c1 c2 o d us vs R O w H1.out H2.out HN.out HM.out k1 k2 hA hB HS hd hom hc1 hc2
    · exact joinS_10 ba oa bb ob n m c1 c2 o d us vs R O w H1.out H2.out HN.out HM.out k1 k2 hA hB HS hd hom hc1 (by omega)
  · by_cases hc2 : o = c2
    · exact joinS_01 ba oa bb ob n m c1 c2 o d us vs R O w H1.out H2.out HN.out HM.out k1 k2 hA hB HS hd hom hc1 hc2
    · exact joinS_00 ba oa bb ob n m c1 c2 o d us vs R O w H1.out H2.out HN.out HM.out k1 k2 hA hB HS hd hom hc1 (by omega)

end Go.Proofs.Ythadoamehdnnoaa
