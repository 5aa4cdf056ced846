/- Valid predictors. -/
import Derived.Test.YtofhemganefhcabW1
import Derived.Test.YtofhemganefhcabV1
import Derived.Test.YtofhemganefhcabV4
namespace Go.Proofs.Ytofhemganefhcab
open Go.RowKit Flt
set_option linter.unusedVariables false

def predC (cs : List (Option Nat)) (g : Option Nat) : Bool := decide (1 ≤ cs.length) && (decide (cs.length ≤ 16) && (finsC cs && leastC g))
theorem pred_len {cs : List (Option Nat)} {g : Option Nat} (h : predC cs g = true) : 1 ≤ cs.length ∧ cs.length ≤ 16 := by
  unfold predC at h; simp at h; exact ⟨by omega, by omega⟩
structure QR where
  ok : Bool
  cs : List (Option Nat)
  g : Option Nat
def zeroQ : QR := ⟨false, [], some 0⟩
def giveQ (cs : List (Option Nat)) (g : Option Nat) : QR := if predC cs g then ⟨true, cs, g⟩ else zeroQ
theorem giveQ_len (cs : List (Option Nat)) (g : Option Nat) : (giveQ cs g).cs.length ≤ 16 := by
  unfold giveQ
  split
  · rename_i h; exact (pred_len h).2
  · exact Nat.zero_le _
/-- the value is this predictor, its steps of the call's own -/
def PredIs (w : World) (B : Nat) (R : QR) (v : Value) : Prop := ∃ a c g zs, v = .agg #[.slice a R.cs.length c, .float .f32 g] ∧ Own w B R.cs.length (.slice a R.cs.length c) zs ∧ zs.map (cls .f32) = R.cs ∧ cls .f32 g = R.g
theorem zeroQ_is (w : World) (B : Nat) : PredIs w B zeroQ (.agg #[.slice none 0 0, .float .f32 0]) := ⟨none, 0, 0, [], rfl, own_nil _ _, rfl, cls0⟩
theorem predIs_of {w : World} {B n g : Nat} {a : Option Addr} {c : Nat} {zs : List Nat} (ho : Own w B n (.slice a n c) zs) {G : Option Nat} {cs : List (Option Nat)} (hg : cls .f32 g = G) (hc : zs.map (cls .f32) = cs) : PredIs w B ⟨true, cs, G⟩ (.agg #[.slice a n c, .float .f32 g]) := by
  have hl := Own.len ho
  subst hg hc
  have e2 : (zs.map (cls .f32)).length = n := by simp [hl]
  exact ⟨a, c, g, zs, by simp only [e2], by simp only [e2]; exact ho, rfl, rfl⟩
theorem PredIs.ext {w w' : World} {B : Nat} {R : QR} {v : Value} (h : PredIs w B R v) (e : Ext w w') : PredIs w' B R v := by
  obtain ⟨a, c, g, zs, h1, h2, h3, h4⟩ := h
  exact ⟨a, c, g, zs, h1, Own.ext h2 e, h3, h4⟩
theorem PredIs.base {w : World} {B B' : Nat} {R : QR} {v : Value} (h : PredIs w B R v) (e : B' ≤ B) : PredIs w B' R v := by
  obtain ⟨a, c, g, zs, h1, h2, h3, h4⟩ := h
  exact ⟨a, c, g, zs, h1, Own.base h2 e, h3, h4⟩

set_option maxHeartbeats 4000000 in
set_option maxRecDepth 100000 in
theorem validP_drew (a : Option Addr) (n c g : Nat) (zs : List Nat) (V : Bool) (w : World) (h : Holds .f32 w a n zs) (hn : n ≤ 1048576) (hV : predC (zs.map (cls .f32)) (cls .f32 g) = V) :
    Calls Try.prog 65 #[.agg #[.slice a n c, .float .f32 g]] w fun e w' => e = .returned (.bool V) ∧ ∃ m, w' = (w.alloc (.cells #[.slice a n c, .float .f32 g] 29)).drewN m := by
  have HH := hid h
  have HN := hid hn
  have HL := hid h.1
  have HV := hid hV
  clear h hn hV
  by_cases h1 : ¬ (1 ≤ n)
  · have e : V = false := by rw [← HV.out]; unfold predC; simp [HL.out]; omega
    subst e
    go_enter Try.func65, Try.ntmps65
    go_wp2
    go_ret
    exact ⟨ret_bool (by first | rfl | decide | (simp; done) | (simp; omega)), 0, rfl⟩
  replace h1 := Decidable.not_not.1 h1
  by_cases h2 : ¬ (n ≤ 16)
  · have e : V = false := by rw [← HV.out]; unfold predC; simp [HL.out]; omega
    subst e
    go_enter Try.func65, Try.ntmps65
    go_wp2
    go_ret
    exact ⟨ret_bool (by first | rfl | decide | (simp; done) | (simp; omega)), 0, rfl⟩
  replace h2 := Decidable.not_not.1 h2
  have hi1 : (1 : Int) ≤ (n : Int) := by omega
  have hi2 : (n : Int) ≤ 16 := by omega
  have HP := hid (show V = (finsC (zs.map (cls .f32)) && leastC (cls .f32 g)) from by rw [← HV.out]; unfold predC; rw [decide_eq_true (show 1 ≤ (zs.map (cls .f32)).length by simp [HL.out]; omega), decide_eq_true (show (zs.map (cls .f32)).length ≤ 16 by simp [HL.out]; omega)]; rfl)
  clear HV
  cases hF : finsC (zs.map (cls .f32))
  · have e : V = false := by rw [HP.out, hF]; rfl
    subst e
    go_enter Try.func65, Try.ntmps65
    go_wp2_with (first | (go_at_call 116; with_reducible refine (areFinite_drew _ _ _ zs _ _ (Holds.ext HH.out (by (repeat with_reducible (first | exact Ext.refl _ | exact ext_alloc _ _ | refine Ext.drewN ?_ _ | refine Ext.drew1 ?_ | refine Ext.set ?_ (by dsimp only; omega) _ | refine Ext.alloc ?_ _)))) HN.out hF).mono ?_; rintro e w' ⟨rfl, m1, rfl⟩))
    go_ret
    exact ⟨rfl, _, rfl⟩
  cases hG : fcmp .geq (ford .f32 (cls .f32 g) (some 0))
  · have e : V = false := by rw [HP.out, hF]; unfold leastC; rw [hG]; rfl
    subst e
    go_enter Try.func65, Try.ntmps65
    go_wp2_with (first | (go_at_call 116; with_reducible refine (areFinite_drew _ _ _ zs _ _ (Holds.ext HH.out (by (repeat with_reducible (first | exact Ext.refl _ | exact ext_alloc _ _ | refine Ext.drewN ?_ _ | refine Ext.drew1 ?_ | refine Ext.set ?_ (by dsimp only; omega) _ | refine Ext.alloc ?_ _)))) HN.out hF).mono ?_; rintro e w' ⟨rfl, m1, rfl⟩) | (refine wpList_fcmp rfl rfl rfl rfl rfl (is_self _ _) (is_const (by decide)) ?_; rw [hG]))
    go_ret
    exact ⟨rfl, _, rfl⟩
  cases hX : fin32 (cls .f32 g)
  · have e : V = false := by rw [HP.out, hF]; unfold leastC; rw [hG, hX]; rfl
    subst e
    go_enter Try.func65, Try.ntmps65
    go_wp2_with (first | (go_at_call 116; with_reducible refine (areFinite_drew _ _ _ zs _ _ (Holds.ext HH.out (by (repeat with_reducible (first | exact Ext.refl _ | exact ext_alloc _ _ | refine Ext.drewN ?_ _ | refine Ext.drew1 ?_ | refine Ext.set ?_ (by dsimp only; omega) _ | refine Ext.alloc ?_ _)))) HN.out hF).mono ?_; rintro e w' ⟨rfl, m1, rfl⟩) | (refine wpList_fcmp rfl rfl rfl rfl rfl (is_self _ _) (is_const (by decide)) ?_; rw [hG]) | (go_at_call 101; refine (isFinite_any _ _).mono ?_; rintro e w' ⟨rfl, m2, rfl⟩; rw [hX]))
    go_ret
    exact ⟨rfl, _, rfl⟩
  · have e : V = true := by rw [HP.out, hF]; unfold leastC; rw [hG, hX]; rfl
    subst e
    go_enter Try.func65, Try.ntmps65
    go_wp2_with (first | (go_at_call 116; with_reducible refine (areFinite_drew _ _ _ zs _ _ (Holds.ext HH.out (by (repeat with_reducible (first | exact Ext.refl _ | exact ext_alloc _ _ | refine Ext.drewN ?_ _ | refine Ext.drew1 ?_ | refine Ext.set ?_ (by dsimp only; omega) _ | refine Ext.alloc ?_ _)))) HN.out hF).mono ?_; rintro e w' ⟨rfl, m1, rfl⟩) | (refine wpList_fcmp rfl rfl rfl rfl rfl (is_self _ _) (is_const (by decide)) ?_; rw [hG]) | (go_at_call 101; refine (isFinite_any _ _).mono ?_; rintro e w' ⟨rfl, m2, rfl⟩; rw [hX]))
    go_ret
    exact ⟨rfl, _, rfl⟩

set_option maxHeartbeats 4000000 in
set_option maxRecDepth 100000 in
theorem l04Is_drew (a : Option Addr) (n c g : Nat) (zs : List Nat) (V : Bool) (x : Nat) (w : World) (hb : Box w x #[.slice a n c, .float .f32 g]) (h : Holds .f32 w a n zs) (hn : n ≤ 1048576) (hV : predC (zs.map (cls .f32)) (cls .f32 g) = V) :
    Calls Try.prog 57 #[.pointer (some ⟨x, 0, none⟩)] w fun e w' => e = .returned (.bool V) ∧ ∃ m, w' = w.drewN m := by
  have HH := hid h
  have HN := hid hn
  have HL := hid h.1
  have HV := hid hV
  obtain ⟨q0, q1, ql⟩ := Box.cells2 hb
  clear hb
  clear h hn hV
  by_cases h1 : ¬ (1 ≤ n)
  · have e : V = false := by rw [← HV.out]; unfold predC; simp [HL.out]; omega
    subst e
    go_enter Try.func57, Try.ntmps57
    go_wp2
    go_ret
    exact ⟨ret_bool (by first | rfl | decide | (simp; done) | (simp; omega)), 0, rfl⟩
  replace h1 := Decidable.not_not.1 h1
  by_cases h2 : ¬ (n ≤ 16)
  · have e : V = false := by rw [← HV.out]; unfold predC; simp [HL.out]; omega
    subst e
    go_enter Try.func57, Try.ntmps57
    go_wp2
    go_ret
    exact ⟨ret_bool (by first | rfl | decide | (simp; done) | (simp; omega)), 0, rfl⟩
  replace h2 := Decidable.not_not.1 h2
  have hi1 : (1 : Int) ≤ (n : Int) := by omega
  have hi2 : (n : Int) ≤ 16 := by omega
  have HP := hid (show V = (finsC (zs.map (cls .f32)) && leastC (cls .f32 g)) from by rw [← HV.out]; unfold predC; rw [decide_eq_true (show 1 ≤ (zs.map (cls .f32)).length by simp [HL.out]; omega), decide_eq_true (show (zs.map (cls .f32)).length ≤ 16 by simp [HL.out]; omega)]; rfl)
  clear HV
  cases hF : finsC (zs.map (cls .f32))
  · have e : V = false := by rw [HP.out, hF]; rfl
    subst e
    go_enter Try.func57, Try.ntmps57
    go_wp2_with (first | (go_at_call 74; with_reducible refine (l02Finite_drew _ _ _ zs _ _ (Holds.ext HH.out (by (repeat with_reducible (first | exact Ext.refl _ | exact ext_alloc _ _ | refine Ext.drewN ?_ _ | refine Ext.drew1 ?_ | refine Ext.set ?_ (by dsimp only; omega) _ | refine Ext.alloc ?_ _)))) HN.out hF).mono ?_; rintro e w' ⟨rfl, m1, rfl⟩))
    go_ret
    exact ⟨rfl, _, rfl⟩
  cases hG : leastC (cls .f32 g)
  · have e : V = false := by rw [HP.out, hF, hG]; rfl
    subst e
    go_enter Try.func57, Try.ntmps57
    go_wp2_with (first | (go_at_call 74; with_reducible refine (l02Finite_drew _ _ _ zs _ _ (Holds.ext HH.out (by (repeat with_reducible (first | exact Ext.refl _ | exact ext_alloc _ _ | refine Ext.drewN ?_ _ | refine Ext.drew1 ?_ | refine Ext.set ?_ (by dsimp only; omega) _ | refine Ext.alloc ?_ _)))) HN.out hF).mono ?_; rintro e w' ⟨rfl, m1, rfl⟩) | (go_at_call 113; refine (l02Least_is _ _ _ hG).mono ?_; rintro e w' ⟨rfl, m2, rfl⟩))
    go_ret
    exact ⟨rfl, _, rfl⟩
  · have e : V = true := by rw [HP.out, hF, hG]; rfl
    subst e
    go_enter Try.func57, Try.ntmps57
    go_wp2_with (first | (go_at_call 74; with_reducible refine (l02Finite_drew _ _ _ zs _ _ (Holds.ext HH.out (by (repeat with_reducible (first | exact Ext.refl _ | exact ext_alloc _ _ | refine Ext.drewN ?_ _ | refine Ext.drew1 ?_ | refine Ext.set ?_ (by dsimp only; omega) _ | refine Ext.alloc ?_ _)))) HN.out hF).mono ?_; rintro e w' ⟨rfl, m1, rfl⟩) | (go_at_call 113; refine (l02Least_is _ _ _ hG).mono ?_; rintro e w' ⟨rfl, m2, rfl⟩))
    go_ret
    exact ⟨rfl, _, rfl⟩

theorem validP_is (a : Option Addr) (n c g : Nat) (zs : List Nat) (V : Bool) (w : World) (h : Holds .f32 w a n zs) (hn : n ≤ 1048576) (hV : predC (zs.map (cls .f32)) (cls .f32 g) = V) :
    Calls Try.prog 65 #[.agg #[.slice a n c, .float .f32 g]] w fun e w' => e = .returned (.bool V) ∧ Ext w w' := by
  refine (validP_drew a n c g zs V w h hn hV).mono ?_
  rintro e w' ⟨rfl, m, rfl⟩
  exact ⟨rfl, by (repeat with_reducible (first | exact Ext.refl _ | exact ext_alloc _ _ | refine Ext.drewN ?_ _ | refine Ext.drew1 ?_ | refine Ext.set ?_ (by dsimp only; omega) _ | refine Ext.alloc ?_ _))⟩
set_option maxHeartbeats 4000000 in
set_option maxRecDepth 100000 in
theorem validPOnly_is (a : Option Addr) (n c g B : Nat) (zs : List Nat) (R : QR) (w : World) (h : Own w B n (.slice a n c) zs) (hn : n ≤ 1048576) (hR : giveQ (zs.map (cls .f32)) (cls .f32 g) = R) :
    Calls Try.prog 96 #[.agg #[.slice a n c, .float .f32 g]] w fun e w' => ∃ v, e = .returned (.tuple #[v, .bool R.ok]) ∧ PredIs w' B R v ∧ Ext w w' := by
  have HO := hid h
  have HN := hid hn
  have HR := hid hR
  clear h hn hR
  cases hV : predC (zs.map (cls .f32)) (cls .f32 g)
  · have e : R = zeroQ := by rw [← HR.out]; unfold giveQ; rw [hV]; rfl
    subst e
    go_enter Try.func96, Try.ntmps96
    go_wp2_with (first | (go_at_call 65; with_reducible refine (validP_drew a n c g zs _ _ (Holds.ext (own_hold HO.out) (by (repeat with_reducible (first | exact Ext.refl _ | exact ext_alloc _ _ | refine Ext.drewN ?_ _ | refine Ext.drew1 ?_ | refine Ext.set ?_ (by dsimp only; omega) _ | refine Ext.alloc ?_ _)))) HN.out hV).mono ?_; rintro e w' ⟨rfl, m1, rfl⟩))
    go_returns
    refine ⟨_, rfl, zeroQ_is _ _, ?_⟩
    (repeat with_reducible (first | exact Ext.refl _ | exact ext_alloc _ _ | refine Ext.drewN ?_ _ | refine Ext.drew1 ?_ | refine Ext.set ?_ (by dsimp only; omega) _ | refine Ext.alloc ?_ _))
  · have e : R = ⟨true, zs.map (cls .f32), cls .f32 g⟩ := by rw [← HR.out]; unfold giveQ; rw [hV]; rfl
    subst e
    go_enter Try.func96, Try.ntmps96
    go_wp2_with (first | (go_at_call 65; with_reducible refine (validP_drew a n c g zs _ _ (Holds.ext (own_hold HO.out) (by (repeat with_reducible (first | exact Ext.refl _ | exact ext_alloc _ _ | refine Ext.drewN ?_ _ | refine Ext.drew1 ?_ | refine Ext.set ?_ (by dsimp only; omega) _ | refine Ext.alloc ?_ _)))) HN.out hV).mono ?_; rintro e w' ⟨rfl, m1, rfl⟩))
    go_returns
    refine ⟨_, rfl, predIs_of (Own.ext HO.out (by (repeat with_reducible (first | exact Ext.refl _ | exact ext_alloc _ _ | refine Ext.drewN ?_ _ | refine Ext.drew1 ?_ | refine Ext.set ?_ (by dsimp only; omega) _ | refine Ext.alloc ?_ _)))) rfl rfl, ?_⟩
    (repeat with_reducible (first | exact Ext.refl _ | exact ext_alloc _ _ | refine Ext.drewN ?_ _ | refine Ext.drew1 ?_ | refine Ext.set ?_ (by dsimp only; omega) _ | refine Ext.alloc ?_ _))
set_option maxHeartbeats 4000000 in
set_option maxRecDepth 100000 in
theorem l04Give_is (a : Option Addr) (n c g B : Nat) (zs : List Nat) (R : QR) (w : World) (h : Own w B n (.slice a n c) zs) (hn : n ≤ 1048576) (hR : giveQ (zs.map (cls .f32)) (cls .f32 g) = R) :
    Calls Try.prog 94 #[.agg #[.slice a n c, .float .f32 g]] w fun e w' => ∃ v, e = .returned (.tuple #[v, .bool R.ok]) ∧ PredIs w' B R v ∧ Ext w w' := by
  have HO := hid h
  have HN := hid hn
  have HR := hid hR
  clear h hn hR
  cases hV : predC (zs.map (cls .f32)) (cls .f32 g)
  · have e : R = zeroQ := by rw [← HR.out]; unfold giveQ; rw [hV]; rfl
    subst e
    go_enter Try.func94, Try.ntmps94
    go_wp2_with (first | (go_at_call 57; with_reducible refine (l04Is_drew a n c g zs _ _ _ (Box.ext (box_new (w := w) #[.slice a n c, .float .f32 g] 29) (by (repeat with_reducible (first | exact Ext.refl _ | exact ext_alloc _ _ | refine Ext.drewN ?_ _ | refine Ext.drew1 ?_ | refine Ext.set ?_ (by dsimp only; omega) _ | refine Ext.alloc ?_ _)))) (Holds.ext (own_hold HO.out) (by (repeat with_reducible (first | exact Ext.refl _ | exact ext_alloc _ _ | refine Ext.drewN ?_ _ | refine Ext.drew1 ?_ | refine Ext.set ?_ (by dsimp only; omega) _ | refine Ext.alloc ?_ _)))) HN.out hV).mono ?_; rintro e w' ⟨rfl, m1, rfl⟩))
    go_returns
    refine ⟨_, rfl, zeroQ_is _ _, ?_⟩
    (repeat with_reducible (first | exact Ext.refl _ | exact ext_alloc _ _ | refine Ext.drewN ?_ _ | refine Ext.drew1 ?_ | refine Ext.set ?_ (by dsimp only; omega) _ | refine Ext.alloc ?_ _))
  · have e : R = ⟨true, zs.map (cls .f32), cls .f32 g⟩ := by rw [← HR.out]; unfold giveQ; rw [hV]; rfl
    subst e
    go_enter Try.func94, Try.ntmps94
    go_wp2_with (first | (go_at_call 57; with_reducible refine (l04Is_drew a n c g zs _ _ _ (Box.ext (box_new (w := w) #[.slice a n c, .float .f32 g] 29) (by (repeat with_reducible (first | exact Ext.refl _ | exact ext_alloc _ _ | refine Ext.drewN ?_ _ | refine Ext.drew1 ?_ | refine Ext.set ?_ (by dsimp only; omega) _ | refine Ext.alloc ?_ _)))) (Holds.ext (own_hold HO.out) (by (repeat with_reducible (first | exact Ext.refl _ | exact ext_alloc _ _ | refine Ext.drewN ?_ _ | refine Ext.drew1 ?_ | refine Ext.set ?_ (by dsimp only; omega) _ | refine Ext.alloc ?_ _)))) HN.out hV).mono ?_; rintro e w' ⟨rfl, m1, rfl⟩))
    go_returns
    refine ⟨_, rfl, predIs_of (Own.ext HO.out (by (repeat with_reducible (first | exact Ext.refl _ | exact ext_alloc _ _ | refine Ext.drewN ?_ _ | refine Ext.drew1 ?_ | refine Ext.set ?_ (by dsimp only; omega) _ | refine Ext.alloc ?_ _)))) rfl rfl, ?_⟩
    (repeat with_reducible (first | exact Ext.refl _ | exact ext_alloc _ _ | refine Ext.drewN ?_ _ | refine Ext.drew1 ?_ | refine Ext.set ?_ (by dsimp only; omega) _ | refine Ext.alloc ?_ _))

end Go.Proofs.Ytofhemganefhcab
