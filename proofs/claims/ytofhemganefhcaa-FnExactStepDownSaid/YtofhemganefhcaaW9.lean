/- Valid predictors. -/
import Derived.Test.YtofhemganefhcaaW1
import Derived.Test.YtofhemganefhcaaV1
import Derived.Test.YtofhemganefhcaaV4
import Derived.Test.YtofhemganefhcaaT1
namespace Go.Proofs.Ytofhemganefhcaa
open Go.RowKit Flt
set_option linter.unusedVariables false


def predC (cs : List (Option Nat)) (g : Option Nat) : Bool := decide (1 ≤ cs.length) && (decide (cs.length ≤ 16) && (finsC cs && leastC g))
theorem pred_len {cs : List (Option Nat)} {g : Option Nat} (h : predC cs g = true) : 1 ≤ cs.length ∧ cs.length ≤ 16 := by
  unfold predC at h; simp at h; exact ⟨by omega, by omega⟩
structure QR where
  ok : Bool
  cs : List (Option Nat)
  g : Option Nat
def zeroQ : QR := ⟨false, [], some 0⟩
def giveQ (cs : List (Option Nat)) (g : Option Nat) : QR := if predC cs g then ⟨true, cs, g⟩ else zeroQ
theorem giveQ_len (cs : List (Option Nat)) (g : Option Nat) : (giveQ cs g).cs.length ≤ 16 := by
  unfold giveQ
  split
  · rename_i h; exact (pred_len h).2
  · exact Nat.zero_le _
/-- the value is this predictor, its steps of the call's own -/
def PredIs (w : World) (B : Nat) (R : QR) (v : Value) : Prop := ∃ a c g zs, v = .agg #[.slice a R.cs.length c, .float .f32 g] ∧ Own w B R.cs.length (.slice a R.cs.length c) zs ∧ zs.map (cls .f32) = R.cs ∧ cls .f32 g = R.g
theorem zeroQ_is (w : World) (B : Nat) : PredIs w B zeroQ (.agg #[.slice none 0 0, .float .f32 0]) := ⟨none, 0, 0, [], rfl, own_nil _ _, rfl, cls0⟩
theorem predIs_of {w : World} {B n g : Nat} {a : Option Addr} {c : Nat} {zs : List Nat} (ho : Own w B n (.slice a n c) zs) {G : Option Nat} {cs : List (Option Nat)} (hg : cls .f32 g = G) (hc : zs.map (cls .f32) = cs) : PredIs w B ⟨true, cs, G⟩ (.agg #[.slice a n c, .float .f32 g]) := by
  have hl := Own.len ho
  subst hg hc
  have e2 : (zs.map (cls .f32)).length = n := by simp [hl]
  exact ⟨a, c, g, zs, by simp only [e2], by simp only [e2]; exact ho, rfl, rfl⟩
theorem PredIs.ext {w w' : World} {B : Nat} {R : QR} {v : Value} (h : PredIs w B R v) (e : Ext w w') : PredIs w' B R v := by
  obtain ⟨a, c, g, zs, h1, h2, h3, h4⟩ := h
  exact ⟨a, c, g, zs, h1, Own.ext h2 e, h3, h4⟩
theorem PredIs.base {w : World} {B B' : Nat} {R : QR} {v : Value} (h : PredIs w B R v) (e : B' ≤ B) : PredIs w B' R v := by
  obtain ⟨a, c, g, zs, h1, h2, h3, h4⟩ := h
  exact ⟨a, c, g, zs, h1, Own.base h2 e, h3, h4⟩

set_option maxHeartbeats 4000000 in
set_option maxRecDepth 100000 in
theorem validP_drew (a : Option Addr) (n c g : Nat) (zs : List Nat) (V : Bool) (w : World) (h : Holds .f32 w a n zs) (hn : n ≤ 1048576) (hV : predC (zs.map (cls .f32)) (cls .f32 g) = V) :
    Calls Try.prog 18 #[.agg #[.slice a n c, .float .f32 g]] w fun e w' => e = .returned (.bool V) ∧ ∃ m, w' = (w.alloc (.cells #[.slice a n c, .float .f32 g] 28)).drewN m := by
  have HH := hid h
  have HN := hid hn
  have HL := hid h.1
  have HV := hid hV
  clear h hn hV
  by_cases h1 : ¬ (1 ≤ n)
  · have e : V = false := by rw [← HV.out]; unfold predC; simp [HL.out]; omega
    subst e
    go_enter Try.func18, Try.ntmps18
    go_wp2
    go_ret
    exact ⟨ret_bool (by first | rfl | decide | (simp; done) | (simp; omega)), 0, rfl⟩
  replace h1 := Decidable.not_not.1 h1
  by_cases h2 : ¬ (n ≤ 16)
  · have e : V = false := by rw [← HV.out]; unfold predC; simp [HL.out]; omega
    subst e
    go_enter Try.func18, Try.ntmps18
    go_wp2
    go_ret
    exact ⟨ret_bool (by first | rfl | decide | (simp; done) | (simp; omega)), 0, rfl⟩
  replace h2 := Decidable.not_not.1 h2
  have hi1 : (1 : Int) ≤ (n : Int) := by omega
  have hi2 : (n : Int) ≤ 16 := by omega
  have HP := hid (show V = (finsC (zs.map (cls .f32)) && leastC (cls .f32 g)) from by rw [← HV.out]; unfold predC; rw [decide_eq_true (show 1 ≤ (zs.map (cls .f32)).length by simp [HL.out]; omega), decide_eq_true (show (zs.map (cls .f32)).length ≤ 16 by simp [HL.out]; omega)]; rfl)
  clear HV
  cases hF : finsC (zs.map (cls .f32))
  · have e : V = false := by rw [HP.out, hF]; rfl
    subst e
    go_enter Try.func18, Try.ntmps18
    go_wp2_with (first | (go_at_call 51; with_reducible refine (areFinite_drew _ _ _ zs _ _ (Holds.ext HH.out (by (repeat with_reducible (first | exact Ext.refl _ | exact ext_alloc _ _ | refine Ext.drewN ?_ _ | refine Ext.drew1 ?_ | refine Ext.set ?_ (by dsimp only; omega) _ | refine Ext.alloc ?_ _)))) HN.out hF).mono ?_; rintro e w' ⟨rfl, m1, rfl⟩))
    go_ret
    exact ⟨rfl, _, rfl⟩
  cases hG : fcmp .geq (ford .f32 (cls .f32 g) (some 0))
  · have e : V = false := by rw [HP.out, hF]; unfold leastC; rw [hG]; rfl
    subst e
    go_enter Try.func18, Try.ntmps18
    go_wp2_with (first | (go_at_call 51; with_reducible refine (areFinite_drew _ _ _ zs _ _ (Holds.ext HH.out (by (repeat with_reducible (first | exact Ext.refl _ | exact ext_alloc _ _ | refine Ext.drewN ?_ _ | refine Ext.drew1 ?_ | refine Ext.set ?_ (by dsimp only; omega) _ | refine Ext.alloc ?_ _)))) HN.out hF).mono ?_; rintro e w' ⟨rfl, m1, rfl⟩) | (refine wpList_fcmp rfl rfl rfl rfl rfl (is_self _ _) (is_const (by decide)) ?_; rw [hG]))
    go_ret
    exact ⟨rfl, _, rfl⟩
  cases hX : fin32 (cls .f32 g)
  · have e : V = false := by rw [HP.out, hF]; unfold leastC; rw [hG, hX]; rfl
    subst e
    go_enter Try.func18, Try.ntmps18
    go_wp2_with (first | (go_at_call 51; with_reducible refine (areFinite_drew _ _ _ zs _ _ (Holds.ext HH.out (by (repeat with_reducible (first | exact Ext.refl _ | exact ext_alloc _ _ | refine Ext.drewN ?_ _ | refine Ext.drew1 ?_ | refine Ext.set ?_ (by dsimp only; omega) _ | refine Ext.alloc ?_ _)))) HN.out hF).mono ?_; rintro e w' ⟨rfl, m1, rfl⟩) | (refine wpList_fcmp rfl rfl rfl rfl rfl (is_self _ _) (is_const (by decide)) ?_; rw [hG]) | (go_at_call 52; refine (isFinite_any _ _).mono ?_; rintro e w' ⟨rfl, m2, rfl⟩; rw [hX]))
    go_ret
    exact ⟨rfl, _, rfl⟩
  · have e : V = true := by rw [HP.out, hF]; unfold leastC; rw [hG, hX]; rfl
    subst e
    go_enter Try.func18, Try.ntmps18
    go_wp2_with (first | (go_at_call 51; with_reducible refine (areFinite_drew _ _ _ zs _ _ (Holds.ext HH.out (by (repeat with_reducible (first | exact Ext.refl _ | exact ext_alloc _ _ | refine Ext.drewN ?_ _ | refine Ext.drew1 ?_ | refine Ext.set ?_ (by dsimp only; omega) _ | refine Ext.alloc ?_ _)))) HN.out hF).mono ?_; rintro e w' ⟨rfl, m1, rfl⟩) | (refine wpList_fcmp rfl rfl rfl rfl rfl (is_self _ _) (is_const (by decide)) ?_; rw [hG]) | (go_at_call 52; refine (isFinite_any _ _).mono ?_; rintro e w' ⟨rfl, m2, rfl⟩; rw [hX]))
    go_ret
    exact ⟨rfl, _, rfl⟩

set_option maxHeartbeats 4000000 in
set_option maxRecDepth 100000 in
theorem l04Is_drew (a : Option Addr) (n c g : Nat) (zs : List Nat) (V : Bool) (x : Nat) (w : World) (hb : Box w x #[.slice a n c, .float .f32 g]) (h : Holds .f32 w a n zs) (hn : n ≤ 1048576) (hV : predC (zs.map (cls .f32)) (cls .f32 g) = V) :
    Calls Try.prog 50 #[.pointer (some ⟨x, 0, none⟩)] w fun e w' => e = .returned (.bool V) ∧ ∃ m, w' = w.drewN m := by
  have HH := hid h
  have HN := hid hn
  have HL := hid h.1
  have HV := hid hV
  obtain ⟨q0, q1, ql⟩ := Box.cells2 hb
  clear hb
  clear h hn hV
  by_cases h1 : ¬ (1 ≤ n)
  · have e : V = false := by rw [← HV.out]; unfold predC; simp [HL.out]; omega
    subst e
    go_enter Try.func50, Try.ntmps50
    go_wp2
    go_ret
    exact ⟨ret_bool (by first | rfl | decide | (simp; done) | (simp; omega)), 0, rfl⟩
  replace h1 := Decidable.not_not.1 h1
  by_cases h2 : ¬ (n ≤ 16)
  · have e : V = false := by rw [← HV.out]; unfold predC; simp [HL.out]; omega
    subst e
    go_enter Try.func50, Try.ntmps50
    go_wp2
    go_ret
    exact ⟨ret_bool (by first | rfl | decide | (simp; done) | (simp; omega)), 0, rfl⟩
  replace h2 := Decidable.not_not.1 h2
  have hi1 : (1 : Int) ≤ (n : Int) := by omega
  have hi2 : (n : Int) ≤ 16 := by omega
  have HP := hid (show V = (finsC (zs.map (cls .f32)) && leastC (cls .f32 g)) from by rw [← HV.out]; unfold predC; rw [decide_eq_true (show 1 ≤ (zs.map (cls .f32)).length by simp [HL.out]; omega), decide_eq_true (show (zs.map (cls .f32)).length ≤ 16 by simp [HL.out]; omega)]; rfl)
  clear HV
  cases hF : finsC (zs.map (cls .f32))
  · have e : V = false := by rw [HP.out, hF]; rfl
    subst e
    go_enter Try.func50, Try.ntmps50
    go_wp2_with (first | (go_at_call 84; with_reducible refine (l02Finite_drew _ _ _ zs _ _ (Holds.ext HH.out (by (repeat with_reducible (first | exact Ext.refl _ | exact ext_alloc _ _ | refine Ext.drewN ?_ _ | refine Ext.drew1 ?_ | refine Ext.set ?_ (by dsimp only; omega) _ | refine Ext.alloc ?_ _)))) HN.out hF).mono ?_; rintro e w' ⟨rfl, m1, rfl⟩))
    go_ret
    exact ⟨rfl, _, rfl⟩
  cases hG : leastC (cls .f32 g)
  · have e : V = false := by rw [HP.out, hF, hG]; rfl
    subst e
    go_enter Try.func50, Try.ntmps50
    go_wp2_with (first | (go_at_call 84; with_reducible refine (l02Finite_drew _ _ _ zs _ _ (Holds.ext HH.out (by (repeat with_reducible (first | exact Ext.refl _ | exact ext_alloc _ _ | refine Ext.drewN ?_ _ | refine Ext.drew1 ?_ | refine Ext.set ?_ (by dsimp only; omega) _ | refine Ext.alloc ?_ _)))) HN.out hF).mono ?_; rintro e w' ⟨rfl, m1, rfl⟩) | (go_at_call 90; refine (l02Least_is _ _ _ hG).mono ?_; rintro e w' ⟨rfl, m2, rfl⟩))
    go_ret
    exact ⟨rfl, _, rfl⟩
  · have e : V = true := by rw [HP.out, hF, hG]; rfl
    subst e
    go_enter Try.func50, Try.ntmps50
    go_wp2_with (first | (go_at_call 84; with_reducible refine (l02Finite_drew _ _ _ zs _ _ (Holds.ext HH.out (by (repeat with_reducible (first | exact Ext.refl _ | exact ext_alloc _ _ | refine Ext.drewN ?_ _ | refine Ext.drew1 ?_ | refine Ext.set ?_ (by dsimp only; omega) _ | refine Ext.alloc ?_ _)))) HN.out hF).mono ?_; rintro e w' ⟨rfl, m1, rfl⟩) | (go_at_call 90; refine (l02Least_is _ _ _ hG).mono ?_; rintro e w' ⟨rfl, m2, rfl⟩))
    go_ret
    exact ⟨rfl, _, rfl⟩

theorem validP_is (a : Option Addr) (n c g : Nat) (zs : List Nat) (V : Bool) (w : World) (h : Holds .f32 w a n zs) (hn : n ≤ 1048576) (hV : predC (zs.map (cls .f32)) (cls .f32 g) = V) :
    Calls Try.prog 18 #[.agg #[.slice a n c, .float .f32 g]] w fun e w' => e = .returned (.bool V) ∧ Ext w w' := by
  refine (validP_drew a n c g zs V w h hn hV).mono ?_
  rintro e w' ⟨rfl, m, rfl⟩
  exact ⟨rfl, by (repeat with_reducible (first | exact Ext.refl _ | exact ext_alloc _ _ | refine Ext.drewN ?_ _ | refine Ext.drew1 ?_ | refine Ext.set ?_ (by dsimp only; omega) _ | refine Ext.alloc ?_ _))⟩
theorem sValidP_is (a : Option Addr) (n c g : Nat) (zs : List Nat) (V : Bool) (w : World) (h : Holds .f32 w a n zs) (hn : n ≤ 1048576) (hV : predC (zs.map (cls .f32)) (cls .f32 g) = V) :
    Calls Try.prog 16 #[.agg #[.slice a n c, .float .f32 g]] w fun e w' => e = .returned (.bool V) ∧ Ext w w' := by
  have HH := hid h
  clear h
  go_enter Try.func16, Try.ntmps16
  go_wp2_with fail
  refine (l04Is_drew a n c g zs V _ _ (box_new _ _) (Holds.ext HH.out (by (repeat with_reducible (first | exact Ext.refl _ | exact ext_alloc _ _ | refine Ext.drewN ?_ _ | refine Ext.drew1 ?_ | refine Ext.set ?_ (by dsimp only; omega) _ | refine Ext.alloc ?_ _)))) hn hV).mono ?_
  rintro e w' ⟨rfl, m, rfl⟩
  go_wp2
  go_ret
  exact ⟨rfl, by (repeat with_reducible (first | exact Ext.refl _ | exact ext_alloc _ _ | refine Ext.drewN ?_ _ | refine Ext.drew1 ?_ | refine Ext.set ?_ (by dsimp only; omega) _ | refine Ext.alloc ?_ _))⟩
set_option maxHeartbeats 4000000 in
set_option maxRecDepth 100000 in
theorem validPOnly_is (a : Option Addr) (n c g B : Nat) (zs : List Nat) (R : QR) (w : World) (h : Own w B n (.slice a n c) zs) (hn : n ≤ 1048576) (hR : giveQ (zs.map (cls .f32)) (cls .f32 g) = R) :
    Calls Try.prog 86 #[.agg #[.slice a n c, .float .f32 g]] w fun e w' => ∃ v, e = .returned (.tuple #[v, .bool R.ok]) ∧ PredIs w' B R v ∧ Ext w w' := by
  have HO := hid h
  have HN := hid hn
  have HR := hid hR
  clear h hn hR
  cases hV : predC (zs.map (cls .f32)) (cls .f32 g)
  · have e : R = zeroQ := by rw [← HR.out]; unfold giveQ; rw [hV]; rfl
    subst e
    go_enter Try.func86, Try.ntmps86
    go_wp2_with (first | (go_at_call 18; with_reducible refine (validP_drew a n c g zs _ _ (Holds.ext (own_hold HO.out) (by (repeat with_reducible (first | exact Ext.refl _ | exact ext_alloc _ _ | refine Ext.drewN ?_ _ | refine Ext.drew1 ?_ | refine Ext.set ?_ (by dsimp only; omega) _ | refine Ext.alloc ?_ _)))) HN.out hV).mono ?_; rintro e w' ⟨rfl, m1, rfl⟩))
    go_returns
    refine ⟨_, rfl, zeroQ_is _ _, ?_⟩
    (repeat with_reducible (first | exact Ext.refl _ | exact ext_alloc _ _ | refine Ext.drewN ?_ _ | refine Ext.drew1 ?_ | refine Ext.set ?_ (by dsimp only; omega) _ | refine Ext.alloc ?_ _))
  · have e : R = ⟨true, zs.map (cls .f32), cls .f32 g⟩ := by rw [← HR.out]; unfold giveQ; rw [hV]; rfl
    subst e
    go_enter Try.func86, Try.ntmps86
    go_wp2_with (first | (go_at_call 18; with_reducible refine (validP_drew a n c g zs _ _ (Holds.ext (own_hold HO.out) (by (repeat with_reducible (first | exact Ext.refl _ | exact ext_alloc _ _ | refine Ext.drewN ?_ _ | refine Ext.drew1 ?_ | refine Ext.set ?_ (by dsimp only; omega) _ | refine Ext.alloc ?_ _)))) HN.out hV).mono ?_; rintro e w' ⟨rfl, m1, rfl⟩))
    go_returns
    refine ⟨_, rfl, predIs_of (Own.ext HO.out (by (repeat with_reducible (first | exact Ext.refl _ | exact ext_alloc _ _ | refine Ext.drewN ?_ _ | refine Ext.drew1 ?_ | refine Ext.set ?_ (by dsimp only; omega) _ | refine Ext.alloc ?_ _)))) rfl rfl, ?_⟩
    (repeat with_reducible (first | exact Ext.refl _ | exact ext_alloc _ _ | refine Ext.drewN ?_ _ | refine Ext.drew1 ?_ | refine Ext.set ?_ (by dsimp only; omega) _ | refine Ext.alloc ?_ _))
set_option maxHeartbeats 4000000 in
set_option maxRecDepth 100000 in
theorem l04Give_is (a : Option Addr) (n c g B : Nat) (zs : List Nat) (R : QR) (w : World) (h : Own w B n (.slice a n c) zs) (hn : n ≤ 1048576) (hR : giveQ (zs.map (cls .f32)) (cls .f32 g) = R) :
    Calls Try.prog 79 #[.agg #[.slice a n c, .float .f32 g]] w fun e w' => ∃ v, e = .returned (.tuple #[v, .bool R.ok]) ∧ PredIs w' B R v ∧ Ext w w' := by
  have HO := hid h
  have HN := hid hn
  have HR := hid hR
  clear h hn hR
  cases hV : predC (zs.map (cls .f32)) (cls .f32 g)
  · have e : R = zeroQ := by rw [← HR.out]; unfold giveQ; rw [hV]; rfl
    subst e
    go_enter Try.func79, Try.ntmps79
    go_wp2_with (first | (go_at_call 50; with_reducible refine (l04Is_drew a n c g zs _ _ _ (Box.ext (box_new (w := w) #[.slice a n c, .float .f32 g] 28) (by (repeat with_reducible (first | exact Ext.refl _ | exact ext_alloc _ _ | refine Ext.drewN ?_ _ | refine Ext.drew1 ?_ | refine Ext.set ?_ (by dsimp only; omega) _ | refine Ext.alloc ?_ _)))) (Holds.ext (own_hold HO.out) (by (repeat with_reducible (first | exact Ext.refl _ | exact ext_alloc _ _ | refine Ext.drewN ?_ _ | refine Ext.drew1 ?_ | refine Ext.set ?_ (by dsimp only; omega) _ | refine Ext.alloc ?_ _)))) HN.out hV).mono ?_; rintro e w' ⟨rfl, m1, rfl⟩))
    go_returns
    refine ⟨_, rfl, zeroQ_is _ _, ?_⟩
    (repeat with_reducible (first | exact Ext.refl _ | exact ext_alloc _ _ | refine Ext.drewN ?_ _ | refine Ext.drew1 ?_ | refine Ext.set ?_ (by dsimp only; omega) _ | refine Ext.alloc ?_ _))
  · have e : R = ⟨true, zs.map (cls .f32), cls .f32 g⟩ := by rw [← HR.out]; unfold giveQ; rw [hV]; rfl
    subst e
    go_enter Try.func79, Try.ntmps79
    go_wp2_with (first | (go_at_call 50; with_reducible refine (l04Is_drew a n c g zs _ _ _ (Box.ext (box_new (w := w) #[.slice a n c, .float .f32 g] 28) (by (repeat with_reducible (first | exact Ext.refl _ | exact ext_alloc _ _ | refine Ext.drewN ?_ _ | refine Ext.drew1 ?_ | refine Ext.set ?_ (by dsimp only; omega) _ | refine Ext.alloc ?_ _)))) (Holds.ext (own_hold HO.out) (by (repeat with_reducible (first | exact Ext.refl _ | exact ext_alloc _ _ | refine Ext.drewN ?_ _ | refine Ext.drew1 ?_ | refine Ext.set ?_ (by dsimp only; omega) _ | refine Ext.alloc ?_ _)))) HN.out hV).mono ?_; rintro e w' ⟨rfl, m1, rfl⟩))
    go_returns
    refine ⟨_, rfl, predIs_of (Own.ext HO.out (by (repeat with_reducible (first | exact Ext.refl _ | exact ext_alloc _ _ | refine Ext.drewN ?_ _ | refine Ext.drew1 ?_ | refine Ext.set ?_ (by dsimp only; omega) _ | refine Ext.alloc ?_ _)))) rfl rfl, ?_⟩
    (repeat with_reducible (first | exact Ext.refl _ | exact ext_alloc _ _ | refine Ext.drewN ?_ _ | refine Ext.drew1 ?_ | refine Ext.set ?_ (by dsimp only; omega) _ | refine Ext.alloc ?_ _))



theorem szPredictor_yes (a : Option Addr) (n c g : Nat) (k : Int) (hk0 : (n : Int) ≤ k) (hk : k ≤ 1048576) (w : World) :
    Calls Try.prog 15 #[.agg #[.slice a n c, .float .f32 g], .int .i64 k] w fun e w' => e = .returned (.int .i64 (k - n)) ∧ Ext w w' := by
  have h0 : ¬ k - n < 0 := by omega
  go_enter Try.func15, Try.ntmps15
  go_wp2_with (go_at_call 49; refine (szF_yes _ _ _ _ hk0 hk _).mono ?_; rintro e w' ⟨rfl, rfl⟩)
  go_ret
  exact ⟨rfl, ext_alloc _ _⟩
theorem szPredictor_no (a : Option Addr) (n c g : Nat) (k : Int) (hn : n ≤ maxLen) (hk0 : k < (n : Int)) (hk1 : 0 ≤ k) (w : World) :
    Calls Try.prog 15 #[.agg #[.slice a n c, .float .f32 g], .int .i64 k] w fun e w' => e = .returned (.int .i64 (-1)) ∧ Ext w w' := by
  go_enter Try.func15, Try.ntmps15
  go_wp2_with (go_at_call 49; refine (szF_no _ _ _ _ hn hk0 hk1 _).mono ?_; rintro e w' ⟨rfl, rfl⟩)
  go_ret
  exact ⟨rfl, ext_alloc _ _⟩
theorem toPredictor_any (a : Option Addr) (len cap g : Nat) (zs : List Nat) (w : World) (h : IsRowF .f32 w a len cap zs) (hl : len ≤ 1048576) :
    Calls Try.prog 17 #[.agg #[.slice a len cap, .float .f32 g]] w fun e w' => ∃ b, e = .returned (.agg #[.slice (some ⟨b, 0, none⟩) len len, .float .f32 g]) ∧ Own w' w.heap.size len (.slice (some ⟨b, 0, none⟩) len len) (zs.take len) ∧ Ext w w' := by
  have HW := hid h
  have hz := (holds_row h).1
  have HZ := hid hz
  clear h hz
  go_enter Try.func17, Try.ntmps17
  go_wp2_with fail
  refine (toFloat32S_any _ _ _ zs _ (IsRowF.ext HW.out (((ext_alloc _ _).alloc _).alloc _)) hl).mono ?_
  rintro e w1 ⟨cs, rfl, hcs, rfl⟩
  go_wp2_with fail
  go_returns
  exact ⟨_, rfl, own_fresh hcs HZ.out (by simp) (by simp; omega) (by unfold maxLen; omega), (((ext_alloc _ _).alloc _).alloc _).alloc _⟩
theorem eqPredictor_yes (a1 a2 : Option Addr) (n c1 c2 g1 g2 : Nat) (xs ys : List Nat) (w : World) (h1 : Holds .f32 w a1 n xs) (h2 : Holds .f32 w a2 n ys) (hn : n ≤ 1048576)
    (he : xs.map (cls .f32) = ys.map (cls .f32)) (hg : cls .f32 g1 = cls .f32 g2) :
    Calls Try.prog 19 #[.agg #[.slice a1 n c1, .float .f32 g1], .agg #[.slice a2 n c2, .float .f32 g2]] w fun e w' => e = .returned (.bool true) ∧ Ext w w' := by
  have H1 := hid h1
  have H2 := hid h2
  have HE := hid (map_cls_get he)
  have HG := hid hg
  have HN := hid hn
  clear h1 h2 he hg hn
  go_enter Try.func19, Try.ntmps19
  go_wp2_with fail
  refine (eqFloat32S_yes _ _ _ _ _ xs ys _ ((H1.out.alloc _).alloc _) ((H2.out.alloc _).alloc _) HN.out (fun i _ => HE.out i)).mono ?_
  rintro e w' ⟨rfl, m, rfl⟩
  go_wp2_with (first
    | (refine wpList_widen rfl rfl Try.underlying23 Try.underlying37 rfl ?_; intro r m hr hrw)
    | (go_at_call 25; refine (sameFloat_yes _ _ _ (by assumption) (by rw [HG.out]; assumption) _).mono ?_; rintro e w' ⟨rfl, m, rfl⟩))
  go_ret
  exact ⟨rfl, ((ext_alloc _ _).alloc _).drewN _⟩
theorem markPredictor_any (a : Option Addr) (n c k B g : Nat) (zs : List Nat) (w : World) (h : Own w B n (.slice a n c) zs) (hn : n ≤ 1048576) (hk : k ≤ 1099511627776) :
    Calls Try.prog 41 #[.agg #[.slice a n c, .float .f32 g], .int .i64 k] w fun e w' => e = .returned (.int .i64 ((k + n : Nat) : Int)) ∧ Own w' B n (.slice a n c) (marks k n) ∧ But (Value.slice a n c).ownBlock w w' := by
  have HH := hid h
  clear h
  go_enter Try.func41, Try.ntmps41
  go_wp2_with fail
  refine (markF_any _ _ _ _ _ zs _ (HH.out.alloc _) hn hk).mono ?_
  rintro e w' ⟨rfl, ho, hb⟩
  have HO := hid ho
  have HB := hid hb
  clear ho hb
  go_wp2
  go_ret
  exact ⟨rfl, HO.out, ((ext_alloc _ _).but _).trans HB.out⟩
theorem heldPredictor_any (a : Option Addr) (n c k B g : Nat) (w : World) (h : Own w B n (.slice a n c) (marks k n)) (hn : n ≤ 1048576) (hk : k ≤ 1099511627776) :
    Calls Try.prog 42 #[.agg #[.slice a n c, .float .f32 g], .int .i64 k] w fun e w' => e = .returned (.int .i64 ((k + n : Nat) : Int)) ∧ Ext w w' := by
  have HH := hid h
  clear h
  go_enter Try.func42, Try.ntmps42
  go_wp2_with fail
  refine (heldF_any _ _ _ _ _ _ (HH.out.alloc _) hn hk).mono ?_
  rintro e w' ⟨rfl, rfl⟩
  go_wp2
  go_ret
  exact ⟨rfl, ext_alloc _ _⟩

end Go.Proofs.Ytofhemganefhcaa
