/- What is predicted at a place. -/
import Derived.Test.YtofhemganefhcabW13
import Derived.Test.YtofhemganefhcabT5
namespace Go.Proofs.Ytofhemganefhcab
open Go.RowKit Flt
set_option linter.unusedVariables false

def predAtR (us : List Nat) (g : Option Nat) (zs : List Nat) (j : Int) : Option Nat × Bool := if predC (us.map (cls .f32)) g && (soundB (zs.map (cls .f32)) && (decide (0 ≤ j) && decide (j ≤ zs.length))) then (finR (predX us zs j.toNat), fin32 (predX us zs j.toNat)) else (some 0, false)

set_option maxHeartbeats 4000000 in
set_option maxRecDepth 100000 in
theorem predAt_any (a : Option Addr) (n c g bs os m c2 : Nat) (j : Int) (us zs : List Nat) (R : Option Nat) (O : Bool) (w : World) (h1 : Holds .f32 w a n us) (h2 : Holds .f32 w (some ⟨bs, os, none⟩) m zs) (hn : n ≤ 1048576) (hm : m ≤ 1048576) (hcap : m ≤ c2) (hR : predAtR us (cls .f32 g) zs j = (R, O)) :
    Calls Try.prog 26 #[.agg #[.slice a n c, .float .f32 g], .slice (some ⟨bs, os, none⟩) m c2, .int .i64 j] w fun e w' => ∃ r, e = .returned (.tuple #[.float .f32 r, .bool O]) ∧ Is .f32 r R ∧ Ext w w' := by
  have H1 := hid h1
  have H2 := hid h2
  have HN := hid hn
  have HM := hid hm
  have HR := hid hR
  clear h1 h2 hn hm hR
  cases hV : predC (us.map (cls .f32)) (cls .f32 g)
  · have e : R = some 0 ∧ O = false := by have := HR.out; unfold predAtR at this; rw [hV] at this; simpa [eq_comm] using this
    obtain ⟨rfl, rfl⟩ := e
    go_enter Try.func26, Try.ntmps26
    go_wp2_with (first | (go_at_call 65; with_reducible refine (validP_drew a n c g us _ _ (Holds.ext H1.out (by (repeat with_reducible (first | exact Ext.refl _ | exact ext_alloc _ _ | refine Ext.drewN ?_ _ | refine Ext.drew1 ?_ | refine Ext.set ?_ (by dsimp only; omega) _ | refine Ext.alloc ?_ _)))) HN.out hV).mono ?_; rintro e w' ⟨rfl, m1, rfl⟩))
    go_returns
    refine ⟨_, rfl, cls0, ?_⟩
    (repeat with_reducible (first | exact Ext.refl _ | exact ext_alloc _ _ | refine Ext.drewN ?_ _ | refine Ext.drew1 ?_ | refine Ext.set ?_ (by dsimp only; omega) _ | refine Ext.alloc ?_ _))
  cases hA : soundB (zs.map (cls .f32))
  · have e : R = some 0 ∧ O = false := by have := HR.out; unfold predAtR at this; rw [hV, hA] at this; simpa [eq_comm] using this
    obtain ⟨rfl, rfl⟩ := e
    go_enter Try.func26, Try.ntmps26
    go_wp2_with (first | (go_at_call 65; with_reducible refine (validP_drew a n c g us _ _ (Holds.ext H1.out (by (repeat with_reducible (first | exact Ext.refl _ | exact ext_alloc _ _ | refine Ext.drewN ?_ _ | refine Ext.drew1 ?_ | refine Ext.set ?_ (by dsimp only; omega) _ | refine Ext.alloc ?_ _)))) HN.out hV).mono ?_; rintro e w' ⟨rfl, m1, rfl⟩) | (go_at_call 66; with_reducible refine (isSound_drew _ m c2 zs _ _ (Holds.ext H2.out (by (repeat with_reducible (first | exact Ext.refl _ | exact ext_alloc _ _ | refine Ext.drewN ?_ _ | refine Ext.drew1 ?_ | refine Ext.set ?_ (by dsimp only; omega) _ | refine Ext.alloc ?_ _)))) HM.out hA).mono ?_; rintro e w' ⟨rfl, m2, rfl⟩))
    go_returns
    refine ⟨_, rfl, cls0, ?_⟩
    (repeat with_reducible (first | exact Ext.refl _ | exact ext_alloc _ _ | refine Ext.drewN ?_ _ | refine Ext.drew1 ?_ | refine Ext.set ?_ (by dsimp only; omega) _ | refine Ext.alloc ?_ _))
  by_cases hj0 : j < 0
  · have e : R = some 0 ∧ O = false := by have := HR.out; unfold predAtR at this; rw [hV, hA, H2.out.1, decide_eq_false (show ¬ (0 ≤ j) by omega)] at this; simpa [eq_comm] using this
    obtain ⟨rfl, rfl⟩ := e
    go_enter Try.func26, Try.ntmps26
    go_wp2_with (first | (go_at_call 65; with_reducible refine (validP_drew a n c g us _ _ (Holds.ext H1.out (by (repeat with_reducible (first | exact Ext.refl _ | exact ext_alloc _ _ | refine Ext.drewN ?_ _ | refine Ext.drew1 ?_ | refine Ext.set ?_ (by dsimp only; omega) _ | refine Ext.alloc ?_ _)))) HN.out hV).mono ?_; rintro e w' ⟨rfl, m1, rfl⟩) | (go_at_call 66; with_reducible refine (isSound_drew _ m c2 zs _ _ (Holds.ext H2.out (by (repeat with_reducible (first | exact Ext.refl _ | exact ext_alloc _ _ | refine Ext.drewN ?_ _ | refine Ext.drew1 ?_ | refine Ext.set ?_ (by dsimp only; omega) _ | refine Ext.alloc ?_ _)))) HM.out hA).mono ?_; rintro e w' ⟨rfl, m2, rfl⟩))
    go_returns
    refine ⟨_, rfl, cls0, ?_⟩
    (repeat with_reducible (first | exact Ext.refl _ | exact ext_alloc _ _ | refine Ext.drewN ?_ _ | refine Ext.drew1 ?_ | refine Ext.set ?_ (by dsimp only; omega) _ | refine Ext.alloc ?_ _))
  by_cases hj1 : (m : Int) < j
  · have e : R = some 0 ∧ O = false := by have := HR.out; unfold predAtR at this; rw [hV, hA, H2.out.1, decide_eq_false (show ¬ (j ≤ (m : Int)) by omega)] at this; simpa [eq_comm] using this
    obtain ⟨rfl, rfl⟩ := e
    go_enter Try.func26, Try.ntmps26
    go_wp2_with (first | (go_at_call 65; with_reducible refine (validP_drew a n c g us _ _ (Holds.ext H1.out (by (repeat with_reducible (first | exact Ext.refl _ | exact ext_alloc _ _ | refine Ext.drewN ?_ _ | refine Ext.drew1 ?_ | refine Ext.set ?_ (by dsimp only; omega) _ | refine Ext.alloc ?_ _)))) HN.out hV).mono ?_; rintro e w' ⟨rfl, m1, rfl⟩) | (go_at_call 66; with_reducible refine (isSound_drew _ m c2 zs _ _ (Holds.ext H2.out (by (repeat with_reducible (first | exact Ext.refl _ | exact ext_alloc _ _ | refine Ext.drewN ?_ _ | refine Ext.drew1 ?_ | refine Ext.set ?_ (by dsimp only; omega) _ | refine Ext.alloc ?_ _)))) HM.out hA).mono ?_; rintro e w' ⟨rfl, m2, rfl⟩))
    go_returns
    refine ⟨_, rfl, cls0, ?_⟩
    (repeat with_reducible (first | exact Ext.refl _ | exact ext_alloc _ _ | refine Ext.drewN ?_ _ | refine Ext.drew1 ?_ | refine Ext.set ?_ (by dsimp only; omega) _ | refine Ext.alloc ?_ _))
  obtain ⟨k, rfl⟩ : ∃ q : Nat, j = (q : Int) := ⟨j.toNat, by omega⟩
  have HK := hid (show k ≤ m by omega)
  have e : R = finR (predX us zs k) ∧ O = fin32 (predX us zs k) := by
    have := HR.out
    unfold predAtR at this
    rw [hV, hA, H2.out.1, decide_eq_true (show (0 : Int) ≤ (k : Int) by omega), decide_eq_true (show (k : Int) ≤ (m : Int) by omega)] at this
    simpa [eq_comm] using this
  obtain ⟨rfl, rfl⟩ := e
  have HP := hid (fun (w9 : World) (e9 : Ext w w9) => pred_any a (some ⟨bs, os, none⟩) n k c c2 us zs w9 (Holds.ext H1.out e9) (hold_take (Holds.ext H2.out e9) HK.out) (by rw [H2.out.1]; exact HK.out) HN.out (by have := HK.out; have := HM.out; omega))
  clear HR
  generalize predX us zs k = X at *
  have hi2 : (k : Int) ≤ (m : Int) := by omega
  have hi3 : (k : Int) ≤ (c2 : Int) := by omega
  have hi4 : k ≤ c2 := by omega
  go_enter Try.func26, Try.ntmps26
  go_wp2_with (first | (go_at_call 65; with_reducible refine (validP_drew a n c g us _ _ (Holds.ext H1.out (by (repeat with_reducible (first | exact Ext.refl _ | exact ext_alloc _ _ | refine Ext.drewN ?_ _ | refine Ext.drew1 ?_ | refine Ext.set ?_ (by dsimp only; omega) _ | refine Ext.alloc ?_ _)))) HN.out hV).mono ?_; rintro e w' ⟨rfl, m1, rfl⟩) | (go_at_call 66; with_reducible refine (isSound_drew _ m c2 zs _ _ (Holds.ext H2.out (by (repeat with_reducible (first | exact Ext.refl _ | exact ext_alloc _ _ | refine Ext.drewN ?_ _ | refine Ext.drew1 ?_ | refine Ext.set ?_ (by dsimp only; omega) _ | refine Ext.alloc ?_ _)))) HM.out hA).mono ?_; rintro e w' ⟨rfl, m2, rfl⟩))
  try simp only [World.drewN_drewN]
  obtain ⟨w0, hw0⟩ : ∃ u, u = ((w.alloc (.cells #[.slice a n c, .float .f32 g] 29)).alloc (.cells #[.slice a n c, .float .f32 g] 29)).drewN (m1 + m2) := ⟨_, rfl⟩
  rw [← hw0]
  have EX := hid (show Ext w w0 from by rw [hw0]; (repeat with_reducible (first | exact Ext.refl _ | exact ext_alloc _ _ | refine Ext.drewN ?_ _ | refine Ext.drew1 ?_ | refine Ext.set ?_ (by dsimp only; omega) _ | refine Ext.alloc ?_ _)))
  have B0 : Hid (Box w0 w.heap.size #[.slice a n c, .float .f32 g]) := by rw [hw0]; exact hid (Box.drewN (Box.alloc (box_new (w := w) #[.slice a n c, .float .f32 g] 29) _) _)
  clear hw0
  obtain ⟨q0, q1, ql⟩ := Box.cells2 B0.out
  go_wp2_with fail
  go_region_held3 (fun w' => w'.cell? ⟨w.heap.size, 0, none⟩ = some (.slice a n c) ∧ w'.cell? ⟨w.heap.size, 1, none⟩ = some (.float .f32 g))
    (first | (refine keep_of (c := w0) (S := fun w' => w'.cell? ⟨w.heap.size, 0, none⟩ = some (.slice a n c) ∧ w'.cell? ⟨w.heap.size, 1, none⟩ = some (.float .f32 g)) (fun u hu => ⟨Box.cell (Box.ext B0.out hu) 0, Box.cell (Box.ext B0.out hu) 1⟩) ?_; (repeat with_reducible (first | exact Ext.refl _ | exact ext_alloc _ _ | refine Ext.trans ?_ E5 | refine Ext.drewN ?_ _ | refine Ext.drew1 ?_ | refine Ext.alloc ?_ _))))
    (first | (go_at_call 68; refine (HP.out _ (Ext.trans EX.out (by (repeat with_reducible (first | exact Ext.refl _ | exact ext_alloc _ _ | refine Ext.drewN ?_ _ | refine Ext.drew1 ?_ | refine Ext.set ?_ (by dsimp only; omega) _ | refine Ext.alloc ?_ _))))).mono ?_; rintro e w5 ⟨r, rfl, hr, E5⟩) | (go_at_call 67; refine (finiteOnly_any _ _ hr _).mono ?_; rintro e w6 ⟨r2, rfl, hr2, q, rfl⟩))
  all_goals
    go_wp2_with fail
    go_returns
    refine ⟨_, rfl, hr2, Ext.trans EX.out ?_⟩
    (repeat with_reducible (first | exact Ext.refl _ | exact ext_alloc _ _ | refine Ext.trans ?_ E5 | refine Ext.drewN ?_ _ | refine Ext.drew1 ?_ | refine Ext.alloc ?_ _))

set_option maxHeartbeats 4000000 in
set_option maxRecDepth 100000 in
theorem sPredAt_any (a a2 : Option Addr) (n c g m c2 : Nat) (j : Int) (us zs : List Nat) (R : Option Nat) (O : Bool) (w : World) (h1 : Holds .f32 w a n us) (h2 : Holds .f32 w a2 m zs) (hn : n ≤ 1048576) (hm : m ≤ 1048576) (hR : predAtR us (cls .f32 g) zs j = (R, O)) :
    Calls Try.prog 24 #[.agg #[.slice a n c, .float .f32 g], .slice a2 m c2, .int .i64 j] w fun e w' => ∃ r, e = .returned (.tuple #[.float .f32 r, .bool O]) ∧ Is .f32 r R ∧ Ext w w' := by
  have H1 := hid h1
  have H2 := hid h2
  have HN := hid hn
  have HM := hid hm
  have HR := hid hR
  clear h1 h2 hn hm hR
  cases hV : (predC (us.map (cls .f32)) (cls .f32 g) && soundB (zs.map (cls .f32)))
  · have e : R = some 0 ∧ O = false := by have := HR.out; unfold predAtR at this; rw [← Bool.and_assoc, hV] at this; simpa [eq_comm] using this
    obtain ⟨rfl, rfl⟩ := e
    go_enter Try.func24, Try.ntmps24
    go_wp2_with (first | (go_at_call 61; refine (l04Both_drew _ a a2 n c m c2 g us zs _ _ (box_new _ _) (Holds.ext H1.out (by (repeat with_reducible (first | exact Ext.refl _ | exact ext_alloc _ _ | refine Ext.drewN ?_ _ | refine Ext.drew1 ?_ | refine Ext.set ?_ (by dsimp only; omega) _ | refine Ext.alloc ?_ _)))) (Holds.ext H2.out (by (repeat with_reducible (first | exact Ext.refl _ | exact ext_alloc _ _ | refine Ext.drewN ?_ _ | refine Ext.drew1 ?_ | refine Ext.set ?_ (by dsimp only; omega) _ | refine Ext.alloc ?_ _)))) HN.out HM.out hV).mono ?_; rintro e w1 ⟨rfl, q, rfl⟩))
    go_returns
    refine ⟨_, rfl, cls0, ?_⟩
    (repeat with_reducible (first | exact Ext.refl _ | exact ext_alloc _ _ | refine Ext.drewN ?_ _ | refine Ext.drew1 ?_ | refine Ext.set ?_ (by dsimp only; omega) _ | refine Ext.alloc ?_ _))
  by_cases hj : ¬ (0 ≤ j ∧ j ≤ m)
  · have e : R = some 0 ∧ O = false := by
      have := HR.out
      unfold predAtR at this
      rw [← Bool.and_assoc, hV, H2.out.1, if_neg (by simp; omega)] at this
      simpa [eq_comm] using this
    obtain ⟨rfl, rfl⟩ := e
    go_enter Try.func24, Try.ntmps24
    go_wp2_with (first | (go_at_call 61; refine (l04Both_drew _ a a2 n c m c2 g us zs _ _ (box_new _ _) (Holds.ext H1.out (by (repeat with_reducible (first | exact Ext.refl _ | exact ext_alloc _ _ | refine Ext.drewN ?_ _ | refine Ext.drew1 ?_ | refine Ext.set ?_ (by dsimp only; omega) _ | refine Ext.alloc ?_ _)))) (Holds.ext H2.out (by (repeat with_reducible (first | exact Ext.refl _ | exact ext_alloc _ _ | refine Ext.drewN ?_ _ | refine Ext.drew1 ?_ | refine Ext.set ?_ (by dsimp only; omega) _ | refine Ext.alloc ?_ _)))) HN.out HM.out hV).mono ?_; rintro e w1 ⟨rfl, q, rfl⟩) | (go_at_call 62; with_reducible refine (l00In_no j 0 m hj _).mono ?_; rintro e w' ⟨rfl, rfl⟩))
    go_returns
    refine ⟨_, rfl, cls0, ?_⟩
    (repeat with_reducible (first | exact Ext.refl _ | exact ext_alloc _ _ | refine Ext.drewN ?_ _ | refine Ext.drew1 ?_ | refine Ext.set ?_ (by dsimp only; omega) _ | refine Ext.alloc ?_ _))
  replace hj := Decidable.not_not.1 hj
  obtain ⟨k, rfl⟩ : ∃ q : Nat, j = (q : Int) := ⟨j.toNat, by omega⟩
  have HK := hid (show k ≤ m by omega)
  have e : R = finR (predX us zs k) ∧ O = fin32 (predX us zs k) := by
    have := HR.out
    unfold predAtR at this
    rw [← Bool.and_assoc, hV, H2.out.1, decide_eq_true (show (0 : Int) ≤ (k : Int) by omega), decide_eq_true (show (k : Int) ≤ (m : Int) by omega)] at this
    simpa [eq_comm] using this
  obtain ⟨rfl, rfl⟩ := e
  have HAT := hid (fun (x : Nat) (w9 : World) (b9 : Box w9 x #[.slice a n c, .float .f32 g]) (e9 : Ext w w9) => l04At_any x a a2 n c m c2 g k us zs w9 b9 (Holds.ext H1.out e9) (Holds.ext H2.out e9) HN.out HM.out HK.out)
  clear HR
  generalize predX us zs k = X at *
  go_enter Try.func24, Try.ntmps24
  go_wp2_with (first | (go_at_call 61; refine (l04Both_drew _ a a2 n c m c2 g us zs _ _ (box_new _ _) (Holds.ext H1.out (by (repeat with_reducible (first | exact Ext.refl _ | exact ext_alloc _ _ | refine Ext.drewN ?_ _ | refine Ext.drew1 ?_ | refine Ext.set ?_ (by dsimp only; omega) _ | refine Ext.alloc ?_ _)))) (Holds.ext H2.out (by (repeat with_reducible (first | exact Ext.refl _ | exact ext_alloc _ _ | refine Ext.drewN ?_ _ | refine Ext.drew1 ?_ | refine Ext.set ?_ (by dsimp only; omega) _ | refine Ext.alloc ?_ _)))) HN.out HM.out hV).mono ?_; rintro e w1 ⟨rfl, q, rfl⟩) | (go_at_call 62; with_reducible refine (l00In_yes (k : Int) 0 m hj.1 hj.2 _).mono ?_; rintro e w' ⟨rfl, rfl⟩) | (go_at_call 64; refine (HAT.out _ _ (Box.ext (box_new (w := w) #[.slice a n c, .float .f32 g] 29) (by (repeat with_reducible (first | exact Ext.refl _ | exact ext_alloc _ _ | refine Ext.drewN ?_ _ | refine Ext.drew1 ?_ | refine Ext.set ?_ (by dsimp only; omega) _ | refine Ext.alloc ?_ _)))) (by (repeat with_reducible (first | exact Ext.refl _ | exact ext_alloc _ _ | refine Ext.drewN ?_ _ | refine Ext.drew1 ?_ | refine Ext.set ?_ (by dsimp only; omega) _ | refine Ext.alloc ?_ _)))).mono ?_; rintro e w' ⟨r, rfl, hr, q2, rfl⟩) | (go_at_call 63; refine (l02Number_any _ _ hr _).mono ?_; rintro e w6 ⟨r2, rfl, hr2, q3, rfl⟩))
  go_returns
  refine ⟨_, rfl, hr2, ?_⟩
  (repeat with_reducible (first | exact Ext.refl _ | exact ext_alloc _ _ | refine Ext.drewN ?_ _ | refine Ext.drew1 ?_ | refine Ext.set ?_ (by dsimp only; omega) _ | refine Ext.alloc ?_ _))

end Go.Proofs.Ytofhemganefhcab
