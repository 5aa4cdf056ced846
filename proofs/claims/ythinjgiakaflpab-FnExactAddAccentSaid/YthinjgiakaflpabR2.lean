/- Bumps. -/
import Derived.Test.YthinjgiakaflpabR1
import Derived.Test.YthinjgiakaflpabF2
import Derived.Test.YthinjgiakaflpabT5
import Derived.Test.YthinjgiakaflpabShare
namespace Go.Proofs.Ythinjgiakaflpab
open Go.RowKit Flt
set_option linter.unusedVariables false

open Ieee

theorem word_neg (s : Bool) (r : Nat) (h : r ≤ 2139095040) : (FloatKind.f32.format.read (FloatKind.f32.format.word s r)).neg = s := by
  have hS : FloatKind.f32.format.signWeight = 2147483648 := by decide
  have key : (FloatKind.f32.format.word s r / 2147483648 % 2 == 1) = s := by
    unfold Format.word
    rw [hS]
    cases s
    · simp; omega
    · simp; omega
  unfold Format.read
  rw [hS]
  dsimp only
  split
  · exact key
  · split
    · exact key
    · split
      · exact key
      · exact key
theorem near_neg (s : Bool) (m : Nat) (p : Int) : (FloatKind.f32.format.read (FloatKind.f32.format.nearest s m p)).neg = s := by
  have hI : FloatKind.f32.format.infRung = 2139095040 := by decide
  unfold Format.nearest
  split
  · exact word_neg s 0 (by omega)
  · exact word_neg s _ (by rw [hI]; exact Nat.min_le_right _ _)
theorem neg_not_gt {b : Nat} (h : (FloatKind.f32.format.read b).neg = true) (hn : nanW .f32 b = false) : fcmp .gtr (ford .f32 (some b) (some 0)) = false := by
  have hz : FloatKind.f32.format.read 0 = .number false 0 (-149) := by decide
  have e : ford .f32 (some b) (some 0) = FloatKind.f32.format.order b 0 := rfl
  rw [e]
  rcases read32 b hn with ⟨s, hr⟩ | ⟨s, m, i, hr, _, g2, _⟩
  · rw [hr] at h
    have hs : s = true := h
    subst hs
    unfold Format.order
    rw [hr, hz]
    rfl
  · rw [hr] at h
    have hs : s = true := h
    subst hs
    have ho : FloatKind.f32.format.order b 0 = some (compare (signed true m (i - -149).toNat) (signed false 0 (-149 - -149 : Int).toNat)) := by
      unfold Format.order; rw [hr, hz]; exact order_num true false m 0 i (-149) (-149) g2 (by omega)
    rw [ho]
    have e0 : signed false 0 (-149 - -149 : Int).toNat = 0 := by decide
    rw [e0, signedV]
    simp only [if_true]
    generalize m * 2 ^ (i - -149).toNat = M
    rcases Nat.eq_zero_or_pos M with rfl | hp
    · decide
    · rw [compare_lt (show -(M : Int) < 0 by omega)]; rfl
/-- how far inside a bump a time is -/
def bumpW (T A W : Option Nat) : Option Nat := fop .sub .f32 (some 1065353216) (fop .mul .f32 (fop .quo .f32 (fop .sub .f32 T A) W) (fop .quo .f32 (fop .sub .f32 T A) W))
def bumpC (A S W T : Option Nat) : Option Nat := if fcmp .gtr (ford .f32 (bumpW T A W) (some 0)) then fop .mul .f32 (fop .mul .f32 S (bumpW T A W)) (bumpW T A W) else some 0
def accC (A S W : Option Nat) : Bool := fin32 A && (fin32 S && areaC W)
def bumpR (A S W T : Option Nat) : Option Nat × Bool := if accC A S W && fin32 T then (bumpC A S W T, true) else (some 0, false)
theorem bump_w {t a wd : Nat} (ht : fin32 (cls .f32 t) = true) (ha : fin32 (cls .f32 a) = true) (hw : areaC (cls .f32 wd) = true) :
    ∃ b, bumpW (cls .f32 t) (cls .f32 a) (cls .f32 wd) = some b ∧ nanW .f32 b = false ∧ (fcmp .gtr (ford .f32 (some b) (some 0)) = true → ∃ n j, FloatKind.f32.format.read b = .number false n j ∧ leP n j 0 ∧ -149 ≤ j) := by
  obtain ⟨ct, s1, m1, i1, r1, _⟩ := fin_read ht
  obtain ⟨ca, s2, m2, i2, r2, _⟩ := fin_read ha
  have hw' : fcmp .gtr (ford .f32 (cls .f32 wd) (some 0)) = true ∧ fin32 (cls .f32 wd) = true := by unfold areaC at hw; simpa using hw
  obtain ⟨m3, i3, cw, r3, nz, _⟩ := area_num wd hw'.1 hw'.2
  unfold bumpW
  rw [ct, ca, cw]
  obtain ⟨x, hx⟩ : ∃ x, floatBits .sub .f32 t a = some x := ⟨_, by simp only [floatBits, Format.sub, r1, r2, Datum.opposite, Datum.sum]; rfl⟩
  have nx := floatBits_num hx
  have e25 : FloatKind.f32.format.fractionBits + 2 = 25 := by decide
  obtain ⟨u, hu⟩ : ∃ u, floatBits .quo .f32 x wd = some u := by
    rcases read32 x nx with ⟨s, hr⟩ | ⟨s, m, i, hr, _⟩
    · exact ⟨_, by simp only [floatBits, Format.div, hr, r3, Datum.quotient]; rfl⟩
    · exact ⟨_, by simp only [floatBits, Format.div, hr, r3, e25, Datum.quotient]; rw [if_neg nz]; rfl⟩
  have nu := floatBits_num hu
  obtain ⟨y, hy, hneg⟩ : ∃ y, floatBits .mul .f32 u u = some y ∧ (FloatKind.f32.format.read y).neg = false := by
    rcases read32 u nu with ⟨s, hr⟩ | ⟨s, m, i, hr, _⟩
    · refine ⟨_, by simp only [floatBits, Format.mul, hr, Datum.product]; rfl, ?_⟩
      cases s <;> decide
    · refine ⟨_, by simp only [floatBits, Format.mul, hr, Datum.product]; rfl, ?_⟩
      have := near_neg (s ^^ s) (m * m) (i + i)
      cases s <;> exact this
  have ny := floatBits_num hy
  have e1 : fop .sub .f32 (some t) (some a) = some x := hx
  have e2 : fop .quo .f32 (some x) (some wd) = some u := hu
  have e3 : fop .mul .f32 (some u) (some u) = some y := hy
  rw [e1, e2, e3]
  show ∃ b, floatBits .sub .f32 1065353216 y = some b ∧ _
  rcases read32 y ny with ⟨s, hr⟩ | ⟨s, m, e, hr, _, he, _⟩
  · have hs : s = false := by rw [hr] at hneg; exact hneg
    subst hs
    obtain ⟨b, hb⟩ : ∃ b, floatBits .sub .f32 1065353216 y = some b := ⟨_, by simp only [floatBits, Format.sub, one_read, hr, Datum.opposite, Datum.sum]; rfl⟩
    have hb2 : some b = some 4286578688 := by
      rw [← hb]; simp only [floatBits, Format.sub, one_read, hr, Datum.opposite, Datum.sum]; decide
    cases hb2
    exact ⟨_, hb, by decide, fun h => absurd h (by decide)⟩
  · have hs : s = false := by rw [hr] at hneg; exact hneg
    subst hs
    obtain ⟨T, hT⟩ : ∃ T : Int, signed false 8388608 (-23 - min (-23) e).toNat + signed (!false) m (e - min (-23) e).toNat = T := ⟨_, rfl⟩
    have hb : floatBits .sub .f32 1065353216 y = some (FloatKind.f32.format.nearest (if T = 0 then (false && !false) else decide (T < 0)) T.natAbs (min (-23) e)) := by
      rw [← hT]
      simp only [floatBits, Format.sub, one_read, hr, Datum.opposite, Datum.sum]
      rfl
    have nb := floatBits_num hb
    refine ⟨_, hb, nb, fun hg => ?_⟩
    rcases Int.lt_trichotomy T 0 with h | h | h
    · exfalso
      have hsg : (if T = 0 then (false && !false) else decide (T < 0)) = true := by rw [if_neg (by omega)]; simpa using h
      rw [hsg] at hg nb
      rw [neg_not_gt (near_neg _ _ _) nb] at hg
      cases hg
    · exfalso
      have hz : FloatKind.f32.format.nearest (if T = 0 then (false && !false) else decide (T < 0)) T.natAbs (min (-23) e) = 0 := by
        rw [if_pos h, h]
        unfold Format.nearest
        rfl
      rw [hz] at hg
      revert hg
      decide
    · have hsg : (if T = 0 then (false && !false) else decide (T < 0)) = false := by rw [if_neg (by omega)]; simp; omega
      rw [hsg] at hg nb ⊢
      have hT2 : T.natAbs ≤ 8388608 * 2 ^ (-23 - min (-23) e).toNat := by
        rw [signedV, signedV] at hT
        simp only [Bool.not_false, if_true, Bool.false_eq_true, if_false] at hT
        generalize 8388608 * 2 ^ (-23 - min (-23) e).toNat = X at hT ⊢
        generalize m * 2 ^ (e - min (-23) e).toNat = Y at hT
        omega
      have hle : leP T.natAbs (min (-23) e) 0 := by
        right
        refine ⟨by omega, Nat.le_trans hT2 ?_⟩
        have : 8388608 = 2 ^ 23 := by decide
        rw [this, ← Nat.pow_add]
        exact Nat.pow_le_pow_right (by omega) (by omega)
      obtain ⟨m', i', q1, q2, _⟩ := near32 false T.natAbs (min (-23) e) 0 hle (by omega) (by omega)
      refine ⟨m', i', q1, q2, ?_⟩
      rcases read32 _ nb with ⟨s, hr2⟩ | ⟨s, m9, e9, hr2, _, hh, _⟩
      · rw [q1] at hr2; cases hr2
      · rw [q1] at hr2; simp only [Datum.number.injEq] at hr2; omega
theorem leq_not {b : Nat} (hn : nanW .f32 b = false) : fcmp .leq (ford .f32 (some b) (some 0)) = !fcmp .gtr (ford .f32 (some b) (some 0)) := by
  have hz : FloatKind.f32.format.read 0 = .number false 0 (-149) := by decide
  have hs : (FloatKind.f32.format.order b 0).isSome = true := by
    unfold Format.order
    rcases read32 b hn with ⟨s, hr⟩ | ⟨s, m, i, hr, _⟩
    · rw [hr, hz]; rfl
    · rw [hr, hz]; rfl
  show fcmp .leq (FloatKind.f32.format.order b 0) = !fcmp .gtr (FloatKind.f32.format.order b 0)
  cases ho : FloatKind.f32.format.order b 0 with
  | none => rw [ho] at hs; cases hs
  | some r => cases r <;> rfl
/-- what an accent adds: a finite number; not greater than nothing is what is at most nothing -/
theorem bump_ok {a s wd t : Nat} (h : accC (cls .f32 a) (cls .f32 s) (cls .f32 wd) = true) (ht : fin32 (cls .f32 t) = true) :
    fcmp .leq (ford .f32 (bumpW (cls .f32 t) (cls .f32 a) (cls .f32 wd)) (some 0)) = !fcmp .gtr (ford .f32 (bumpW (cls .f32 t) (cls .f32 a) (cls .f32 wd)) (some 0)) ∧ fin32 (bumpC (cls .f32 a) (cls .f32 s) (cls .f32 wd) (cls .f32 t)) = true := by
  have h' : fin32 (cls .f32 a) = true ∧ (fin32 (cls .f32 s) = true ∧ areaC (cls .f32 wd) = true) := by unfold accC at h; simpa using h
  obtain ⟨b, hb, nb, hp⟩ := bump_w ht h'.1 h'.2.2
  unfold bumpC
  rw [hb]
  refine ⟨leq_not nb, ?_⟩
  cases hg : fcmp .gtr (ford .f32 (some b) (some 0))
  · exact (show fin32 (some 0) = true from by decide)
  · simp only [if_true]
    obtain ⟨n, j, q1, q2, q3⟩ := hp hg
    obtain ⟨r, e1, f1⟩ := mul_share_fin h'.2.1 q1 q2 q3
    obtain ⟨r2, e2, f2⟩ := mul_share_fin f1 q1 q2 q3
    rw [e1, e2]
    exact f2

theorem toAccent_any (a s d : Nat) (w : World) :
    Calls Try.prog 18 #[.agg #[.float .f32 a, .float .f32 s, .float .f32 d]] w fun e w' => e = .returned (.agg #[.float .f32 a, .float .f32 s, .float .f32 d]) ∧ Ext w w' := by
  go_enter Try.func18, Try.ntmps18
  go_wp2_with fail
  go_returns
  refine ⟨rfl, ?_⟩
  (repeat with_reducible (first | exact Ext.refl _ | exact ext_alloc _ _ | refine Ext.drewN ?_ _ | refine Ext.drew1 ?_ | refine Ext.set ?_ (by dsimp only; omega) _ | refine Ext.alloc ?_ _))
set_option maxHeartbeats 2000000 in
theorem isAccent_any (a s d : Nat) (w : World) : Calls Try.prog 159 #[.agg #[.float .f32 a, .float .f32 s, .float .f32 d]] w fun e w' => e = .returned (.bool (accC (cls .f32 a) (cls .f32 s) (cls .f32 d))) ∧ ∃ m, w' = (w.alloc (.cells #[.float .f32 a, .float .f32 s, .float .f32 d] 35)).drewN m := by
  unfold accC
  cases h1 : fin32 (cls .f32 a)
  · go_enter Try.func159, Try.ntmps159
    go_wp2_with (first | (go_at_call 104; with_reducible refine (isFinite_any a _).mono ?_; rintro e w' ⟨rfl, m, rfl⟩; rw [h1]))
    go_ret
    exact ⟨rfl, _, rfl⟩
  cases h2 : fin32 (cls .f32 s)
  · go_enter Try.func159, Try.ntmps159
    go_wp2_with (first | (go_at_call 104; with_reducible refine (isFinite_any a _).mono ?_; rintro e w' ⟨rfl, m, rfl⟩; rw [h1]) | (go_at_call 104; with_reducible refine (isFinite_any s _).mono ?_; rintro e w' ⟨rfl, m, rfl⟩; rw [h2]))
    go_ret
    exact ⟨rfl, _, rfl⟩
  cases h3 : areaC (cls .f32 d)
  · go_enter Try.func159, Try.ntmps159
    go_wp2_with (first | (go_at_call 104; with_reducible refine (isFinite_any a _).mono ?_; rintro e w' ⟨rfl, m, rfl⟩; rw [h1]) | (go_at_call 104; with_reducible refine (isFinite_any s _).mono ?_; rintro e w' ⟨rfl, m, rfl⟩; rw [h2]) | (go_at_call 126; refine (isExtent_any d _).mono ?_; rintro e w' ⟨rfl, m2, rfl⟩; rw [h3]))
    go_ret
    exact ⟨rfl, _, rfl⟩
  go_enter Try.func159, Try.ntmps159
  go_wp2_with (first | (go_at_call 104; with_reducible refine (isFinite_any a _).mono ?_; rintro e w' ⟨rfl, m, rfl⟩; rw [h1]) | (go_at_call 104; with_reducible refine (isFinite_any s _).mono ?_; rintro e w' ⟨rfl, m, rfl⟩; rw [h2]) | (go_at_call 126; refine (isExtent_any d _).mono ?_; rintro e w' ⟨rfl, m2, rfl⟩; rw [h3]))
  go_ret
  exact ⟨rfl, _, rfl⟩

set_option maxHeartbeats 2000000 in
theorem l06Accent_any (x a s d : Nat) (w : World) (hb : Box w x #[.float .f32 a, .float .f32 s, .float .f32 d]) : Calls Try.prog 130 #[.pointer (some ⟨x, 0, none⟩)] w fun e w' => e = .returned (.bool (accC (cls .f32 a) (cls .f32 s) (cls .f32 d))) ∧ ∃ m, w' = w.drewN m := by
  obtain ⟨c0, c1, c2, hlt⟩ := Box.cells3 hb
  clear hb
  unfold accC
  cases h1 : fin32 (cls .f32 a)
  · go_enter Try.func130, Try.ntmps130
    go_wp2_with (first | (go_at_call 101; with_reducible refine (l01Finite_any a _).mono ?_; rintro e w' ⟨rfl, m, rfl⟩; rw [h1]))
    go_ret
    exact ⟨rfl, _, rfl⟩
  cases h2 : fin32 (cls .f32 s)
  · go_enter Try.func130, Try.ntmps130
    go_wp2_with (first | (go_at_call 101; with_reducible refine (l01Finite_any a _).mono ?_; rintro e w' ⟨rfl, m, rfl⟩; rw [h1]) | (go_at_call 101; with_reducible refine (l01Finite_any s _).mono ?_; rintro e w' ⟨rfl, m, rfl⟩; rw [h2]))
    go_ret
    exact ⟨rfl, _, rfl⟩
  cases h3 : areaC (cls .f32 d)
  · go_enter Try.func130, Try.ntmps130
    go_wp2_with (first | (go_at_call 101; with_reducible refine (l01Finite_any a _).mono ?_; rintro e w' ⟨rfl, m, rfl⟩; rw [h1]) | (go_at_call 101; with_reducible refine (l01Finite_any s _).mono ?_; rintro e w' ⟨rfl, m, rfl⟩; rw [h2]) | (go_at_call 117; refine (l02Above_any d _).mono ?_; rintro e w' ⟨rfl, m2, rfl⟩; rw [h3]))
    go_ret
    exact ⟨rfl, _, rfl⟩
  go_enter Try.func130, Try.ntmps130
  go_wp2_with (first | (go_at_call 101; with_reducible refine (l01Finite_any a _).mono ?_; rintro e w' ⟨rfl, m, rfl⟩; rw [h1]) | (go_at_call 101; with_reducible refine (l01Finite_any s _).mono ?_; rintro e w' ⟨rfl, m, rfl⟩; rw [h2]) | (go_at_call 117; refine (l02Above_any d _).mono ?_; rintro e w' ⟨rfl, m2, rfl⟩; rw [h3]))
  go_ret
  exact ⟨rfl, _, rfl⟩

set_option maxHeartbeats 2000000 in
set_option maxRecDepth 100000 in
theorem bumpOf_any (a s d t : Nat) (w : World) (h : accC (cls .f32 a) (cls .f32 s) (cls .f32 d) = true) (ht : fin32 (cls .f32 t) = true) : Calls Try.prog 157 #[.agg #[.float .f32 a, .float .f32 s, .float .f32 d], .float .f32 t] w fun e w' => ∃ r, e = .returned (.float .f32 r) ∧ Is .f32 r (bumpC (cls .f32 a) (cls .f32 s) (cls .f32 d) (cls .f32 t)) ∧ ∃ m, w' = (w.alloc (.cells #[.float .f32 a, .float .f32 s, .float .f32 d] 35)).drewN m := by
  have hL := (bump_ok h ht).1
  unfold bumpC
  unfold bumpW at hL ⊢
  cases hG : fcmp .gtr (ford .f32 (fop .sub .f32 (some 1065353216) (fop .mul .f32 (fop .quo .f32 (fop .sub .f32 (cls .f32 t) (cls .f32 a)) (cls .f32 d)) (fop .quo .f32 (fop .sub .f32 (cls .f32 t) (cls .f32 a)) (cls .f32 d)))) (some 0))
  all_goals
    rw [hG] at hL
    go_enter Try.func157, Try.ntmps157
    go_wp2_with (first | (refine wpList_fa rfl rfl rfl rfl rfl (by first | assumption | exact is_const (by decide) | exact is_self _ _) (by first | assumption | exact is_const (by decide) | exact is_self _ _) ?_; intro r n hr hrw) | (refine wpList_fcmp rfl rfl rfl rfl rfl (by first | assumption | exact is_const (by decide) | exact is_self _ _) (by first | assumption | exact is_const (by decide) | exact is_self _ _) ?_; rw [hL]))
    go_ret
    first
      | exact ⟨_, rfl, is_const (by decide), _, rfl⟩
      | (refine ⟨_, rfl, ?_, _, rfl⟩; first | assumption | (simp only [if_true]; assumption))
set_option maxHeartbeats 2000000 in
set_option maxRecDepth 100000 in
theorem l06Bump_any (x a s d t : Nat) (w : World) (hb : Box w x #[.float .f32 a, .float .f32 s, .float .f32 d]) : Calls Try.prog 155 #[.pointer (some ⟨x, 0, none⟩), .float .f32 t] w fun e w' => ∃ r, e = .returned (.float .f32 r) ∧ Is .f32 r (bumpC (cls .f32 a) (cls .f32 s) (cls .f32 d) (cls .f32 t)) ∧ ∃ m, w' = w.drewN m := by
  obtain ⟨c0, c1, c2, hlt⟩ := Box.cells3 hb
  clear hb
  unfold bumpC bumpW
  cases hG : fcmp .gtr (ford .f32 (fop .sub .f32 (some 1065353216) (fop .mul .f32 (fop .quo .f32 (fop .sub .f32 (cls .f32 t) (cls .f32 a)) (cls .f32 d)) (fop .quo .f32 (fop .sub .f32 (cls .f32 t) (cls .f32 a)) (cls .f32 d)))) (some 0))
  all_goals
    go_enter Try.func155, Try.ntmps155
    go_wp2_with fail
    refine wp_region_many (by kernel_rfl) (by kernel_rfl) (by kernel_rfl) ?_
    repeat (with_reducible refine wpM_cons ?_; first
      | (refine wpM_fa rfl rfl rfl rfl rfl (by first | assumption | exact is_const (by decide) | exact is_int _ | exact is_self _ _) (by first | assumption | exact is_const (by decide) | exact is_int _ | exact is_self _ _) ?_; intro r hr hrw)
      | (refine wpM_quiet rfl (fun K hK => ?_); go_simp; refine hK _ ?_; clear hK K))
    with_reducible refine wpM_nil ?_
    intro w3 hw3
    obtain ⟨nq, hw3⟩ := hw3
    subst hw3
    go_wp2_with (first | (refine wpList_fa rfl rfl rfl rfl rfl (by first | assumption | exact is_const (by decide) | exact is_self _ _) (by first | assumption | exact is_const (by decide) | exact is_self _ _) ?_; intro r n hr hrw) | (refine wpList_fcmp rfl rfl rfl rfl rfl (by first | assumption | exact is_const (by decide) | exact is_self _ _) (by first | assumption | exact is_const (by decide) | exact is_self _ _) ?_; rw [hG]))
    go_ret
    first
      | exact ⟨_, rfl, is_const (by decide), _, rfl⟩
      | (refine ⟨_, rfl, ?_, _, rfl⟩; first | assumption | (simp only [if_true]; assumption))

end Go.Proofs.Ythinjgiakaflpab
