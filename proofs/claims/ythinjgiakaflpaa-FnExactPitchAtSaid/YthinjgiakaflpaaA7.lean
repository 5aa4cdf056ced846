/- PitchAt. -/
import Derived.Test.YthinjgiakaflpaaA7s
namespace Go.Proofs.Ythinjgiakaflpaa
open Go.RowKit Flt
set_option linter.unusedVariables false

open Ieee
set_option maxHeartbeats 4000000 in
set_option maxRecDepth 100000 in
theorem pitch_any (b f ri : Nat) (a : Option Addr) (n c t l : Nat) (ys : List Nat) (R : Option Nat) (O : Bool) (w : World) (h : HoldsA w a n ys) (hn : n ≤ 1048576) (hR : pitchR (cls .f32 b) (cls .f32 f) (cls .f32 ri) ys n (cls .f32 t) (cls .f32 l) = (R, O)) :
    Calls Try.prog 55 #[.agg #[.float .f32 b, .float .f32 f, .float .f32 ri, .slice a n c], .float .f32 t, .float .f32 l] w fun e w' => ∃ v, e = .returned (.tuple #[.float .f32 v, .bool O]) ∧ Is .f32 v R ∧ Ext w w' := by
  have HH := hid h
  have HN := hid hn
  clear h hn
  cases hV : tuneV (cls .f32 b) (cls .f32 f) (cls .f32 ri) ys n
  · have e : R = some 0 ∧ O = false := by
      unfold pitchR at hR
      rw [hV] at hR
      cases hR; exact ⟨rfl, rfl⟩
    obtain ⟨rfl, rfl⟩ := e
    have HV := hid hV
    clear hR hV
    go_enter Try.func55, Try.ntmps55
    go_wp2_with (first | (go_at_call 48; with_reducible refine (validTune_is b f ri a n c ys false _ (HoldsA.ext HH.out (by (repeat with_reducible (first | exact Ext.refl _ | exact ext_alloc _ _ | refine Ext.drewN ?_ _ | refine Ext.drew1 ?_ | refine Ext.set ?_ (by dsimp only; omega) _ | refine Ext.alloc ?_ _)))) HN.out HV.out).mono ?_; rintro e w1 ⟨rfl, E1⟩; have BX := hid (Box.ext (box_new (w := w) #[.float .f32 b, .float .f32 f, .float .f32 ri, .slice a n c] 72) E1); have EX1 := hid (Ext.trans (ext_alloc w (.cells #[.float .f32 b, .float .f32 f, .float .f32 ri, .slice a n c] 72)) E1); clear E1; obtain ⟨d0, d1, d2, d3, dl⟩ := Box.cells4 BX.out))
    go_returns
    refine ⟨_, rfl, is_const (by decide), ?_⟩
    exact Ext.trans EX1.out (by (repeat with_reducible (first | exact Ext.refl _ | exact ext_alloc _ _ | refine Ext.drewN ?_ _ | refine Ext.drew1 ?_ | refine Ext.set ?_ (by dsimp only; omega) _ | refine Ext.alloc ?_ _)))
  cases hT : leastC (cls .f32 t)
  · have e : R = some 0 ∧ O = false := by
      unfold pitchR at hR
      rw [hV, hT] at hR
      cases hR; exact ⟨rfl, rfl⟩
    obtain ⟨rfl, rfl⟩ := e
    have HV := hid hV
    clear hR hV
    go_enter Try.func55, Try.ntmps55
    go_wp2_with (first | (go_at_call 48; with_reducible refine (validTune_is b f ri a n c ys true _ (HoldsA.ext HH.out (by (repeat with_reducible (first | exact Ext.refl _ | exact ext_alloc _ _ | refine Ext.drewN ?_ _ | refine Ext.drew1 ?_ | refine Ext.set ?_ (by dsimp only; omega) _ | refine Ext.alloc ?_ _)))) HN.out HV.out).mono ?_; rintro e w1 ⟨rfl, E1⟩; have BX := hid (Box.ext (box_new (w := w) #[.float .f32 b, .float .f32 f, .float .f32 ri, .slice a n c] 72) E1); have EX1 := hid (Ext.trans (ext_alloc w (.cells #[.float .f32 b, .float .f32 f, .float .f32 ri, .slice a n c] 72)) E1); clear E1; obtain ⟨d0, d1, d2, d3, dl⟩ := Box.cells4 BX.out) | (go_at_call 76; with_reducible refine (isLeast_any t _).mono ?_; rintro e w' ⟨rfl, m2, rfl⟩; rw [hT]))
    go_returns
    refine ⟨_, rfl, is_const (by decide), ?_⟩
    exact Ext.trans EX1.out (by (repeat with_reducible (first | exact Ext.refl _ | exact ext_alloc _ _ | refine Ext.drewN ?_ _ | refine Ext.drew1 ?_ | refine Ext.set ?_ (by dsimp only; omega) _ | refine Ext.alloc ?_ _)))
  cases hL : areaC (cls .f32 l)
  · have e : R = some 0 ∧ O = false := by
      unfold pitchR at hR
      rw [hV, hT, hL] at hR
      cases hR; exact ⟨rfl, rfl⟩
    obtain ⟨rfl, rfl⟩ := e
    have HV := hid hV
    clear hR hV
    go_enter Try.func55, Try.ntmps55
    go_wp2_with (first | (go_at_call 48; with_reducible refine (validTune_is b f ri a n c ys true _ (HoldsA.ext HH.out (by (repeat with_reducible (first | exact Ext.refl _ | exact ext_alloc _ _ | refine Ext.drewN ?_ _ | refine Ext.drew1 ?_ | refine Ext.set ?_ (by dsimp only; omega) _ | refine Ext.alloc ?_ _)))) HN.out HV.out).mono ?_; rintro e w1 ⟨rfl, E1⟩; have BX := hid (Box.ext (box_new (w := w) #[.float .f32 b, .float .f32 f, .float .f32 ri, .slice a n c] 72) E1); have EX1 := hid (Ext.trans (ext_alloc w (.cells #[.float .f32 b, .float .f32 f, .float .f32 ri, .slice a n c] 72)) E1); clear E1; obtain ⟨d0, d1, d2, d3, dl⟩ := Box.cells4 BX.out) | (go_at_call 76; with_reducible refine (isLeast_any t _).mono ?_; rintro e w' ⟨rfl, m2, rfl⟩; rw [hT]) | (go_at_call 75; with_reducible refine (isExtent_any l _).mono ?_; rintro e w' ⟨rfl, m3, rfl⟩; rw [hL]))
    go_returns
    refine ⟨_, rfl, is_const (by decide), ?_⟩
    exact Ext.trans EX1.out (by (repeat with_reducible (first | exact Ext.refl _ | exact ext_alloc _ _ | refine Ext.drewN ?_ _ | refine Ext.drew1 ?_ | refine Ext.set ?_ (by dsimp only; omega) _ | refine Ext.alloc ?_ _)))
  have HRO0 := hid (show R = finR (pitchG (pitchS (cls .f32 b) (cls .f32 f) (cls .f32 ri) ys n (cls .f32 t) (cls .f32 l))) ∧ O = fin32 (pitchG (pitchS (cls .f32 b) (cls .f32 f) (cls .f32 ri) ys n (cls .f32 t) (cls .f32 l))) from by
    unfold pitchR at hR
    rw [hV, hT, hL] at hR
    simp only [Bool.and_self, if_true, Prod.mk.injEq] at hR
    exact ⟨hR.1.symm, hR.2.symm⟩)
  have HLE0 := hid (pitchS_num hV hT hL).2
  have HAC := hid (tune_parts hV).2.2.2.2
  have HTF := hid (show fin32 (cls .f32 t) = true from by unfold leastC at hT; simp at hT; exact hT.2)
  have HMIN := hid (fun (q : Nat) (hq : Is .f32 q (fop .quo .f32 (cls .f32 t) (cls .f32 l))) (hqw : Hid (q < 2 ^ FloatKind.f32.format.width)) => show (FloatKind.f32.format.order q 1065353216).isSome = true ∧ Is .f32 (minV q 1065353216) (pitchX (cls .f32 t) (cls .f32 l)) from by
    obtain ⟨q0, h1, h2, _⟩ := quo_word hT hL
    have h3 := hq.out
    rw [h1] at h3
    have h4 : q0 = q := cls_word h3
    subst h4
    obtain ⟨h5, h6⟩ := min_one h2 (by have h9 := hqw.out; rw [show FloatKind.f32.format.width = 32 from by decide] at h9; omega)
    refine ⟨h5, ?_⟩
    rw [h6]
    unfold pitchX
    rw [h1, h3]
    cases fcmp .gtr (ford .f32 (some q0) (some 1065353216))
    · exact h3
    · exact (show Is .f32 1065353216 (some 1065353216) from is_const (by decide)))
  have HV := hid hV
  clear hR hV
  go_enter Try.func55, Try.ntmps55
  go_wp2_with (first | (go_at_call 48; with_reducible refine (validTune_is b f ri a n c ys true _ (HoldsA.ext HH.out (by (repeat with_reducible (first | exact Ext.refl _ | exact ext_alloc _ _ | refine Ext.drewN ?_ _ | refine Ext.drew1 ?_ | refine Ext.set ?_ (by dsimp only; omega) _ | refine Ext.alloc ?_ _)))) HN.out HV.out).mono ?_; rintro e w1 ⟨rfl, E1⟩; have BX := hid (Box.ext (box_new (w := w) #[.float .f32 b, .float .f32 f, .float .f32 ri, .slice a n c] 72) E1); have EX1 := hid (Ext.trans (ext_alloc w (.cells #[.float .f32 b, .float .f32 f, .float .f32 ri, .slice a n c] 72)) E1); clear E1; obtain ⟨d0, d1, d2, d3, dl⟩ := Box.cells4 BX.out) | (go_at_call 76; with_reducible refine (isLeast_any t _).mono ?_; rintro e w' ⟨rfl, m2, rfl⟩; rw [hT]) | (go_at_call 75; with_reducible refine (isExtent_any l _).mono ?_; rintro e w' ⟨rfl, m3, rfl⟩; rw [hL]) | (refine wpList_fminV rfl rfl rfl rfl (HMIN.out _ hq hqw).1 ?_; have hx := (HMIN.out _ hq hqw).2; clear hq hqw; generalize minV _ 1065353216 = xw at hx ⊢) | (refine wpList_fa rfl rfl rfl rfl rfl (by first | assumption | exact is_const (by decide) | exact is_self _ _) (by first | assumption | exact is_const (by decide) | exact is_self _ _) ?_; intro q nq hq hqw))
  have HA := hid (show Is .f32 q (pitch0 (cls .f32 b) (cls .f32 f) (pitchX (cls .f32 t) (cls .f32 l))) from by unfold pitch0; assumption)
  generalize q = p0 at HA ⊢
  clear hq hqw
  go_loopw [9, 40] (fun v i wr => ∃ (k p : Nat), k ≤ n ∧ i = .int .i64 k ∧ v = .float .f32 p ∧ Hid (Is .f32 p (pitchK (pitch0 (cls .f32 b) (cls .f32 f) (pitchX (cls .f32 t) (cls .f32 l))) (cls .f32 t) ys k)) ∧ Hid (Ext w1 wr)) (fun _ i _ => n - (intOf i).toNat)
  case atStart => exact ⟨0, p0, Nat.zero_le _, rfl, rfl, HA, hid (by (repeat with_reducible (first | exact Ext.refl _ | exact ext_alloc _ _ | refine Ext.drewN ?_ _ | refine Ext.drew1 ?_ | refine Ext.set ?_ (by dsimp only; omega) _ | refine Ext.alloc ?_ _)))⟩
  case round =>
    obtain ⟨k, p, hk, rfl, rfl, ha, he⟩ := hrel
    have hn2 : n ≤ 1048576 := HN.out
    clear d0 d1 d2 d3 dl
    obtain ⟨d0, d1, d2, d3, dl⟩ := Box.cells4 (Box.ext BX.out he.out)
    by_cases hlt : k < n
    · obtain ⟨_, h0 | ⟨g, off, rfl, hbl, hcell⟩⟩ := HoldsA.ext HH.out (Ext.trans EX1.out he.out)
      · omega
      obtain ⟨e0, e1, e2⟩ := hcell k hlt
      have HSU := hid (pitchK_succ (pitch0 (cls .f32 b) (cls .f32 f) (pitchX (cls .f32 t) (cls .f32 l))) (cls .f32 t) ys k)
      have hac1 : accC (cls .f32 (ys.getD (k * 3) 0)) (cls .f32 (ys.getD (k * 3 + 1) 0)) (cls .f32 (ys.getD (k * 3 + 2) 0)) = true := List.all_eq_true.1 (show (List.range n).all (fun k => accC (cls .f32 (ys.getD (k * 3) 0)) (cls .f32 (ys.getD (k * 3 + 1) 0)) (cls .f32 (ys.getD (k * 3 + 2) 0))) = true from HAC.out) k (List.mem_range.2 hlt)
      clear hcell
      generalize ys.getD (k * 3) 0 = x at e0 HSU hac1
      generalize ys.getD (k * 3 + 1) 0 = y at e1 HSU hac1
      generalize ys.getD (k * 3 + 2) 0 = z at e2 HSU hac1
      generalize pitchK (pitch0 (cls .f32 b) (cls .f32 f) (pitchX (cls .f32 t) (cls .f32 l))) (cls .f32 t) ys k = K at ha HSU
      have hac : Is .f32 p K := ha.out
      have HC := hid hac1
      clear hac1
      have hi0 : (0 : Int) ≤ (k : Int) := by omega
      have hi1 : (k : Int) < (n : Int) := by omega
      go_wp2_with (first | (go_at_call 69; with_reducible refine (bumpOf_any x y z t _ HC.out HTF.out).mono ?_; rintro e w' ⟨q, rfl, hq, m, rfl⟩) | (refine wpList_fa rfl rfl rfl rfl rfl (by first | assumption | exact is_const (by decide) | exact is_self _ _) (by first | assumption | exact is_const (by decide) | exact is_self _ _) ?_; intro q nq hq hqw))
      go_roundw
      case rel => exact ⟨k + 1, _, by omega, by go_num, rfl, hid (by rw [HSU.out]; assumption), hid (Ext.trans he.out (by (repeat with_reducible (first | exact Ext.refl _ | exact ext_alloc _ _ | refine Ext.drewN ?_ _ | refine Ext.drew1 ?_ | refine Ext.set ?_ (by dsimp only; omega) _ | refine Ext.alloc ?_ _))))⟩
      case measure => simp [intOf]; omega
    · have hkn : k = n := by omega
      subst hkn
      obtain ⟨SS, hSS⟩ : ∃ SS, SS = riseC (cls .f32 ri) (pitchX (cls .f32 t) (cls .f32 l)) (pitchK (pitch0 (cls .f32 b) (cls .f32 f) (pitchX (cls .f32 t) (cls .f32 l))) (cls .f32 t) ys k) := ⟨_, rfl⟩
      have HRO := hid (show R = finR (pitchG SS) ∧ O = fin32 (pitchG SS) from by rw [hSS]; exact HRO0.out)
      have HLE := hid (show fcmp .leq (ford .f32 SS (some 0)) = !fcmp .gtr (ford .f32 SS (some 0)) from by rw [hSS]; exact HLE0.out)
      have HSS := hid hSS
      clear hSS HRO0 HLE0 HMIN
      generalize pitchK (pitch0 (cls .f32 b) (cls .f32 f) (pitchX (cls .f32 t) (cls .f32 l))) (cls .f32 t) ys k = K at ha HSS
      have hac : Is .f32 p K := ha.out
      generalize (pitchX (cls .f32 t) (cls .f32 l)) = X0 at hx HSS
      cases h34 : fcmp .gtr (ford .f32 X0 (some 1061158912))
      · have eS : SS = K := by rw [HSS.out]; unfold riseC; rw [h34]; rfl
        cases hg : fcmp .gtr (ford .f32 K (some 0))
        · have hle : fcmp .leq (ford .f32 K (some 0)) = true := by have h9 := HLE.out; rw [eS, hg] at h9; exact h9
          have hR2 : pitchG SS = some 0 := by rw [eS]; unfold pitchG; rw [hg]; rfl
          clear eS HLE HSS
          have HR2 := hid (show O = fin32 (some 0) ∧ R = finR (some 0) from by have h9 := HRO.out; rw [hR2] at h9; exact ⟨h9.2, h9.1⟩)
          clear hR2 HRO
          go_wp2_with (first | (refine wpList_fcmp rfl rfl rfl rfl rfl (by first | assumption | exact is_const (by decide) | exact is_self _ _) (by first | assumption | exact is_const (by decide) | exact is_self _ _) ?_; rw [h34]) | (refine wpList_fa rfl rfl rfl rfl rfl (by first | assumption | exact is_const (by decide) | exact is_self _ _) (by first | assumption | exact is_const (by decide) | exact is_self _ _) ?_; intro q nq hq hqw) | (refine wpList_fcmp rfl rfl rfl rfl rfl (by first | assumption | exact is_const (by decide) | exact is_self _ _) (by first | assumption | exact is_const (by decide) | exact is_self _ _) ?_; rw [hle]))
          go_returns
          rw [HR2.out.1, HR2.out.2]
          refine ⟨_, rfl, is_const (by decide), ?_⟩
          exact Ext.trans EX1.out (Ext.trans he.out (by (repeat with_reducible (first | exact Ext.refl _ | exact ext_alloc _ _ | refine Ext.drewN ?_ _ | refine Ext.drew1 ?_ | refine Ext.set ?_ (by dsimp only; omega) _ | refine Ext.alloc ?_ _))))
        · have hle : fcmp .leq (ford .f32 K (some 0)) = false := by have h9 := HLE.out; rw [eS, hg] at h9; exact h9
          have hR2 : pitchG SS = K := by rw [eS]; unfold pitchG; rw [hg]; rfl
          clear eS HLE HSS
          have HR2 := hid (show O = fin32 K ∧ R = finR K from by have h9 := HRO.out; rw [hR2] at h9; exact ⟨h9.2, h9.1⟩)
          clear hR2 HRO
          go_wp2_with (first | (refine wpList_fcmp rfl rfl rfl rfl rfl (by first | assumption | exact is_const (by decide) | exact is_self _ _) (by first | assumption | exact is_const (by decide) | exact is_self _ _) ?_; rw [h34]) | (refine wpList_fa rfl rfl rfl rfl rfl (by first | assumption | exact is_const (by decide) | exact is_self _ _) (by first | assumption | exact is_const (by decide) | exact is_self _ _) ?_; intro q nq hq hqw) | (refine wpList_fcmp rfl rfl rfl rfl rfl (by first | assumption | exact is_const (by decide) | exact is_self _ _) (by first | assumption | exact is_const (by decide) | exact is_self _ _) ?_; rw [hle]) | (go_at_call 105; refine (finiteOnly_any _ K (by assumption) _).mono ?_; rintro e w' ⟨v, rfl, hv, m, rfl⟩))
          go_returns
          rw [HR2.out.1, HR2.out.2]
          refine ⟨_, rfl, hv, ?_⟩
          exact Ext.trans EX1.out (Ext.trans he.out (by (repeat with_reducible (first | exact Ext.refl _ | exact ext_alloc _ _ | refine Ext.drewN ?_ _ | refine Ext.drew1 ?_ | refine Ext.set ?_ (by dsimp only; omega) _ | refine Ext.alloc ?_ _))))
      · have eS : SS = (fop .add .f32 K (fop .mul .f32 (fop .mul .f32 (cls .f32 ri) (fop .sub .f32 X0 (some 1061158912))) (some 1082130432))) := by rw [HSS.out]; unfold riseC; rw [h34]; rfl
        cases hg : fcmp .gtr (ford .f32 (fop .add .f32 K (fop .mul .f32 (fop .mul .f32 (cls .f32 ri) (fop .sub .f32 X0 (some 1061158912))) (some 1082130432))) (some 0))
        · have hle : fcmp .leq (ford .f32 (fop .add .f32 K (fop .mul .f32 (fop .mul .f32 (cls .f32 ri) (fop .sub .f32 X0 (some 1061158912))) (some 1082130432))) (some 0)) = true := by have h9 := HLE.out; rw [eS, hg] at h9; exact h9
          have hR2 : pitchG SS = some 0 := by rw [eS]; unfold pitchG; rw [hg]; rfl
          clear eS HLE HSS
          have HR2 := hid (show O = fin32 (some 0) ∧ R = finR (some 0) from by have h9 := HRO.out; rw [hR2] at h9; exact ⟨h9.2, h9.1⟩)
          clear hR2 HRO
          go_wp2_with (first | (refine wpList_fcmp rfl rfl rfl rfl rfl (by first | assumption | exact is_const (by decide) | exact is_self _ _) (by first | assumption | exact is_const (by decide) | exact is_self _ _) ?_; rw [h34]) | (refine wpList_fa rfl rfl rfl rfl rfl (by first | assumption | exact is_const (by decide) | exact is_self _ _) (by first | assumption | exact is_const (by decide) | exact is_self _ _) ?_; intro q nq hq hqw) | (refine wpList_fcmp rfl rfl rfl rfl rfl (by first | assumption | exact is_const (by decide) | exact is_self _ _) (by first | assumption | exact is_const (by decide) | exact is_self _ _) ?_; rw [hle]))
          go_returns
          rw [HR2.out.1, HR2.out.2]
          refine ⟨_, rfl, is_const (by decide), ?_⟩
          exact Ext.trans EX1.out (Ext.trans he.out (by (repeat with_reducible (first | exact Ext.refl _ | exact ext_alloc _ _ | refine Ext.drewN ?_ _ | refine Ext.drew1 ?_ | refine Ext.set ?_ (by dsimp only; omega) _ | refine Ext.alloc ?_ _))))
        · have hle : fcmp .leq (ford .f32 (fop .add .f32 K (fop .mul .f32 (fop .mul .f32 (cls .f32 ri) (fop .sub .f32 X0 (some 1061158912))) (some 1082130432))) (some 0)) = false := by have h9 := HLE.out; rw [eS, hg] at h9; exact h9
          have hR2 : pitchG SS = (fop .add .f32 K (fop .mul .f32 (fop .mul .f32 (cls .f32 ri) (fop .sub .f32 X0 (some 1061158912))) (some 1082130432))) := by rw [eS]; unfold pitchG; rw [hg]; rfl
          clear eS HLE HSS
          have HR2 := hid (show O = fin32 (fop .add .f32 K (fop .mul .f32 (fop .mul .f32 (cls .f32 ri) (fop .sub .f32 X0 (some 1061158912))) (some 1082130432))) ∧ R = finR (fop .add .f32 K (fop .mul .f32 (fop .mul .f32 (cls .f32 ri) (fop .sub .f32 X0 (some 1061158912))) (some 1082130432))) from by have h9 := HRO.out; rw [hR2] at h9; exact ⟨h9.2, h9.1⟩)
          clear hR2 HRO
          go_wp2_with (first | (refine wpList_fcmp rfl rfl rfl rfl rfl (by first | assumption | exact is_const (by decide) | exact is_self _ _) (by first | assumption | exact is_const (by decide) | exact is_self _ _) ?_; rw [h34]) | (refine wpList_fa rfl rfl rfl rfl rfl (by first | assumption | exact is_const (by decide) | exact is_self _ _) (by first | assumption | exact is_const (by decide) | exact is_self _ _) ?_; intro q nq hq hqw) | (refine wpList_fcmp rfl rfl rfl rfl rfl (by first | assumption | exact is_const (by decide) | exact is_self _ _) (by first | assumption | exact is_const (by decide) | exact is_self _ _) ?_; rw [hle]) | (go_at_call 105; refine (finiteOnly_any _ (fop .add .f32 K (fop .mul .f32 (fop .mul .f32 (cls .f32 ri) (fop .sub .f32 X0 (some 1061158912))) (some 1082130432))) (by assumption) _).mono ?_; rintro e w' ⟨v, rfl, hv, m, rfl⟩))
          go_returns
          rw [HR2.out.1, HR2.out.2]
          refine ⟨_, rfl, hv, ?_⟩
          exact Ext.trans EX1.out (Ext.trans he.out (by (repeat with_reducible (first | exact Ext.refl _ | exact ext_alloc _ _ | refine Ext.drewN ?_ _ | refine Ext.drew1 ?_ | refine Ext.set ?_ (by dsimp only; omega) _ | refine Ext.alloc ?_ _))))

end Go.Proofs.Ythinjgiakaflpaa
