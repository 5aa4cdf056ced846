/- PitchAt, the specification. -/
import Derived.Test.YthinjgiakaflpaaA6
import Derived.Test.YthinjgiakaflpaaF7
namespace Go.Proofs.Ythinjgiakaflpaa
open Go.RowKit Flt
set_option linter.unusedVariables false

open Ieee

theorem pitchK_succ (P T : Option Nat) (ys : List Nat) (k : Nat) : pitchK P T ys (k + 1) = fop .add .f32 (pitchK P T ys k) (bumpC (cls .f32 (ys.getD (k * 3) 0)) (cls .f32 (ys.getD (k * 3 + 1) 0)) (cls .f32 (ys.getD (k * 3 + 2) 0)) T) := rfl
set_option maxHeartbeats 2000000 in
set_option maxRecDepth 100000 in
theorem l06BumpAt_any (b o x y z t : Nat) (w : World) (h : Cell3 w b o x y z) (hb : b < w.heap.size) : Calls Try.prog 67 #[.pointer (some ⟨b, o, none⟩), .float .f32 t] w fun e w' => ∃ r, e = .returned (.float .f32 r) ∧ Is .f32 r (bumpC (cls .f32 x) (cls .f32 y) (cls .f32 z) (cls .f32 t)) ∧ ∃ m, w' = w.drewN m := by
  obtain ⟨c0, c1, c2⟩ := h
  unfold bumpC bumpW
  cases hG : fcmp .gtr (ford .f32 (fop .sub .f32 (some 1065353216) (fop .mul .f32 (fop .quo .f32 (fop .sub .f32 (cls .f32 t) (cls .f32 x)) (cls .f32 z)) (fop .quo .f32 (fop .sub .f32 (cls .f32 t) (cls .f32 x)) (cls .f32 z)))) (some 0))
  all_goals
    go_enter Try.func67, Try.ntmps67
    go_wp2_with fail
    refine wp_region_many (by kernel_rfl) (by kernel_rfl) (by kernel_rfl) ?_
    repeat (with_reducible refine wpM_cons ?_; first
      | (refine wpM_fa rfl rfl rfl rfl rfl (by first | assumption | exact is_const (by decide) | exact is_int _ | exact is_self _ _) (by first | assumption | exact is_const (by decide) | exact is_int _ | exact is_self _ _) ?_; intro r hr hrw)
      | (refine wpM_quiet rfl (fun K hK => ?_); go_simp; refine hK _ ?_; clear hK K))
    with_reducible refine wpM_nil ?_
    intro w3 hw3
    obtain ⟨nq, hw3⟩ := hw3
    subst hw3
    go_wp2_with (first | (refine wpList_fa rfl rfl rfl rfl rfl (by first | assumption | exact is_const (by decide) | exact is_self _ _) (by first | assumption | exact is_const (by decide) | exact is_self _ _) ?_; intro q nq hq hqw) | (refine wpList_fcmp rfl rfl rfl rfl rfl (by first | assumption | exact is_const (by decide) | exact is_self _ _) (by first | assumption | exact is_const (by decide) | exact is_self _ _) ?_; rw [hG]))
    go_ret
    first
      | exact ⟨_, rfl, is_const (by decide), _, rfl⟩
      | (refine ⟨_, rfl, ?_, _, rfl⟩; first | assumption | (simp only [if_true]; assumption))

set_option maxHeartbeats 4000000 in
set_option maxRecDepth 100000 in
theorem l06Pitch_any (x0 b f ri : Nat) (a : Option Addr) (n c t l : Nat) (ys : List Nat) (R : Option Nat) (O : Bool) (w : World) (hb : Box w x0 #[.float .f32 b, .float .f32 f, .float .f32 ri, .slice a n c]) (h : HoldsA w a n ys) (hn : n ≤ 1048576) (hR : (finR (pitchG (riseC (cls .f32 ri) (pitchX (cls .f32 t) (cls .f32 l)) (pitchK (fop .add .f32 (some 0) (pitch0 (cls .f32 b) (cls .f32 f) (pitchX (cls .f32 t) (cls .f32 l)))) (cls .f32 t) ys n))), fin32 (pitchG (riseC (cls .f32 ri) (pitchX (cls .f32 t) (cls .f32 l)) (pitchK (fop .add .f32 (some 0) (pitch0 (cls .f32 b) (cls .f32 f) (pitchX (cls .f32 t) (cls .f32 l)))) (cls .f32 t) ys n)))) = (R, O)) :
    Calls Try.prog 104 #[.pointer (some ⟨x0, 0, none⟩), .float .f32 t, .float .f32 l] w fun e w' => ∃ v, e = .returned (.tuple #[.float .f32 v, .bool O]) ∧ Is .f32 v R ∧ Ext w w' := by
  have HH := hid h
  have HN := hid hn
  have HBX := hid hb
  have HRR := hid hR
  obtain ⟨d0, d1, d2, d3, dl⟩ := Box.cells4 hb
  clear h hn hb hR
  cases hg1 : fcmp .gtr (ford .f32 (fop .quo .f32 (cls .f32 t) (cls .f32 l)) (some 1065353216))
  · have XE : (pitchX (cls .f32 t) (cls .f32 l)) = fop .quo .f32 (cls .f32 t) (cls .f32 l) := by unfold pitchX; rw [hg1]; rfl
    have HXE := hid XE
    clear XE
    go_enter Try.func104, Try.ntmps104
    go_wp2_with (first | (refine wpList_fa rfl rfl rfl rfl rfl (by first | assumption | exact is_const (by decide) | exact is_self _ _) (by first | assumption | exact is_const (by decide) | exact is_self _ _) ?_; intro q nq hq hqw) | (refine wpList_fcmp rfl rfl rfl rfl rfl (by first | assumption | exact is_const (by decide) | exact is_self _ _) (by first | assumption | exact is_const (by decide) | exact is_self _ _) ?_; rw [hg1]))
    have hqx := hid hq
    refine wp_region_many (by kernel_rfl) (by kernel_rfl) (by kernel_rfl) ?_
    repeat (with_reducible refine wpM_cons ?_; first
      | (refine wpM_fa rfl rfl rfl rfl rfl (by first | assumption | exact is_const (by decide) | exact is_int _ | exact is_self _ _) (by first | assumption | exact is_const (by decide) | exact is_int _ | exact is_self _ _) ?_; intro r hr hrw)
      | (refine wpM_quiet rfl (fun K hK => ?_); go_simp; refine hK _ ?_; clear hK K))
    with_reducible refine wpM_nil ?_
    intro w3 hw3
    obtain ⟨nq, hw3⟩ := hw3
    subst hw3
    have HA := hid (show Is .f32 r (fop .add .f32 (some 0) (pitch0 (cls .f32 b) (cls .f32 f) (pitchX (cls .f32 t) (cls .f32 l)))) from by unfold pitch0; rw [HXE.out]; assumption)
    generalize r = p0 at HA ⊢
    clear hr hrw
    go_wp2_with fail
    go_loopw [9, 10] (fun v i wr => ∃ (k p : Nat), k ≤ n ∧ i = .int .i64 k ∧ v = .float .f32 p ∧ Hid (Is .f32 p (pitchK (fop .add .f32 (some 0) (pitch0 (cls .f32 b) (cls .f32 f) (pitchX (cls .f32 t) (cls .f32 l)))) (cls .f32 t) ys k)) ∧ Hid (Ext w wr)) (fun _ i _ => n - (intOf i).toNat)
    case atStart => exact ⟨0, p0, Nat.zero_le _, rfl, rfl, HA, hid (by (repeat with_reducible (first | exact Ext.refl _ | exact ext_alloc _ _ | refine Ext.drewN ?_ _ | refine Ext.drew1 ?_ | refine Ext.set ?_ (by dsimp only; omega) _ | refine Ext.alloc ?_ _)))⟩
    case round =>
      obtain ⟨k, p, hk, rfl, rfl, ha, he⟩ := hrel
      have hn2 : n ≤ 1048576 := HN.out
      clear d0 d1 d2 d3 dl
      obtain ⟨d0, d1, d2, d3, dl⟩ := Box.cells4 (Box.ext HBX.out he.out)
      by_cases hlt : k < n
      · obtain ⟨_, h0 | ⟨g, off, rfl, hbl, hcell⟩⟩ := HoldsA.ext HH.out he.out
        · omega
        have hc3 := hcell k hlt
        have HSU := hid (pitchK_succ (fop .add .f32 (some 0) (pitch0 (cls .f32 b) (cls .f32 f) (pitchX (cls .f32 t) (cls .f32 l)))) (cls .f32 t) ys k)
        clear hcell
        generalize ys.getD (k * 3) 0 = x at hc3 HSU
        generalize ys.getD (k * 3 + 1) 0 = y at hc3 HSU
        generalize ys.getD (k * 3 + 2) 0 = z at hc3 HSU
        generalize pitchK (fop .add .f32 (some 0) (pitch0 (cls .f32 b) (cls .f32 f) (pitchX (cls .f32 t) (cls .f32 l)))) (cls .f32 t) ys k = K at ha HSU
        have hac : Is .f32 p K := ha.out
        have HC3 := hid (And.intro hc3 hbl)
        clear hc3
        have hi0 : (0 : Int) ≤ (k : Int) := by omega
        have hi1 : (k : Int) < (n : Int) := by omega
        go_wp2_with (first | (go_at_call 67; with_reducible refine (l06BumpAt_any _ _ x y z t _ HC3.out.1 HC3.out.2).mono ?_; rintro e w' ⟨q, rfl, hq, m, rfl⟩) | (refine wpList_fa rfl rfl rfl rfl rfl (by first | assumption | exact is_const (by decide) | exact is_self _ _) (by first | assumption | exact is_const (by decide) | exact is_self _ _) ?_; intro q nq hq hqw))
        go_roundw
        case rel => exact ⟨k + 1, _, by omega, by go_num, rfl, hid (by rw [HSU.out]; assumption), hid (Ext.trans he.out (by (repeat with_reducible (first | exact Ext.refl _ | exact ext_alloc _ _ | refine Ext.drewN ?_ _ | refine Ext.drew1 ?_ | refine Ext.set ?_ (by dsimp only; omega) _ | refine Ext.alloc ?_ _))))⟩
        case measure => simp [intOf]; omega
      · have hkn : k = n := by omega
        subst hkn
        obtain ⟨SS, hSS⟩ : ∃ SS, SS = riseC (cls .f32 ri) (pitchX (cls .f32 t) (cls .f32 l)) (pitchK (fop .add .f32 (some 0) (pitch0 (cls .f32 b) (cls .f32 f) (pitchX (cls .f32 t) (cls .f32 l)))) (cls .f32 t) ys k) := ⟨_, rfl⟩
        have HRO := hid (show R = finR (pitchG SS) ∧ O = fin32 (pitchG SS) from by have h9 := HRR.out; rw [← hSS] at h9; simp only [Prod.mk.injEq] at h9; exact ⟨h9.1.symm, h9.2.symm⟩)
        have HSS := hid hSS
        clear hSS HRR
        generalize pitchK (fop .add .f32 (some 0) (pitch0 (cls .f32 b) (cls .f32 f) (pitchX (cls .f32 t) (cls .f32 l)))) (cls .f32 t) ys k = K at ha HSS
        have hac : Is .f32 p K := ha.out
        have hx : Is .f32 q (pitchX (cls .f32 t) (cls .f32 l)) := by rw [HXE.out]; exact hqx.out
        generalize (pitchX (cls .f32 t) (cls .f32 l)) = X0 at hx HSS
        cases h34 : fcmp .gtr (ford .f32 X0 (some 1061158912))
        · have eS : SS = K := by rw [HSS.out]; unfold riseC; rw [h34]; rfl
          cases hg : fcmp .gtr (ford .f32 K (some 0))
          · have hR2 : pitchG SS = some 0 := by rw [eS]; unfold pitchG; rw [hg]; rfl
            clear eS HSS
            have HR2 := hid (show O = fin32 (some 0) ∧ R = finR (some 0) from by have h9 := HRO.out; rw [hR2] at h9; exact ⟨h9.2, h9.1⟩)
            clear hR2 HRO
            go_wp2_with (first | (refine wpList_fcmp rfl rfl rfl rfl rfl (by first | assumption | exact is_const (by decide) | exact is_self _ _) (by first | assumption | exact is_const (by decide) | exact is_self _ _) ?_; rw [h34]) | (refine wpList_fa rfl rfl rfl rfl rfl (by first | assumption | exact is_const (by decide) | exact is_self _ _) (by first | assumption | exact is_const (by decide) | exact is_self _ _) ?_; intro q nq hq hqw) | (refine wpList_fcmp rfl rfl rfl rfl rfl (by first | assumption | exact is_const (by decide) | exact is_self _ _) (by first | assumption | exact is_const (by decide) | exact is_self _ _) ?_; rw [hg]) | (go_at_call 66; refine (l02Number_any _ (some 0) (is_const (by decide)) _).mono ?_; rintro e w' ⟨v, rfl, hv, m, rfl⟩))
            go_returns
            rw [HR2.out.1, HR2.out.2]
            refine ⟨_, rfl, hv, ?_⟩
            exact Ext.trans he.out (by (repeat with_reducible (first | exact Ext.refl _ | exact ext_alloc _ _ | refine Ext.drewN ?_ _ | refine Ext.drew1 ?_ | refine Ext.set ?_ (by dsimp only; omega) _ | refine Ext.alloc ?_ _)))
          · have hR2 : pitchG SS = K := by rw [eS]; unfold pitchG; rw [hg]; rfl
            clear eS HSS
            have HR2 := hid (show O = fin32 K ∧ R = finR K from by have h9 := HRO.out; rw [hR2] at h9; exact ⟨h9.2, h9.1⟩)
            clear hR2 HRO
            go_wp2_with (first | (refine wpList_fcmp rfl rfl rfl rfl rfl (by first | assumption | exact is_const (by decide) | exact is_self _ _) (by first | assumption | exact is_const (by decide) | exact is_self _ _) ?_; rw [h34]) | (refine wpList_fa rfl rfl rfl rfl rfl (by first | assumption | exact is_const (by decide) | exact is_self _ _) (by first | assumption | exact is_const (by decide) | exact is_self _ _) ?_; intro q nq hq hqw) | (refine wpList_fcmp rfl rfl rfl rfl rfl (by first | assumption | exact is_const (by decide) | exact is_self _ _) (by first | assumption | exact is_const (by decide) | exact is_self _ _) ?_; rw [hg]) | (go_at_call 66; refine (l02Number_any _ K (by assumption) _).mono ?_; rintro e w' ⟨v, rfl, hv, m, rfl⟩))
            go_returns
            rw [HR2.out.1, HR2.out.2]
            refine ⟨_, rfl, hv, ?_⟩
            exact Ext.trans he.out (by (repeat with_reducible (first | exact Ext.refl _ | exact ext_alloc _ _ | refine Ext.drewN ?_ _ | refine Ext.drew1 ?_ | refine Ext.set ?_ (by dsimp only; omega) _ | refine Ext.alloc ?_ _)))
        · have eS : SS = (fop .add .f32 K (fop .mul .f32 (fop .mul .f32 (cls .f32 ri) (fop .sub .f32 X0 (some 1061158912))) (some 1082130432))) := by rw [HSS.out]; unfold riseC; rw [h34]; rfl
          cases hg : fcmp .gtr (ford .f32 (fop .add .f32 K (fop .mul .f32 (fop .mul .f32 (cls .f32 ri) (fop .sub .f32 X0 (some 1061158912))) (some 1082130432))) (some 0))
          · have hR2 : pitchG SS = some 0 := by rw [eS]; unfold pitchG; rw [hg]; rfl
            clear eS HSS
            have HR2 := hid (show O = fin32 (some 0) ∧ R = finR (some 0) from by have h9 := HRO.out; rw [hR2] at h9; exact ⟨h9.2, h9.1⟩)
            clear hR2 HRO
            go_wp2_with (first | (refine wpList_fcmp rfl rfl rfl rfl rfl (by first | assumption | exact is_const (by decide) | exact is_self _ _) (by first | assumption | exact is_const (by decide) | exact is_self _ _) ?_; rw [h34]) | (refine wpList_fa rfl rfl rfl rfl rfl (by first | assumption | exact is_const (by decide) | exact is_self _ _) (by first | assumption | exact is_const (by decide) | exact is_self _ _) ?_; intro q nq hq hqw) | (refine wpList_fcmp rfl rfl rfl rfl rfl (by first | assumption | exact is_const (by decide) | exact is_self _ _) (by first | assumption | exact is_const (by decide) | exact is_self _ _) ?_; rw [hg]) | (go_at_call 66; refine (l02Number_any _ (some 0) (is_const (by decide)) _).mono ?_; rintro e w' ⟨v, rfl, hv, m, rfl⟩))
            go_returns
            rw [HR2.out.1, HR2.out.2]
            refine ⟨_, rfl, hv, ?_⟩
            exact Ext.trans he.out (by (repeat with_reducible (first | exact Ext.refl _ | exact ext_alloc _ _ | refine Ext.drewN ?_ _ | refine Ext.drew1 ?_ | refine Ext.set ?_ (by dsimp only; omega) _ | refine Ext.alloc ?_ _)))
          · have hR2 : pitchG SS = (fop .add .f32 K (fop .mul .f32 (fop .mul .f32 (cls .f32 ri) (fop .sub .f32 X0 (some 1061158912))) (some 1082130432))) := by rw [eS]; unfold pitchG; rw [hg]; rfl
            clear eS HSS
            have HR2 := hid (show O = fin32 (fop .add .f32 K (fop .mul .f32 (fop .mul .f32 (cls .f32 ri) (fop .sub .f32 X0 (some 1061158912))) (some 1082130432))) ∧ R = finR (fop .add .f32 K (fop .mul .f32 (fop .mul .f32 (cls .f32 ri) (fop .sub .f32 X0 (some 1061158912))) (some 1082130432))) from by have h9 := HRO.out; rw [hR2] at h9; exact ⟨h9.2, h9.1⟩)
            clear hR2 HRO
            go_wp2_with (first | (refine wpList_fcmp rfl rfl rfl rfl rfl (by first | assumption | exact is_const (by decide) | exact is_self _ _) (by first | assumption | exact is_const (by decide) | exact is_self _ _) ?_; rw [h34]) | (refine wpList_fa rfl rfl rfl rfl rfl (by first | assumption | exact is_const (by decide) | exact is_self _ _) (by first | assumption | exact is_const (by decide) | exact is_self _ _) ?_; intro q nq hq hqw) | (refine wpList_fcmp rfl rfl rfl rfl rfl (by first | assumption | exact is_const (by decide) | exact is_self _ _) (by first | assumption | exact is_const (by decide) | exact is_self _ _) ?_; rw [hg]) | (go_at_call 66; refine (l02Number_any _ (fop .add .f32 K (fop .mul .f32 (fop .mul .f32 (cls .f32 ri) (fop .sub .f32 X0 (some 1061158912))) (some 1082130432))) (by assumption) _).mono ?_; rintro e w' ⟨v, rfl, hv, m, rfl⟩))
            go_returns
            rw [HR2.out.1, HR2.out.2]
            refine ⟨_, rfl, hv, ?_⟩
            exact Ext.trans he.out (by (repeat with_reducible (first | exact Ext.refl _ | exact ext_alloc _ _ | refine Ext.drewN ?_ _ | refine Ext.drew1 ?_ | refine Ext.set ?_ (by dsimp only; omega) _ | refine Ext.alloc ?_ _)))

  · have XE : (pitchX (cls .f32 t) (cls .f32 l)) = some 1065353216 := by unfold pitchX; rw [hg1]; rfl
    have HXE := hid XE
    clear XE
    go_enter Try.func104, Try.ntmps104
    go_wp2_with (first | (refine wpList_fa rfl rfl rfl rfl rfl (by first | assumption | exact is_const (by decide) | exact is_self _ _) (by first | assumption | exact is_const (by decide) | exact is_self _ _) ?_; intro q nq hq hqw) | (refine wpList_fcmp rfl rfl rfl rfl rfl (by first | assumption | exact is_const (by decide) | exact is_self _ _) (by first | assumption | exact is_const (by decide) | exact is_self _ _) ?_; rw [hg1]))
    refine wp_region_many (by kernel_rfl) (by kernel_rfl) (by kernel_rfl) ?_
    repeat (with_reducible refine wpM_cons ?_; first
      | (refine wpM_fa rfl rfl rfl rfl rfl (by first | assumption | exact is_const (by decide) | exact is_int _ | exact is_self _ _) (by first | assumption | exact is_const (by decide) | exact is_int _ | exact is_self _ _) ?_; intro r hr hrw)
      | (refine wpM_quiet rfl (fun K hK => ?_); go_simp; refine hK _ ?_; clear hK K))
    with_reducible refine wpM_nil ?_
    intro w3 hw3
    obtain ⟨nq, hw3⟩ := hw3
    subst hw3
    have HA := hid (show Is .f32 r (fop .add .f32 (some 0) (pitch0 (cls .f32 b) (cls .f32 f) (pitchX (cls .f32 t) (cls .f32 l)))) from by unfold pitch0; rw [HXE.out]; assumption)
    generalize r = p0 at HA ⊢
    clear hr hrw
    go_wp2_with fail
    go_loopw [9, 10] (fun v i wr => ∃ (k p : Nat), k ≤ n ∧ i = .int .i64 k ∧ v = .float .f32 p ∧ Hid (Is .f32 p (pitchK (fop .add .f32 (some 0) (pitch0 (cls .f32 b) (cls .f32 f) (pitchX (cls .f32 t) (cls .f32 l)))) (cls .f32 t) ys k)) ∧ Hid (Ext w wr)) (fun _ i _ => n - (intOf i).toNat)
    case atStart => exact ⟨0, p0, Nat.zero_le _, rfl, rfl, HA, hid (by (repeat with_reducible (first | exact Ext.refl _ | exact ext_alloc _ _ | refine Ext.drewN ?_ _ | refine Ext.drew1 ?_ | refine Ext.set ?_ (by dsimp only; omega) _ | refine Ext.alloc ?_ _)))⟩
    case round =>
      obtain ⟨k, p, hk, rfl, rfl, ha, he⟩ := hrel
      have hn2 : n ≤ 1048576 := HN.out
      clear d0 d1 d2 d3 dl
      obtain ⟨d0, d1, d2, d3, dl⟩ := Box.cells4 (Box.ext HBX.out he.out)
      by_cases hlt : k < n
      · obtain ⟨_, h0 | ⟨g, off, rfl, hbl, hcell⟩⟩ := HoldsA.ext HH.out he.out
        · omega
        have hc3 := hcell k hlt
        have HSU := hid (pitchK_succ (fop .add .f32 (some 0) (pitch0 (cls .f32 b) (cls .f32 f) (pitchX (cls .f32 t) (cls .f32 l)))) (cls .f32 t) ys k)
        clear hcell
        generalize ys.getD (k * 3) 0 = x at hc3 HSU
        generalize ys.getD (k * 3 + 1) 0 = y at hc3 HSU
        generalize ys.getD (k * 3 + 2) 0 = z at hc3 HSU
        generalize pitchK (fop .add .f32 (some 0) (pitch0 (cls .f32 b) (cls .f32 f) (pitchX (cls .f32 t) (cls .f32 l)))) (cls .f32 t) ys k = K at ha HSU
        have hac : Is .f32 p K := ha.out
        have HC3 := hid (And.intro hc3 hbl)
        clear hc3
        have hi0 : (0 : Int) ≤ (k : Int) := by omega
        have hi1 : (k : Int) < (n : Int) := by omega
        go_wp2_with (first | (go_at_call 67; with_reducible refine (l06BumpAt_any _ _ x y z t _ HC3.out.1 HC3.out.2).mono ?_; rintro e w' ⟨q, rfl, hq, m, rfl⟩) | (refine wpList_fa rfl rfl rfl rfl rfl (by first | assumption | exact is_const (by decide) | exact is_self _ _) (by first | assumption | exact is_const (by decide) | exact is_self _ _) ?_; intro q nq hq hqw))
        go_roundw
        case rel => exact ⟨k + 1, _, by omega, by go_num, rfl, hid (by rw [HSU.out]; assumption), hid (Ext.trans he.out (by (repeat with_reducible (first | exact Ext.refl _ | exact ext_alloc _ _ | refine Ext.drewN ?_ _ | refine Ext.drew1 ?_ | refine Ext.set ?_ (by dsimp only; omega) _ | refine Ext.alloc ?_ _))))⟩
        case measure => simp [intOf]; omega
      · have hkn : k = n := by omega
        subst hkn
        obtain ⟨SS, hSS⟩ : ∃ SS, SS = riseC (cls .f32 ri) (pitchX (cls .f32 t) (cls .f32 l)) (pitchK (fop .add .f32 (some 0) (pitch0 (cls .f32 b) (cls .f32 f) (pitchX (cls .f32 t) (cls .f32 l)))) (cls .f32 t) ys k) := ⟨_, rfl⟩
        have HRO := hid (show R = finR (pitchG SS) ∧ O = fin32 (pitchG SS) from by have h9 := HRR.out; rw [← hSS] at h9; simp only [Prod.mk.injEq] at h9; exact ⟨h9.1.symm, h9.2.symm⟩)
        have HSS := hid hSS
        clear hSS HRR
        generalize pitchK (fop .add .f32 (some 0) (pitch0 (cls .f32 b) (cls .f32 f) (pitchX (cls .f32 t) (cls .f32 l)))) (cls .f32 t) ys k = K at ha HSS
        have hac : Is .f32 p K := ha.out
        have hx : Is .f32 1065353216 (pitchX (cls .f32 t) (cls .f32 l)) := by rw [HXE.out]; exact is_const (by decide)
        generalize (pitchX (cls .f32 t) (cls .f32 l)) = X0 at hx HSS
        cases h34 : fcmp .gtr (ford .f32 X0 (some 1061158912))
        · have eS : SS = K := by rw [HSS.out]; unfold riseC; rw [h34]; rfl
          cases hg : fcmp .gtr (ford .f32 K (some 0))
          · have hR2 : pitchG SS = some 0 := by rw [eS]; unfold pitchG; rw [hg]; rfl
            clear eS HSS
            have HR2 := hid (show O = fin32 (some 0) ∧ R = finR (some 0) from by have h9 := HRO.out; rw [hR2] at h9; exact ⟨h9.2, h9.1⟩)
            clear hR2 HRO
            go_wp2_with (first | (refine wpList_fcmp rfl rfl rfl rfl rfl (by first | assumption | exact is_const (by decide) | exact is_self _ _) (by first | assumption | exact is_const (by decide) | exact is_self _ _) ?_; rw [h34]) | (refine wpList_fa rfl rfl rfl rfl rfl (by first | assumption | exact is_const (by decide) | exact is_self _ _) (by first | assumption | exact is_const (by decide) | exact is_self _ _) ?_; intro q nq hq hqw) | (refine wpList_fcmp rfl rfl rfl rfl rfl (by first | assumption | exact is_const (by decide) | exact is_self _ _) (by first | assumption | exact is_const (by decide) | exact is_self _ _) ?_; rw [hg]) | (go_at_call 66; refine (l02Number_any _ (some 0) (is_const (by decide)) _).mono ?_; rintro e w' ⟨v, rfl, hv, m, rfl⟩))
            go_returns
            rw [HR2.out.1, HR2.out.2]
            refine ⟨_, rfl, hv, ?_⟩
            exact Ext.trans he.out (by (repeat with_reducible (first | exact Ext.refl _ | exact ext_alloc _ _ | refine Ext.drewN ?_ _ | refine Ext.drew1 ?_ | refine Ext.set ?_ (by dsimp only; omega) _ | refine Ext.alloc ?_ _)))
          · have hR2 : pitchG SS = K := by rw [eS]; unfold pitchG; rw [hg]; rfl
            clear eS HSS
            have HR2 := hid (show O = fin32 K ∧ R = finR K from by have h9 := HRO.out; rw [hR2] at h9; exact ⟨h9.2, h9.1⟩)
            clear hR2 HRO
            go_wp2_with (first | (refine wpList_fcmp rfl rfl rfl rfl rfl (by first | assumption | exact is_const (by decide) | exact is_self _ _) (by first | assumption | exact is_const (by decide) | exact is_self _ _) ?_; rw [h34]) | (refine wpList_fa rfl rfl rfl rfl rfl (by first | assumption | exact is_const (by decide) | exact is_self _ _) (by first | assumption | exact is_const (by decide) | exact is_self _ _) ?_; intro q nq hq hqw) | (refine wpList_fcmp rfl rfl rfl rfl rfl (by first | assumption | exact is_const (by decide) | exact is_self _ _) (by first | assumption | exact is_const (by decide) | exact is_self _ _) ?_; rw [hg]) | (go_at_call 66; refine (l02Number_any _ K (by assumption) _).mono ?_; rintro e w' ⟨v, rfl, hv, m, rfl⟩))
            go_returns
            rw [HR2.out.1, HR2.out.2]
            refine ⟨_, rfl, hv, ?_⟩
            exact Ext.trans he.out (by (repeat with_reducible (first | exact Ext.refl _ | exact ext_alloc _ _ | refine Ext.drewN ?_ _ | refine Ext.drew1 ?_ | refine Ext.set ?_ (by dsimp only; omega) _ | refine Ext.alloc ?_ _)))
        · have eS : SS = (fop .add .f32 K (fop .mul .f32 (fop .mul .f32 (cls .f32 ri) (fop .sub .f32 X0 (some 1061158912))) (some 1082130432))) := by rw [HSS.out]; unfold riseC; rw [h34]; rfl
          cases hg : fcmp .gtr (ford .f32 (fop .add .f32 K (fop .mul .f32 (fop .mul .f32 (cls .f32 ri) (fop .sub .f32 X0 (some 1061158912))) (some 1082130432))) (some 0))
          · have hR2 : pitchG SS = some 0 := by rw [eS]; unfold pitchG; rw [hg]; rfl
            clear eS HSS
            have HR2 := hid (show O = fin32 (some 0) ∧ R = finR (some 0) from by have h9 := HRO.out; rw [hR2] at h9; exact ⟨h9.2, h9.1⟩)
            clear hR2 HRO
            go_wp2_with (first | (refine wpList_fcmp rfl rfl rfl rfl rfl (by first | assumption | exact is_const (by decide) | exact is_self _ _) (by first | assumption | exact is_const (by decide) | exact is_self _ _) ?_; rw [h34]) | (refine wpList_fa rfl rfl rfl rfl rfl (by first | assumption | exact is_const (by decide) | exact is_self _ _) (by first | assumption | exact is_const (by decide) | exact is_self _ _) ?_; intro q nq hq hqw) | (refine wpList_fcmp rfl rfl rfl rfl rfl (by first | assumption | exact is_const (by decide) | exact is_self _ _) (by first | assumption | exact is_const (by decide) | exact is_self _ _) ?_; rw [hg]) | (go_at_call 66; refine (l02Number_any _ (some 0) (is_const (by decide)) _).mono ?_; rintro e w' ⟨v, rfl, hv, m, rfl⟩))
            go_returns
            rw [HR2.out.1, HR2.out.2]
            refine ⟨_, rfl, hv, ?_⟩
            exact Ext.trans he.out (by (repeat with_reducible (first | exact Ext.refl _ | exact ext_alloc _ _ | refine Ext.drewN ?_ _ | refine Ext.drew1 ?_ | refine Ext.set ?_ (by dsimp only; omega) _ | refine Ext.alloc ?_ _)))
          · have hR2 : pitchG SS = (fop .add .f32 K (fop .mul .f32 (fop .mul .f32 (cls .f32 ri) (fop .sub .f32 X0 (some 1061158912))) (some 1082130432))) := by rw [eS]; unfold pitchG; rw [hg]; rfl
            clear eS HSS
            have HR2 := hid (show O = fin32 (fop .add .f32 K (fop .mul .f32 (fop .mul .f32 (cls .f32 ri) (fop .sub .f32 X0 (some 1061158912))) (some 1082130432))) ∧ R = finR (fop .add .f32 K (fop .mul .f32 (fop .mul .f32 (cls .f32 ri) (fop .sub .f32 X0 (some 1061158912))) (some 1082130432))) from by have h9 := HRO.out; rw [hR2] at h9; exact ⟨h9.2, h9.1⟩)
            clear hR2 HRO
            go_wp2_with (first | (refine wpList_fcmp rfl rfl rfl rfl rfl (by first | assumption | exact is_const (by decide) | exact is_self _ _) (by first | assumption | exact is_const (by decide) | exact is_self _ _) ?_; rw [h34]) | (refine wpList_fa rfl rfl rfl rfl rfl (by first | assumption | exact is_const (by decide) | exact is_self _ _) (by first | assumption | exact is_const (by decide) | exact is_self _ _) ?_; intro q nq hq hqw) | (refine wpList_fcmp rfl rfl rfl rfl rfl (by first | assumption | exact is_const (by decide) | exact is_self _ _) (by first | assumption | exact is_const (by decide) | exact is_self _ _) ?_; rw [hg]) | (go_at_call 66; refine (l02Number_any _ (fop .add .f32 K (fop .mul .f32 (fop .mul .f32 (cls .f32 ri) (fop .sub .f32 X0 (some 1061158912))) (some 1082130432))) (by assumption) _).mono ?_; rintro e w' ⟨v, rfl, hv, m, rfl⟩))
            go_returns
            rw [HR2.out.1, HR2.out.2]
            refine ⟨_, rfl, hv, ?_⟩
            exact Ext.trans he.out (by (repeat with_reducible (first | exact Ext.refl _ | exact ext_alloc _ _ | refine Ext.drewN ?_ _ | refine Ext.drew1 ?_ | refine Ext.set ?_ (by dsimp only; omega) _ | refine Ext.alloc ?_ _)))


end Go.Proofs.Ythinjgiakaflpaa
