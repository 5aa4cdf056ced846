/- Two sounds as one: cases. -/
import Derived.Test.YthadoamehdnnoaaW17p
namespace Go.Proofs.Ythadoamehdnnoaa
open Go.RowKit Flt
set_option linter.unusedVariables false

set_option maxHeartbeats 8000000 in
set_option maxRecDepth 100000 in
theorem joinS_00 (ba oa bb ob n m c1 c2 o d : Nat) (us vs : List Nat) (R : List (Option Nat)) (O : Bool) (w : World) (h1 : Holds .f32 w (some ⟨ba, oa, none⟩) n us) (h2 : Holds .f32 w (some ⟨bb, ob, none⟩) m vs) (hn : n ≤ 1048576) (hm : m ≤ 1048576) (k1 : n ≤ c1) (k2 : m ≤ c2) (hA : soundB (us.map (cls .f32)) = true) (hB : soundB (vs.map (cls .f32)) = true) (hS : sndR (joinL us vs o) = (R, O)) (hdo : d + o = n) (hom : o ≤ m) (hc1 : ¬ d = c1) (hc2 : o < c2) :
    Calls Try.prog 6 #[.slice (some ⟨ba, oa, none⟩) n c1, .slice (some ⟨bb, ob, none⟩) m c2, .int .i64 (o : Int)] w fun e w' => ∃ v, e = .returned (.tuple #[v, .bool O]) ∧ ListIs w' w.heap.size R v ∧ Ext w w' := by
  have H1 := hid h1
  have H2 := hid h2
  have HN := hid hn
  have HM := hid hm
  have HS := hid hS
  have HON := hid (show o ≤ n by omega)
  have HOM := hid hom
  have HL1 := hid H1.out.1
  have HL2 := hid H2.out.1
  have HDO := hid hdo
  have HLD := hid (show us.length - o = d from by rw [HL1.out]; omega)
  have hom3 : o ≤ m := hom
  clear h1 h2 hS
  have hxm : ¬ ((m : Int) < (o : Int)) := by omega
  have hxn : ¬ ((n : Int) < (o : Int)) := by omega
  have hon : ¬ (o : Int) < 0 := by omega
  have hy1 : (n : Int) - (o : Int) = (d : Int) := by omega
  have hy2 : (0 : Int) ≤ (d : Int) := by omega
  have hy3 : (d : Int) ≤ (n : Int) := by omega
  have hy4 : (d : Int) ≤ (c1 : Int) := by omega
  have hy5 : (o : Int) ≤ (m : Int) := by omega
  have hy6 : (o : Int) ≤ (c2 : Int) := by omega
  have hi9 : (n : Int) - (d : Int) = (o : Int) := by omega
  have hi10 : n - d = o := by omega
  have hz1 : n ≤ 1048576 := hn
  have hz2 : m ≤ 1048576 := hm
  clear hdo hom hn hm
  have hc1b : ¬ c1 = d := fun e => hc1 e.symm
  have hc3 : ¬ c2 = o := by omega
  have hc4 : ¬ o = c2 := by omega
  have hc5 : ¬ (c2 - o = 0) := by omega
  by_cases hmn : m < n
  · skip
    go_enter Try.func6, Try.ntmps6
    go_wp2_with (first | (go_at_call 13; with_reducible refine (isSound_drew _ n _ us _ _ (Holds.ext H1.out (by (repeat with_reducible (first | exact Ext.refl _ | exact ext_alloc _ _ | refine Ext.drewN ?_ _ | refine Ext.drew1 ?_ | refine Ext.set ?_ (by dsimp only; omega) _ | refine Ext.alloc ?_ _)))) HN.out hA).mono ?_; rintro e w' ⟨rfl, m1, rfl⟩) | (go_at_call 13; with_reducible refine (isSound_drew _ m _ vs _ _ (Holds.ext H2.out (by (repeat with_reducible (first | exact Ext.refl _ | exact ext_alloc _ _ | refine Ext.drewN ?_ _ | refine Ext.drew1 ?_ | refine Ext.set ?_ (by dsimp only; omega) _ | refine Ext.alloc ?_ _)))) HM.out hB).mono ?_; rintro e w' ⟨rfl, m2, rfl⟩) | (at_builtin; refine wpList_imin2 rfl rfl rfl rfl HMNI.out ?_))
    refine (clone_both (some ⟨ba, oa, none⟩) d _ (us.take d) _ (Holds.ext (hold_take17 H1.out (by have := HDO.out; omega)) (by (repeat with_reducible (first | exact Ext.refl _ | exact ext_alloc _ _ | refine Ext.drewN ?_ _ | refine Ext.drew1 ?_ | refine Ext.set ?_ (by dsimp only; omega) _ | refine Ext.alloc ?_ _)))) (by have := HN.out; have := HDO.out; omega)).mono ?_
    rintro e wc ⟨v0, rfl, O1, E1⟩
    have hO1 := hid (Own.base O1 (B' := w.heap.size) (by first | exact Nat.le_refl _ | (simp; done)))
    have hE1 := hid (show Ext w wc from Ext.trans (by (repeat with_reducible (first | exact Ext.refl _ | exact ext_alloc _ _ | refine Ext.drewN ?_ _ | refine Ext.drew1 ?_ | refine Ext.set ?_ (by dsimp only; omega) _ | refine Ext.alloc ?_ _))) E1)
    clear O1 E1
    obtain ⟨i0, hif, hz0, hz1, hz2⟩ := info_parts infoF
    have HI := hid (And.intro hif (And.intro hz0 (And.intro hz1 hz2)))
    clear hif hz0 hz1 hz2
    go_wp2_with fail
    go_loopw [9, 45] (fun v i wr => ∃ (k : Nat) (ys : List Nat), k ≤ o ∧ i = .int .i64 k ∧ Hid (Own wr w.heap.size (d + k) v ys) ∧ Hid (ys.map (cls .f32) = (us.take d).map (cls .f32) ++ listK (joinJ us vs o) k) ∧ Hid (Ext w wr)) (fun _ i _ => o - (intOf i).toNat)
    case atStart => exact ⟨0, us.take d, Nat.zero_le _, rfl, hO1, hid (by simp [listK]), hE1⟩
    case round =>
      obtain ⟨k, ys, hk, rfl, ho, hyy, he⟩ := hrel
      have hn2 : n ≤ 1048576 := HN.out
      have hon2 : o ≤ n := HON.out
      have hom2 : o ≤ m := HOM.out
      have hi9 : (n : Int) - (d : Int) = (o : Int) := by have := HDO.out; omega
      have hi10 : n - d = o := by have := HDO.out; omega
      by_cases hlt : k < o
      · have hi0 : (0 : Int) ≤ (k : Int) := by omega
        have hi1 : (k : Int) < (o : Int) := by omega
        have hi2 : (k : Int) < (m : Int) := by omega
        have HCC : Hid (joinJ us vs o k = betC (cls .f32 (us.getD (d + k) 0)) (cls .f32 (vs.getD k 0)) (ratioC ((k : Int) + 1) ((o : Int) + 1))) := by show _ = _; unfold joinJ; rw [HLD.out]
        have e1 := hold_cells (Holds.ext H1.out he.out) (d + k) (by have := HDO.out; omega)
        have e2 := hold_cells (Holds.ext H2.out he.out) k (by omega)
        generalize us.getD (d + k) 0 = x at e1 HCC
        generalize vs.getD k 0 = y at e2 HCC
        have HSZ := hid (Ext.size he.out)
        have e3 : wr.cell? ⟨ba, oa + d + k, none⟩ = some (.float .f32 x) := by rw [Nat.add_assoc]; exact e1
        go_wp2_with (first | (refine wpList_fa rfl rfl rfl rfl rfl (by first | assumption | exact is_const (by decide) | exact is_int _ | exact is_self _ _) (by first | assumption | exact is_const (by decide) | exact is_int _ | exact is_self _ _) ?_; intro q mq hq hqw) | (go_at_call 15; refine (between_any _ _ _ _ hq _).mono ?_; rintro e w' ⟨r, rfl, hr, m9, rfl⟩) | (at_builtin; refine wpList_append_lies _ rfl _ _ 22 rfl w.heap.size 32 i0 (.float .f32 0) 1 4 Try.underlying22 HI.out.1 HI.out.2.1 HI.out.2.2.1 HI.out.2.2.2 rfl (by decide) _ _ _ rfl (Own.ext ho.out (by (repeat with_reducible (first | exact Ext.refl _ | exact ext_alloc _ _ | refine Ext.drewN ?_ _ | refine Ext.drew1 ?_ | refine Ext.set ?_ (by dsimp only; omega) _ | refine Ext.alloc ?_ _)))) ⟨wr.heap.size, 0, none⟩ 1 1 [.float .f32 r] rfl rfl (World.news_of_block (heap_alloc_new _ _)) (by intro u hu; simp at hu; subst hu; rfl) (by omega) (by have h9 := HN.out; have h8 := HDO.out; unfold maxLen; omega) (by have h9 := HN.out; have h8 := HDO.out; omega) (by have h8 := HSZ.out; simp; omega) _ rfl ?_; intro g cap w1 hown hgrow hat hlt2))
        have hcl := hid (show cls .f32 r = betC (cls .f32 x) (cls .f32 y) (ratioC ((k : Int) + 1) ((o : Int) + 1)) from Is.out hr)
        have h1 := hid (show Own w1 w.heap.size (d + (k + 1)) _ (ys ++ [r]) from by have h9 := own_snoc hown; first | (rw [Nat.add_assoc] at h9; exact h9) | (rw [show d + (k + 1) = p + 1 from by omega]; exact h9))
        have h2 := hid (show Ext w w1 from But.below hgrow (Ext.trans he.out (by (repeat with_reducible (first | exact Ext.refl _ | exact ext_alloc _ _ | refine Ext.drewN ?_ _ | refine Ext.drew1 ?_ | refine Ext.set ?_ (by dsimp only; omega) _ | refine Ext.alloc ?_ _)))) (fun k2 hk2 => (Own.block ho.out k2 hk2).1))
        have h3 := hid (show (ys ++ [r]).map (cls .f32) = (us.take d).map (cls .f32) ++ listK (joinJ us vs o) (k + 1) from by rw [List.map_append, hyy.out, listK_succ, HCC.out, ← List.append_assoc]; exact congrArg (fun z => _ ++ [z]) hcl.out)
        clear hown hgrow hat hlt2
        go_wp2
        go_roundw
        case rel => exact ⟨k + 1, ys ++ [r], by omega, by go_num, h1, h3, h2⟩
        case measure => simp [intOf]; omega
      · have hko : k = o := by omega
        subst hko
        have hi5 : ¬ ((k : Int) < (k : Int)) := by omega
        have hm2 : m ≤ 1048576 := HM.out
        go_wp2_with (at_builtin; (first | (refine wpList_append_own _ rfl _ _ 22 rfl i0 Try.underlying22 HI.out w.heap.size _ _ ys rfl ho.out bb (ob + k) (m - k) _ (vs.drop k) rfl (by simp [HL2.out]) (drop_cells (Holds.ext H2.out he.out) HOM.out) (Ext.size he.out) (by have := HDO.out; omega) ?_) | (refine wpList_append_own _ rfl _ _ 22 rfl i0 Try.underlying22 HI.out w.heap.size _ _ ys rfl ho.out bb ob (m - k) _ (vs.drop k) rfl (by simp [HL2.out]) (by intro i hi; omega) (Ext.size he.out) (by have := HDO.out; omega) ?_) | (refine wpList_append_own _ rfl _ _ 22 rfl i0 Try.underlying22 HI.out w.heap.size _ _ ys rfl ho.out bb ob 0 _ (vs.drop k) rfl (by have h9 := HL2.out; simp; omega) (by intro i hi; omega) (Ext.size he.out) (by have := HDO.out; omega) ?_)); intro v2 w2 hown2 hbut)
        have hO2 := hid hown2
        have hE2 := hid (show Ext w w2 from But.below hbut he.out (fun k2 hk2 => (Own.block ho.out k2 hk2).1))
        have hY2 := hid (show (ys ++ vs.drop k).map (cls .f32) = joinL us vs k from by rw [List.map_append, hyy.out, ← HLD.out]; rfl)
        obtain ⟨bv, cv, rfl, hh2, _⟩ := Own.holds hown2
        have HH2 := hid hh2
        have HNN := hid (show d + k + (m - k) ≤ 1048576 * 2 by have := HDO.out; omega)
        clear hown2 hbut hh2
        cases hV : soundB ((ys ++ vs.drop k).map (cls .f32))
        · have e : O = false ∧ R = [] := by have := HS.out; unfold sndR at this; rw [← hY2.out, hV] at this; simpa [eq_comm, and_comm] using this
          obtain ⟨rfl, rfl⟩ := e
          go_wp2_with fail
          refine (isSound_drew2 _ _ _ _ _ _ HH2.out (by have h9 := HNN.out; omega) hV).mono ?_
          rintro e w3 ⟨rfl, m3, rfl⟩
          go_wp2_with fail
          go_returns
          exact ⟨_, rfl, nil_is _ _, Ext.drewN hE2.out _⟩
        · have e : O = true ∧ R = (ys ++ vs.drop k).map (cls .f32) := by have := HS.out; unfold sndR at this; rw [← hY2.out, hV] at this; simpa [eq_comm, and_comm] using this
          obtain ⟨rfl, rfl⟩ := e
          go_wp2_with fail
          refine (isSound_drew2 _ _ _ _ _ _ HH2.out (by have h9 := HNN.out; omega) hV).mono ?_
          rintro e w3 ⟨rfl, m3, rfl⟩
          go_wp2_with fail
          go_returns
          exact ⟨_, rfl, list_is (Own.drewN hO2.out _) rfl, Ext.drewN hE2.out _⟩
  · skip
    go_enter Try.func6, Try.ntmps6
    go_wp2_with (first | (go_at_call 13; with_reducible refine (isSound_drew _ n _ us _ _ (Holds.ext H1.out (by (repeat with_reducible (first | exact Ext.refl _ | exact ext_alloc _ _ | refine Ext.drewN ?_ _ | refine Ext.drew1 ?_ | refine Ext.set ?_ (by dsimp only; omega) _ | refine Ext.alloc ?_ _)))) HN.out hA).mono ?_; rintro e w' ⟨rfl, m1, rfl⟩) | (go_at_call 13; with_reducible refine (isSound_drew _ m _ vs _ _ (Holds.ext H2.out (by (repeat with_reducible (first | exact Ext.refl _ | exact ext_alloc _ _ | refine Ext.drewN ?_ _ | refine Ext.drew1 ?_ | refine Ext.set ?_ (by dsimp only; omega) _ | refine Ext.alloc ?_ _)))) HM.out hB).mono ?_; rintro e w' ⟨rfl, m2, rfl⟩) | (at_builtin; refine wpList_imin2 rfl rfl rfl rfl HMNI.out ?_))
    refine (clone_both (some ⟨ba, oa, none⟩) d _ (us.take d) _ (Holds.ext (hold_take17 H1.out (by have := HDO.out; omega)) (by (repeat with_reducible (first | exact Ext.refl _ | exact ext_alloc _ _ | refine Ext.drewN ?_ _ | refine Ext.drew1 ?_ | refine Ext.set ?_ (by dsimp only; omega) _ | refine Ext.alloc ?_ _)))) (by have := HN.out; have := HDO.out; omega)).mono ?_
    rintro e wc ⟨v0, rfl, O1, E1⟩
    have hO1 := hid (Own.base O1 (B' := w.heap.size) (by first | exact Nat.le_refl _ | (simp; done)))
    have hE1 := hid (show Ext w wc from Ext.trans (by (repeat with_reducible (first | exact Ext.refl _ | exact ext_alloc _ _ | refine Ext.drewN ?_ _ | refine Ext.drew1 ?_ | refine Ext.set ?_ (by dsimp only; omega) _ | refine Ext.alloc ?_ _))) E1)
    clear O1 E1
    obtain ⟨i0, hif, hz0, hz1, hz2⟩ := info_parts infoF
    have HI := hid (And.intro hif (And.intro hz0 (And.intro hz1 hz2)))
    clear hif hz0 hz1 hz2
    go_wp2_with fail
    go_loopw [9, 45] (fun v i wr => ∃ (k : Nat) (ys : List Nat), k ≤ o ∧ i = .int .i64 k ∧ Hid (Own wr w.heap.size (d + k) v ys) ∧ Hid (ys.map (cls .f32) = (us.take d).map (cls .f32) ++ listK (joinJ us vs o) k) ∧ Hid (Ext w wr)) (fun _ i _ => o - (intOf i).toNat)
    case atStart => exact ⟨0, us.take d, Nat.zero_le _, rfl, hO1, hid (by simp [listK]), hE1⟩
    case round =>
      obtain ⟨k, ys, hk, rfl, ho, hyy, he⟩ := hrel
      have hn2 : n ≤ 1048576 := HN.out
      have hon2 : o ≤ n := HON.out
      have hom2 : o ≤ m := HOM.out
      have hi9 : (n : Int) - (d : Int) = (o : Int) := by have := HDO.out; omega
      have hi10 : n - d = o := by have := HDO.out; omega
      by_cases hlt : k < o
      · have hi0 : (0 : Int) ≤ (k : Int) := by omega
        have hi1 : (k : Int) < (o : Int) := by omega
        have hi2 : (k : Int) < (m : Int) := by omega
        have HCC : Hid (joinJ us vs o k = betC (cls .f32 (us.getD (d + k) 0)) (cls .f32 (vs.getD k 0)) (ratioC ((k : Int) + 1) ((o : Int) + 1))) := by show _ = _; unfold joinJ; rw [HLD.out]
        have e1 := hold_cells (Holds.ext H1.out he.out) (d + k) (by have := HDO.out; omega)
        have e2 := hold_cells (Holds.ext H2.out he.out) k (by omega)
        generalize us.getD (d + k) 0 = x at e1 HCC
        generalize vs.getD k 0 = y at e2 HCC
        have HSZ := hid (Ext.size he.out)
        have e3 : wr.cell? ⟨ba, oa + d + k, none⟩ = some (.float .f32 x) := by rw [Nat.add_assoc]; exact e1
        go_wp2_with (first | (refine wpList_fa rfl rfl rfl rfl rfl (by first | assumption | exact is_const (by decide) | exact is_int _ | exact is_self _ _) (by first | assumption | exact is_const (by decide) | exact is_int _ | exact is_self _ _) ?_; intro q mq hq hqw) | (go_at_call 15; refine (between_any _ _ _ _ hq _).mono ?_; rintro e w' ⟨r, rfl, hr, m9, rfl⟩) | (at_builtin; refine wpList_append_lies _ rfl _ _ 22 rfl w.heap.size 32 i0 (.float .f32 0) 1 4 Try.underlying22 HI.out.1 HI.out.2.1 HI.out.2.2.1 HI.out.2.2.2 rfl (by decide) _ _ _ rfl (Own.ext ho.out (by (repeat with_reducible (first | exact Ext.refl _ | exact ext_alloc _ _ | refine Ext.drewN ?_ _ | refine Ext.drew1 ?_ | refine Ext.set ?_ (by dsimp only; omega) _ | refine Ext.alloc ?_ _)))) ⟨wr.heap.size, 0, none⟩ 1 1 [.float .f32 r] rfl rfl (World.news_of_block (heap_alloc_new _ _)) (by intro u hu; simp at hu; subst hu; rfl) (by omega) (by have h9 := HN.out; have h8 := HDO.out; unfold maxLen; omega) (by have h9 := HN.out; have h8 := HDO.out; omega) (by have h8 := HSZ.out; simp; omega) _ rfl ?_; intro g cap w1 hown hgrow hat hlt2))
        have hcl := hid (show cls .f32 r = betC (cls .f32 x) (cls .f32 y) (ratioC ((k : Int) + 1) ((o : Int) + 1)) from Is.out hr)
        have h1 := hid (show Own w1 w.heap.size (d + (k + 1)) _ (ys ++ [r]) from by have h9 := own_snoc hown; first | (rw [Nat.add_assoc] at h9; exact h9) | (rw [show d + (k + 1) = p + 1 from by omega]; exact h9))
        have h2 := hid (show Ext w w1 from But.below hgrow (Ext.trans he.out (by (repeat with_reducible (first | exact Ext.refl _ | exact ext_alloc _ _ | refine Ext.drewN ?_ _ | refine Ext.drew1 ?_ | refine Ext.set ?_ (by dsimp only; omega) _ | refine Ext.alloc ?_ _)))) (fun k2 hk2 => (Own.block ho.out k2 hk2).1))
        have h3 := hid (show (ys ++ [r]).map (cls .f32) = (us.take d).map (cls .f32) ++ listK (joinJ us vs o) (k + 1) from by rw [List.map_append, hyy.out, listK_succ, HCC.out, ← List.append_assoc]; exact congrArg (fun z => _ ++ [z]) hcl.out)
        clear hown hgrow hat hlt2
        go_wp2
        go_roundw
        case rel => exact ⟨k + 1, ys ++ [r], by omega, by go_num, h1, h3, h2⟩
        case measure => simp [intOf]; omega
      · have hko : k = o := by omega
        subst hko
        have hi5 : ¬ ((k : Int) < (k : Int)) := by omega
        have hm2 : m ≤ 1048576 := HM.out
        go_wp2_with (at_builtin; (first | (refine wpList_append_own _ rfl _ _ 22 rfl i0 Try.underlying22 HI.out w.heap.size _ _ ys rfl ho.out bb (ob + k) (m - k) _ (vs.drop k) rfl (by simp [HL2.out]) (drop_cells (Holds.ext H2.out he.out) HOM.out) (Ext.size he.out) (by have := HDO.out; omega) ?_) | (refine wpList_append_own _ rfl _ _ 22 rfl i0 Try.underlying22 HI.out w.heap.size _ _ ys rfl ho.out bb ob (m - k) _ (vs.drop k) rfl (by simp [HL2.out]) (by intro i hi; omega) (Ext.size he.out) (by have := HDO.out; omega) ?_) | (refine wpList_append_own _ rfl _ _ 22 rfl i0 Try.underlying22 HI.out w.heap.size _ _ ys rfl ho.out bb ob 0 _ (vs.drop k) rfl (by have h9 := HL2.out; simp; omega) (by intro i hi; omega) (Ext.size he.out) (by have := HDO.out; omega) ?_)); intro v2 w2 hown2 hbut)
        have hO2 := hid hown2
        have hE2 := hid (show Ext w w2 from But.below hbut he.out (fun k2 hk2 => (Own.block ho.out k2 hk2).1))
        have hY2 := hid (show (ys ++ vs.drop k).map (cls .f32) = joinL us vs k from by rw [List.map_append, hyy.out, ← HLD.out]; rfl)
        obtain ⟨bv, cv, rfl, hh2, _⟩ := Own.holds hown2
        have HH2 := hid hh2
        have HNN := hid (show d + k + (m - k) ≤ 1048576 * 2 by have := HDO.out; omega)
        clear hown2 hbut hh2
        cases hV : soundB ((ys ++ vs.drop k).map (cls .f32))
        · have e : O = false ∧ R = [] := by have := HS.out; unfold sndR at this; rw [← hY2.out, hV] at this; simpa [eq_comm, and_comm] using this
          obtain ⟨rfl, rfl⟩ := e
          go_wp2_with fail
          refine (isSound_drew2 _ _ _ _ _ _ HH2.out (by have h9 := HNN.out; omega) hV).mono ?_
          rintro e w3 ⟨rfl, m3, rfl⟩
          go_wp2_with fail
          go_returns
          exact ⟨_, rfl, nil_is _ _, Ext.drewN hE2.out _⟩
        · have e : O = true ∧ R = (ys ++ vs.drop k).map (cls .f32) := by have := HS.out; unfold sndR at this; rw [← hY2.out, hV] at this; simpa [eq_comm, and_comm] using this
          obtain ⟨rfl, rfl⟩ := e
          go_wp2_with fail
          refine (isSound_drew2 _ _ _ _ _ _ HH2.out (by have h9 := HNN.out; omega) hV).mono ?_
          rintro e w3 ⟨rfl, m3, rfl⟩
          go_wp2_with fail
          go_returns
          exact ⟨_, rfl, list_is (Own.drewN hO2.out _) rfl, Ext.drewN hE2.out _⟩

end Go.Proofs.Ythadoamehdnnoaa
