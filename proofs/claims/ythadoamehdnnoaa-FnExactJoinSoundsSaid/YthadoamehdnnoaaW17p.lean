/- Two sounds as one: cases. -/
import Derived.Test.YthadoamehdnnoaaW17
namespace Go.Proofs.Ythadoamehdnnoaa
open Go.RowKit Flt
set_option linter.unusedVariables false

theorem wpList_imin2 {ops : Array Oper} {rest : List Oper} {o : Oper} {a : Act} {Q : Exit → Act → World → Prop} {w : World} {x y : Operand} {t1 t2 : TypeId} (ho : o.op = .call { callee := .builtin .min, args := #[x, y], argTypes := #[t1, t2] }) (hw : Region.wanted o (yielded ops a.tmps) = true) {p q z : Int} (hx : a.eval x = .int .i64 p) (hy : a.eval y = .int .i64 q) (hz : z = min p q)
    (h : wpList Try.prog ops Q rest (a.put o.dst (.int .i64 z)) w) : wpList Try.prog ops Q (o :: rest) a w := by
  subst hz
  exact wpList_imin ho hw hx hy h
theorem wrap_s17 {x : Int} (h0 : -9223372036854775808 ≤ x) (h1 : x < 9223372036854775808) : IntKind.i64.wrap x = x := by
  have hb : IntKind.i64.bits = 64 := rfl
  have hs : IntKind.i64.signed = true := rfl
  have e1 : (2 : Int) ^ 64 = 18446744073709551616 := by decide
  have e2 : (2 : Int) ^ (64 - 1) = 9223372036854775808 := by decide
  unfold IntKind.wrap
  simp only [hb, hs, e1, e2, Bool.true_and, decide_eq_true_eq]
  split <;> omega

set_option maxHeartbeats 8000000 in
set_option maxRecDepth 100000 in
theorem joinS_11 (ba oa bb ob n m c1 c2 o d : Nat) (us vs : List Nat) (R : List (Option Nat)) (O : Bool) (w : World) (h1 : Holds .f32 w (some ⟨ba, oa, none⟩) n us) (h2 : Holds .f32 w (some ⟨bb, ob, none⟩) m vs) (hn : n ≤ 1048576) (hm : m ≤ 1048576) (k1 : n ≤ c1) (k2 : m ≤ c2) (hA : soundB (us.map (cls .f32)) = true) (hB : soundB (vs.map (cls .f32)) = true) (hS : sndR (joinL us vs o) = (R, O)) (hdo : d + o = n) (hom : o ≤ m) (hc1 : d = c1) (hc2 : o = c2) :
    Calls Try.prog 6 #[.slice (some ⟨ba, oa, none⟩) n c1, .slice (some ⟨bb, ob, none⟩) m c2, .int .i64 (o : Int)] w fun e w' => ∃ v, e = .returned (.tuple #[v, .bool O]) ∧ ListIs w' w.heap.size R v ∧ Ext w w' := by
  have H1 := hid h1
  have H2 := hid h2
  have HN := hid hn
  have HM := hid hm
  have HS := hid hS
  have HON := hid (show o ≤ n by omega)
  have HOM := hid hom
  have HL1 := hid H1.out.1
  have HL2 := hid H2.out.1
  have HDO := hid hdo
  have HLD := hid (show us.length - o = d from by rw [HL1.out]; omega)
  have hom3 : o ≤ m := hom
  clear h1 h2 hS
  have hxm : ¬ ((m : Int) < (o : Int)) := by omega
  have hxn : ¬ ((n : Int) < (o : Int)) := by omega
  have hon : ¬ (o : Int) < 0 := by omega
  have hy1 : (n : Int) - (o : Int) = (d : Int) := by omega
  have hy2 : (0 : Int) ≤ (d : Int) := by omega
  have hy3 : (d : Int) ≤ (n : Int) := by omega
  have hy4 : (d : Int) ≤ (c1 : Int) := by omega
  have hy5 : (o : Int) ≤ (m : Int) := by omega
  have hy6 : (o : Int) ≤ (c2 : Int) := by omega
  have hi9 : (n : Int) - (d : Int) = (o : Int) := by omega
  have hi10 : n - d = o := by omega
  have hz1 : n ≤ 1048576 := hn
  have hz2 : m ≤ 1048576 := hm
  clear hdo hom hn hm
  subst hc1
  subst hc2
  by_cases hmn : m < n
  · skip
    go_enter Try.func6, Try.ntmps6
    go_wp2_with (first | (go_at_call 13; with_reducible refine (isSound_drew _ n _ us _ _ (Holds.ext H1.out (by (repeat with_reducible (first | exact Ext.refl _ | exact ext_alloc _ _ | refine Ext.drewN ?_ _ | refine Ext.drew1 ?_ | refine Ext.set ?_ (by dsimp only; omega) _ | refine Ext.alloc ?_ _)))) HN.out hA).mono ?_; rintro e w' ⟨rfl, m1, rfl⟩) | (go_at_call 13; with_reducible refine (isSound_drew _ m _ vs _ _ (Holds.ext H2.out (by (repeat with_reducible (first | exact Ext.refl _ | exact ext_alloc _ _ | refine Ext.drewN ?_ _ | refine Ext.drew1 ?_ | refine Ext.set ?_ (by dsimp only; omega) _ | refine Ext.alloc ?_ _)))) HM.out hB).mono ?_; rintro e w' ⟨rfl, m2, rfl⟩) | (at_builtin; refine wpList_imin2 rfl rfl rfl rfl HMNI.out ?_))
    refine (clone_both (some ⟨ba, oa, none⟩) d _ (us.take d) _ (Holds.ext (hold_take17 H1.out (by have := HDO.out; omega)) (by (repeat with_reducible (first | exact Ext.refl _ | exact ext_alloc _ _ | refine Ext.drewN ?_ _ | refine Ext.drew1 ?_ | refine Ext.set ?_ (by dsimp only; omega) _ | refine Ext.alloc ?_ _)))) (by have := HN.out; have := HDO.out; omega)).mono ?_
    rintro e wc ⟨v0, rfl, O1, E1⟩
    have hO1 := hid (Own.base O1 (B' := w.heap.size) (by first | exact Nat.le_refl _ | (simp; done)))
    have hE1 := hid (show Ext w wc from Ext.trans (by (repeat with_reducible (first | exact Ext.refl _ | exact ext_alloc _ _ | refine Ext.drewN ?_ _ | refine Ext.drew1 ?_ | refine Ext.set ?_ (by dsimp only; omega) _ | refine Ext.alloc ?_ _))) E1)
    clear O1 E1
    obtain ⟨i0, hif, hz0, hz1, hz2⟩ := info_parts infoF
    have HI := hid (And.intro hif (And.intro hz0 (And.intro hz1 hz2)))
    clear hif hz0 hz1 hz2
    go_wp2_with fail
    go_loopw [9, 45] (fun v i wr => ∃ (k : Nat) (ys : List Nat), k ≤ o ∧ i = .int .i64 k ∧ Hid (Own wr w.heap.size (d + k) v ys) ∧ Hid (ys.map (cls .f32) = (us.take d).map (cls .f32) ++ listK (joinJ us vs o) k) ∧ Hid (Ext w wr)) (fun _ i _ => o - (intOf i).toNat)
    case atStart => exact ⟨0, us.take d, Nat.zero_le _, rfl, hO1, hid (by simp [listK]), hE1⟩
    case round =>
      obtain ⟨k, ys, hk, rfl, ho, hyy, he⟩ := hrel
      have hn2 : n ≤ 1048576 := HN.out
      have hon2 : o ≤ n := HON.out
      have hom2 : o ≤ m := HOM.out
      have hi9 : (n : Int) - (d : Int) = (o : Int) := by have := HDO.out; omega
      have hi10 : n - d = o := by have := HDO.out; omega
      by_cases hlt : k < o
      · exfalso; have := HDO.out; omega
      · have hko : k = o := by omega
        subst hko
        have hi5 : ¬ ((k : Int) < (k : Int)) := by omega
        have hm2 : m ≤ 1048576 := HM.out
        go_wp2_with (at_builtin; (first | (refine wpList_append_own _ rfl _ _ 22 rfl i0 Try.underlying22 HI.out w.heap.size _ _ ys rfl ho.out bb (ob + k) (m - k) _ (vs.drop k) rfl (by simp [HL2.out]) (drop_cells (Holds.ext H2.out he.out) HOM.out) (Ext.size he.out) (by have := HDO.out; omega) ?_) | (refine wpList_append_own _ rfl _ _ 22 rfl i0 Try.underlying22 HI.out w.heap.size _ _ ys rfl ho.out bb ob (m - k) _ (vs.drop k) rfl (by simp [HL2.out]) (by intro i hi; omega) (Ext.size he.out) (by have := HDO.out; omega) ?_) | (refine wpList_append_own _ rfl _ _ 22 rfl i0 Try.underlying22 HI.out w.heap.size _ _ ys rfl ho.out bb ob 0 _ (vs.drop k) rfl (by have h9 := HL2.out; simp; omega) (by intro i hi; omega) (Ext.size he.out) (by have := HDO.out; omega) ?_)); intro v2 w2 hown2 hbut)
        have hO2 := hid hown2
        have hE2 := hid (show Ext w w2 from But.below hbut he.out (fun k2 hk2 => (Own.block ho.out k2 hk2).1))
        have hY2 := hid (show (ys ++ vs.drop k).map (cls .f32) = joinL us vs k from by rw [List.map_append, hyy.out, ← HLD.out]; rfl)
        obtain ⟨bv, cv, rfl, hh2, _⟩ := Own.holds hown2
        have HH2 := hid hh2
        have HNN := hid (show d + k + (m - k) ≤ 1048576 * 2 by have := HDO.out; omega)
        clear hown2 hbut hh2
        cases hV : soundB ((ys ++ vs.drop k).map (cls .f32))
        · have e : O = false ∧ R = [] := by have := HS.out; unfold sndR at this; rw [← hY2.out, hV] at this; simpa [eq_comm, and_comm] using this
          obtain ⟨rfl, rfl⟩ := e
          go_wp2_with fail
          refine (isSound_drew2 _ _ _ _ _ _ HH2.out (by have h9 := HNN.out; omega) hV).mono ?_
          rintro e w3 ⟨rfl, m3, rfl⟩
          go_wp2_with fail
          go_returns
          exact ⟨_, rfl, nil_is _ _, Ext.drewN hE2.out _⟩
        · have e : O = true ∧ R = (ys ++ vs.drop k).map (cls .f32) := by have := HS.out; unfold sndR at this; rw [← hY2.out, hV] at this; simpa [eq_comm, and_comm] using this
          obtain ⟨rfl, rfl⟩ := e
          go_wp2_with fail
          refine (isSound_drew2 _ _ _ _ _ _ HH2.out (by have h9 := HNN.out; omega) hV).mono ?_
          rintro e w3 ⟨rfl, m3, rfl⟩
          go_wp2_with fail
          go_returns
          exact ⟨_, rfl, list_is (Own.drewN hO2.out _) rfl, Ext.drewN hE2.out _⟩
  · skip
    go_enter Try.func6, Try.ntmps6
    go_wp2_with (first | (go_at_call 13; with_reducible refine (isSound_drew _ n _ us _ _ (Holds.ext H1.out (by (repeat with_reducible (first | exact Ext.refl _ | exact ext_alloc _ _ | refine Ext.drewN ?_ _ | refine Ext.drew1 ?_ | refine Ext.set ?_ (by dsimp only; omega) _ | refine Ext.alloc ?_ _)))) HN.out hA).mono ?_; rintro e w' ⟨rfl, m1, rfl⟩) | (go_at_call 13; with_reducible refine (isSound_drew _ m _ vs _ _ (Holds.ext H2.out (by (repeat with_reducible (first | exact Ext.refl _ | exact ext_alloc _ _ | refine Ext.drewN ?_ _ | refine Ext.drew1 ?_ | refine Ext.set ?_ (by dsimp only; omega) _ | refine Ext.alloc ?_ _)))) HM.out hB).mono ?_; rintro e w' ⟨rfl, m2, rfl⟩) | (at_builtin; refine wpList_imin2 rfl rfl rfl rfl HMNI.out ?_))
    refine (clone_both (some ⟨ba, oa, none⟩) d _ (us.take d) _ (Holds.ext (hold_take17 H1.out (by have := HDO.out; omega)) (by (repeat with_reducible (first | exact Ext.refl _ | exact ext_alloc _ _ | refine Ext.drewN ?_ _ | refine Ext.drew1 ?_ | refine Ext.set ?_ (by dsimp only; omega) _ | refine Ext.alloc ?_ _)))) (by have := HN.out; have := HDO.out; omega)).mono ?_
    rintro e wc ⟨v0, rfl, O1, E1⟩
    have hO1 := hid (Own.base O1 (B' := w.heap.size) (by first | exact Nat.le_refl _ | (simp; done)))
    have hE1 := hid (show Ext w wc from Ext.trans (by (repeat with_reducible (first | exact Ext.refl _ | exact ext_alloc _ _ | refine Ext.drewN ?_ _ | refine Ext.drew1 ?_ | refine Ext.set ?_ (by dsimp only; omega) _ | refine Ext.alloc ?_ _))) E1)
    clear O1 E1
    obtain ⟨i0, hif, hz0, hz1, hz2⟩ := info_parts infoF
    have HI := hid (And.intro hif (And.intro hz0 (And.intro hz1 hz2)))
    clear hif hz0 hz1 hz2
    go_wp2_with fail
    go_loopw [9, 45] (fun v i wr => ∃ (k : Nat) (ys : List Nat), k ≤ o ∧ i = .int .i64 k ∧ Hid (Own wr w.heap.size (d + k) v ys) ∧ Hid (ys.map (cls .f32) = (us.take d).map (cls .f32) ++ listK (joinJ us vs o) k) ∧ Hid (Ext w wr)) (fun _ i _ => o - (intOf i).toNat)
    case atStart => exact ⟨0, us.take d, Nat.zero_le _, rfl, hO1, hid (by simp [listK]), hE1⟩
    case round =>
      obtain ⟨k, ys, hk, rfl, ho, hyy, he⟩ := hrel
      have hn2 : n ≤ 1048576 := HN.out
      have hon2 : o ≤ n := HON.out
      have hom2 : o ≤ m := HOM.out
      have hi9 : (n : Int) - (d : Int) = (o : Int) := by have := HDO.out; omega
      have hi10 : n - d = o := by have := HDO.out; omega
      by_cases hlt : k < o
      · exfalso; have := HDO.out; omega
      · have hko : k = o := by omega
        subst hko
        have hi5 : ¬ ((k : Int) < (k : Int)) := by omega
        have hm2 : m ≤ 1048576 := HM.out
        go_wp2_with (at_builtin; (first | (refine wpList_append_own _ rfl _ _ 22 rfl i0 Try.underlying22 HI.out w.heap.size _ _ ys rfl ho.out bb (ob + k) (m - k) _ (vs.drop k) rfl (by simp [HL2.out]) (drop_cells (Holds.ext H2.out he.out) HOM.out) (Ext.size he.out) (by have := HDO.out; omega) ?_) | (refine wpList_append_own _ rfl _ _ 22 rfl i0 Try.underlying22 HI.out w.heap.size _ _ ys rfl ho.out bb ob (m - k) _ (vs.drop k) rfl (by simp [HL2.out]) (by intro i hi; omega) (Ext.size he.out) (by have := HDO.out; omega) ?_) | (refine wpList_append_own _ rfl _ _ 22 rfl i0 Try.underlying22 HI.out w.heap.size _ _ ys rfl ho.out bb ob 0 _ (vs.drop k) rfl (by have h9 := HL2.out; simp; omega) (by intro i hi; omega) (Ext.size he.out) (by have := HDO.out; omega) ?_)); intro v2 w2 hown2 hbut)
        have hO2 := hid hown2
        have hE2 := hid (show Ext w w2 from But.below hbut he.out (fun k2 hk2 => (Own.block ho.out k2 hk2).1))
        have hY2 := hid (show (ys ++ vs.drop k).map (cls .f32) = joinL us vs k from by rw [List.map_append, hyy.out, ← HLD.out]; rfl)
        obtain ⟨bv, cv, rfl, hh2, _⟩ := Own.holds hown2
        have HH2 := hid hh2
        have HNN := hid (show d + k + (m - k) ≤ 1048576 * 2 by have := HDO.out; omega)
        clear hown2 hbut hh2
        cases hV : soundB ((ys ++ vs.drop k).map (cls .f32))
        · have e : O = false ∧ R = [] := by have := HS.out; unfold sndR at this; rw [← hY2.out, hV] at this; simpa [eq_comm, and_comm] using this
          obtain ⟨rfl, rfl⟩ := e
          go_wp2_with fail
          refine (isSound_drew2 _ _ _ _ _ _ HH2.out (by have h9 := HNN.out; omega) hV).mono ?_
          rintro e w3 ⟨rfl, m3, rfl⟩
          go_wp2_with fail
          go_returns
          exact ⟨_, rfl, nil_is _ _, Ext.drewN hE2.out _⟩
        · have e : O = true ∧ R = (ys ++ vs.drop k).map (cls .f32) := by have := HS.out; unfold sndR at this; rw [← hY2.out, hV] at this; simpa [eq_comm, and_comm] using this
          obtain ⟨rfl, rfl⟩ := e
          go_wp2_with fail
          refine (isSound_drew2 _ _ _ _ _ _ HH2.out (by have h9 := HNN.out; omega) hV).mono ?_
          rintro e w3 ⟨rfl, m3, rfl⟩
          go_wp2_with fail
          go_returns
          exact ⟨_, rfl, list_is (Own.drewN hO2.out _) rfl, Ext.drewN hE2.out _⟩

set_option maxHeartbeats 8000000 in
set_option maxRecDepth 100000 in
theorem joinS_10 (ba oa bb ob n m c1 c2 o d : Nat) (us vs : List Nat) (R : List (Option Nat)) (O : Bool) (w : World) (h1 : Holds .f32 w (some ⟨ba, oa, none⟩) n us) (h2 : Holds .f32 w (some ⟨bb, ob, none⟩) m vs) (hn : n ≤ 1048576) (hm : m ≤ 1048576) (k1 : n ≤ c1) (k2 : m ≤ c2) (hA : soundB (us.map (cls .f32)) = true) (hB : soundB (vs.map (cls .f32)) = true) (hS : sndR (joinL us vs o) = (R, O)) (hdo : d + o = n) (hom : o ≤ m) (hc1 : d = c1) (hc2 : o < c2) :
    Calls Try.prog 6 #[.slice (some ⟨ba, oa, none⟩) n c1, .slice (some ⟨bb, ob, none⟩) m c2, .int .i64 (o : Int)] w fun e w' => ∃ v, e = .returned (.tuple #[v, .bool O]) ∧ ListIs w' w.heap.size R v ∧ Ext w w' := by
  have H1 := hid h1
  have H2 := hid h2
  have HN := hid hn
  have HM := hid hm
  have HS := hid hS
  have HON := hid (show o ≤ n by omega)
  have HOM := hid hom
  have HL1 := hid H1.out.1
  have HL2 := hid H2.out.1
  have HDO := hid hdo
  have HLD := hid (show us.length - o = d from by rw [HL1.out]; omega)
  have hom3 : o ≤ m := hom
  clear h1 h2 hS
  have hxm : ¬ ((m : Int) < (o : Int)) := by omega
  have hxn : ¬ ((n : Int) < (o : Int)) := by omega
  have hon : ¬ (o : Int) < 0 := by omega
  have hy1 : (n : Int) - (o : Int) = (d : Int) := by omega
  have hy2 : (0 : Int) ≤ (d : Int) := by omega
  have hy3 : (d : Int) ≤ (n : Int) := by omega
  have hy4 : (d : Int) ≤ (c1 : Int) := by omega
  have hy5 : (o : Int) ≤ (m : Int) := by omega
  have hy6 : (o : Int) ≤ (c2 : Int) := by omega
  have hi9 : (n : Int) - (d : Int) = (o : Int) := by omega
  have hi10 : n - d = o := by omega
  have hz1 : n ≤ 1048576 := hn
  have hz2 : m ≤ 1048576 := hm
  clear hdo hom hn hm
  subst hc1
  have hc3 : ¬ c2 = o := by omega
  have hc4 : ¬ o = c2 := by omega
  have hc5 : ¬ (c2 - o = 0) := by omega
  by_cases hmn : m < n
  · skip
    go_enter Try.func6, Try.ntmps6
    go_wp2_with (first | (go_at_call 13; with_reducible refine (isSound_drew _ n _ us _ _ (Holds.ext H1.out (by (repeat with_reducible (first | exact Ext.refl _ | exact ext_alloc _ _ | refine Ext.drewN ?_ _ | refine Ext.drew1 ?_ | refine Ext.set ?_ (by dsimp only; omega) _ | refine Ext.alloc ?_ _)))) HN.out hA).mono ?_; rintro e w' ⟨rfl, m1, rfl⟩) | (go_at_call 13; with_reducible refine (isSound_drew _ m _ vs _ _ (Holds.ext H2.out (by (repeat with_reducible (first | exact Ext.refl _ | exact ext_alloc _ _ | refine Ext.drewN ?_ _ | refine Ext.drew1 ?_ | refine Ext.set ?_ (by dsimp only; omega) _ | refine Ext.alloc ?_ _)))) HM.out hB).mono ?_; rintro e w' ⟨rfl, m2, rfl⟩) | (at_builtin; refine wpList_imin2 rfl rfl rfl rfl HMNI.out ?_))
    refine (clone_both (some ⟨ba, oa, none⟩) d _ (us.take d) _ (Holds.ext (hold_take17 H1.out (by have := HDO.out; omega)) (by (repeat with_reducible (first | exact Ext.refl _ | exact ext_alloc _ _ | refine Ext.drewN ?_ _ | refine Ext.drew1 ?_ | refine Ext.set ?_ (by dsimp only; omega) _ | refine Ext.alloc ?_ _)))) (by have := HN.out; have := HDO.out; omega)).mono ?_
    rintro e wc ⟨v0, rfl, O1, E1⟩
    have hO1 := hid (Own.base O1 (B' := w.heap.size) (by first | exact Nat.le_refl _ | (simp; done)))
    have hE1 := hid (show Ext w wc from Ext.trans (by (repeat with_reducible (first | exact Ext.refl _ | exact ext_alloc _ _ | refine Ext.drewN ?_ _ | refine Ext.drew1 ?_ | refine Ext.set ?_ (by dsimp only; omega) _ | refine Ext.alloc ?_ _))) E1)
    clear O1 E1
    obtain ⟨i0, hif, hz0, hz1, hz2⟩ := info_parts infoF
    have HI := hid (And.intro hif (And.intro hz0 (And.intro hz1 hz2)))
    clear hif hz0 hz1 hz2
    go_wp2_with fail
    go_loopw [9, 45] (fun v i wr => ∃ (k : Nat) (ys : List Nat), k ≤ o ∧ i = .int .i64 k ∧ Hid (Own wr w.heap.size (d + k) v ys) ∧ Hid (ys.map (cls .f32) = (us.take d).map (cls .f32) ++ listK (joinJ us vs o) k) ∧ Hid (Ext w wr)) (fun _ i _ => o - (intOf i).toNat)
    case atStart => exact ⟨0, us.take d, Nat.zero_le _, rfl, hO1, hid (by simp [listK]), hE1⟩
    case round =>
      obtain ⟨k, ys, hk, rfl, ho, hyy, he⟩ := hrel
      have hn2 : n ≤ 1048576 := HN.out
      have hon2 : o ≤ n := HON.out
      have hom2 : o ≤ m := HOM.out
      have hi9 : (n : Int) - (d : Int) = (o : Int) := by have := HDO.out; omega
      have hi10 : n - d = o := by have := HDO.out; omega
      by_cases hlt : k < o
      · exfalso; have := HDO.out; omega
      · have hko : k = o := by omega
        subst hko
        have hi5 : ¬ ((k : Int) < (k : Int)) := by omega
        have hm2 : m ≤ 1048576 := HM.out
        go_wp2_with (at_builtin; (first | (refine wpList_append_own _ rfl _ _ 22 rfl i0 Try.underlying22 HI.out w.heap.size _ _ ys rfl ho.out bb (ob + k) (m - k) _ (vs.drop k) rfl (by simp [HL2.out]) (drop_cells (Holds.ext H2.out he.out) HOM.out) (Ext.size he.out) (by have := HDO.out; omega) ?_) | (refine wpList_append_own _ rfl _ _ 22 rfl i0 Try.underlying22 HI.out w.heap.size _ _ ys rfl ho.out bb ob (m - k) _ (vs.drop k) rfl (by simp [HL2.out]) (by intro i hi; omega) (Ext.size he.out) (by have := HDO.out; omega) ?_) | (refine wpList_append_own _ rfl _ _ 22 rfl i0 Try.underlying22 HI.out w.heap.size _ _ ys rfl ho.out bb ob 0 _ (vs.drop k) rfl (by have h9 := HL2.out; simp; omega) (by intro i hi; omega) (Ext.size he.out) (by have := HDO.out; omega) ?_)); intro v2 w2 hown2 hbut)
        have hO2 := hid hown2
        have hE2 := hid (show Ext w w2 from But.below hbut he.out (fun k2 hk2 => (Own.block ho.out k2 hk2).1))
        have hY2 := hid (show (ys ++ vs.drop k).map (cls .f32) = joinL us vs k from by rw [List.map_append, hyy.out, ← HLD.out]; rfl)
        obtain ⟨bv, cv, rfl, hh2, _⟩ := Own.holds hown2
        have HH2 := hid hh2
        have HNN := hid (show d + k + (m - k) ≤ 1048576 * 2 by have := HDO.out; omega)
        clear hown2 hbut hh2
        cases hV : soundB ((ys ++ vs.drop k).map (cls .f32))
        · have e : O = false ∧ R = [] := by have := HS.out; unfold sndR at this; rw [← hY2.out, hV] at this; simpa [eq_comm, and_comm] using this
          obtain ⟨rfl, rfl⟩ := e
          go_wp2_with fail
          refine (isSound_drew2 _ _ _ _ _ _ HH2.out (by have h9 := HNN.out; omega) hV).mono ?_
          rintro e w3 ⟨rfl, m3, rfl⟩
          go_wp2_with fail
          go_returns
          exact ⟨_, rfl, nil_is _ _, Ext.drewN hE2.out _⟩
        · have e : O = true ∧ R = (ys ++ vs.drop k).map (cls .f32) := by have := HS.out; unfold sndR at this; rw [← hY2.out, hV] at this; simpa [eq_comm, and_comm] using this
          obtain ⟨rfl, rfl⟩ := e
          go_wp2_with fail
          refine (isSound_drew2 _ _ _ _ _ _ HH2.out (by have h9 := HNN.out; omega) hV).mono ?_
          rintro e w3 ⟨rfl, m3, rfl⟩
          go_wp2_with fail
          go_returns
          exact ⟨_, rfl, list_is (Own.drewN hO2.out _) rfl, Ext.drewN hE2.out _⟩
  · skip
    go_enter Try.func6, Try.ntmps6
    go_wp2_with (first | (go_at_call 13; with_reducible refine (isSound_drew _ n _ us _ _ (Holds.ext H1.out (by (repeat with_reducible (first | exact Ext.refl _ | exact ext_alloc _ _ | refine Ext.drewN ?_ _ | refine Ext.drew1 ?_ | refine Ext.set ?_ (by dsimp only; omega) _ | refine Ext.alloc ?_ _)))) HN.out hA).mono ?_; rintro e w' ⟨rfl, m1, rfl⟩) | (go_at_call 13; with_reducible refine (isSound_drew _ m _ vs _ _ (Holds.ext H2.out (by (repeat with_reducible (first | exact Ext.refl _ | exact ext_alloc _ _ | refine Ext.drewN ?_ _ | refine Ext.drew1 ?_ | refine Ext.set ?_ (by dsimp only; omega) _ | refine Ext.alloc ?_ _)))) HM.out hB).mono ?_; rintro e w' ⟨rfl, m2, rfl⟩) | (at_builtin; refine wpList_imin2 rfl rfl rfl rfl HMNI.out ?_))
    refine (clone_both (some ⟨ba, oa, none⟩) d _ (us.take d) _ (Holds.ext (hold_take17 H1.out (by have := HDO.out; omega)) (by (repeat with_reducible (first | exact Ext.refl _ | exact ext_alloc _ _ | refine Ext.drewN ?_ _ | refine Ext.drew1 ?_ | refine Ext.set ?_ (by dsimp only; omega) _ | refine Ext.alloc ?_ _)))) (by have := HN.out; have := HDO.out; omega)).mono ?_
    rintro e wc ⟨v0, rfl, O1, E1⟩
    have hO1 := hid (Own.base O1 (B' := w.heap.size) (by first | exact Nat.le_refl _ | (simp; done)))
    have hE1 := hid (show Ext w wc from Ext.trans (by (repeat with_reducible (first | exact Ext.refl _ | exact ext_alloc _ _ | refine Ext.drewN ?_ _ | refine Ext.drew1 ?_ | refine Ext.set ?_ (by dsimp only; omega) _ | refine Ext.alloc ?_ _))) E1)
    clear O1 E1
    obtain ⟨i0, hif, hz0, hz1, hz2⟩ := info_parts infoF
    have HI := hid (And.intro hif (And.intro hz0 (And.intro hz1 hz2)))
    clear hif hz0 hz1 hz2
    go_wp2_with fail
    go_loopw [9, 45] (fun v i wr => ∃ (k : Nat) (ys : List Nat), k ≤ o ∧ i = .int .i64 k ∧ Hid (Own wr w.heap.size (d + k) v ys) ∧ Hid (ys.map (cls .f32) = (us.take d).map (cls .f32) ++ listK (joinJ us vs o) k) ∧ Hid (Ext w wr)) (fun _ i _ => o - (intOf i).toNat)
    case atStart => exact ⟨0, us.take d, Nat.zero_le _, rfl, hO1, hid (by simp [listK]), hE1⟩
    case round =>
      obtain ⟨k, ys, hk, rfl, ho, hyy, he⟩ := hrel
      have hn2 : n ≤ 1048576 := HN.out
      have hon2 : o ≤ n := HON.out
      have hom2 : o ≤ m := HOM.out
      have hi9 : (n : Int) - (d : Int) = (o : Int) := by have := HDO.out; omega
      have hi10 : n - d = o := by have := HDO.out; omega
      by_cases hlt : k < o
      · exfalso; have := HDO.out; omega
      · have hko : k = o := by omega
        subst hko
        have hi5 : ¬ ((k : Int) < (k : Int)) := by omega
        have hm2 : m ≤ 1048576 := HM.out
        go_wp2_with (at_builtin; (first | (refine wpList_append_own _ rfl _ _ 22 rfl i0 Try.underlying22 HI.out w.heap.size _ _ ys rfl ho.out bb (ob + k) (m - k) _ (vs.drop k) rfl (by simp [HL2.out]) (drop_cells (Holds.ext H2.out he.out) HOM.out) (Ext.size he.out) (by have := HDO.out; omega) ?_) | (refine wpList_append_own _ rfl _ _ 22 rfl i0 Try.underlying22 HI.out w.heap.size _ _ ys rfl ho.out bb ob (m - k) _ (vs.drop k) rfl (by simp [HL2.out]) (by intro i hi; omega) (Ext.size he.out) (by have := HDO.out; omega) ?_) | (refine wpList_append_own _ rfl _ _ 22 rfl i0 Try.underlying22 HI.out w.heap.size _ _ ys rfl ho.out bb ob 0 _ (vs.drop k) rfl (by have h9 := HL2.out; simp; omega) (by intro i hi; omega) (Ext.size he.out) (by have := HDO.out; omega) ?_)); intro v2 w2 hown2 hbut)
        have hO2 := hid hown2
        have hE2 := hid (show Ext w w2 from But.below hbut he.out (fun k2 hk2 => (Own.block ho.out k2 hk2).1))
        have hY2 := hid (show (ys ++ vs.drop k).map (cls .f32) = joinL us vs k from by rw [List.map_append, hyy.out, ← HLD.out]; rfl)
        obtain ⟨bv, cv, rfl, hh2, _⟩ := Own.holds hown2
        have HH2 := hid hh2
        have HNN := hid (show d + k + (m - k) ≤ 1048576 * 2 by have := HDO.out; omega)
        clear hown2 hbut hh2
        cases hV : soundB ((ys ++ vs.drop k).map (cls .f32))
        · have e : O = false ∧ R = [] := by have := HS.out; unfold sndR at this; rw [← hY2.out, hV] at this; simpa [eq_comm, and_comm] using this
          obtain ⟨rfl, rfl⟩ := e
          go_wp2_with fail
          refine (isSound_drew2 _ _ _ _ _ _ HH2.out (by have h9 := HNN.out; omega) hV).mono ?_
          rintro e w3 ⟨rfl, m3, rfl⟩
          go_wp2_with fail
          go_returns
          exact ⟨_, rfl, nil_is _ _, Ext.drewN hE2.out _⟩
        · have e : O = true ∧ R = (ys ++ vs.drop k).map (cls .f32) := by have := HS.out; unfold sndR at this; rw [← hY2.out, hV] at this; simpa [eq_comm, and_comm] using this
          obtain ⟨rfl, rfl⟩ := e
          go_wp2_with fail
          refine (isSound_drew2 _ _ _ _ _ _ HH2.out (by have h9 := HNN.out; omega) hV).mono ?_
          rintro e w3 ⟨rfl, m3, rfl⟩
          go_wp2_with fail
          go_returns
          exact ⟨_, rfl, list_is (Own.drewN hO2.out _) rfl, Ext.drewN hE2.out _⟩

end Go.Proofs.Ythadoamehdnnoaa
