/- A sound that is louder. -/
import Derived.Test.YtofhemganefhcaaW1
import Derived.Test.YtofhemganefhcaaT8
namespace Go.Proofs.Ytofhemganefhcaa
open Go.RowKit Flt
set_option linter.unusedVariables false

def scaleSR (x : Option Nat) (zs : List Nat) : List (Option Nat) × Bool := if soundB (zs.map (cls .f32)) && fin32 x then finR2 (scaleC x (zs.map (cls .f32))) else ([], false)
theorem scaleS_len (x : Option Nat) (zs : List Nat) : (scaleSR x zs).1.length ≤ 256 := by
  unfold scaleSR
  split
  · rename_i h
    simp only [Bool.and_eq_true] at h
    have h1 := sound_len h.1
    unfold finR2 scaleC
    split
    · simpa using h1
    · exact Nat.zero_le _
  · exact Nat.zero_le _

set_option maxHeartbeats 4000000 in
set_option maxRecDepth 100000 in
theorem scaleS_any (a : Option Addr) (n c x : Nat) (zs : List Nat) (R : List (Option Nat)) (O : Bool) (w : World) (h : Holds .f32 w a n zs) (hn : n ≤ 1048576) (hR : scaleSR (cls .f32 x) zs = (R, O)) :
    Calls Try.prog 34 #[.slice a n c, .float .f32 x] w fun e w' => ∃ v, e = .returned (.tuple #[v, .bool O]) ∧ ListIs w' w.heap.size R v ∧ Ext w w' := by
  have H1 := hid h
  have HN := hid hn
  have HL := hid h.1
  have HR := hid hR
  clear h hn hR
  cases hA : soundB (zs.map (cls .f32))
  · have e : O = false ∧ R = [] := by have := HR.out; unfold scaleSR at this; rw [hA] at this; simpa [eq_comm, and_comm] using this
    obtain ⟨rfl, rfl⟩ := e
    go_enter Try.func34, Try.ntmps34
    go_wp2_with (first | (go_at_call 60; with_reducible refine (isSound_drew a n c zs _ _ (Holds.ext H1.out (by (repeat with_reducible (first | exact Ext.refl _ | exact ext_alloc _ _ | refine Ext.drewN ?_ _ | refine Ext.drew1 ?_ | refine Ext.set ?_ (by dsimp only; omega) _ | refine Ext.alloc ?_ _)))) HN.out hA).mono ?_; rintro e w' ⟨rfl, m1, rfl⟩))
    go_returns
    refine ⟨_, rfl, nil_is _ _, ?_⟩
    (repeat with_reducible (first | exact Ext.refl _ | exact ext_alloc _ _ | refine Ext.drewN ?_ _ | refine Ext.drew1 ?_ | refine Ext.set ?_ (by dsimp only; omega) _ | refine Ext.alloc ?_ _))
  cases hx : fin32 (cls .f32 x)
  · have e : O = false ∧ R = [] := by have := HR.out; unfold scaleSR at this; rw [hA, hx] at this; simpa [eq_comm, and_comm] using this
    obtain ⟨rfl, rfl⟩ := e
    go_enter Try.func34, Try.ntmps34
    go_wp2_with (first | (go_at_call 60; with_reducible refine (isSound_drew a n c zs _ _ (Holds.ext H1.out (by (repeat with_reducible (first | exact Ext.refl _ | exact ext_alloc _ _ | refine Ext.drewN ?_ _ | refine Ext.drew1 ?_ | refine Ext.set ?_ (by dsimp only; omega) _ | refine Ext.alloc ?_ _)))) HN.out hA).mono ?_; rintro e w' ⟨rfl, m1, rfl⟩) | (go_at_call 52; with_reducible refine (isFinite_any x _).mono ?_; rintro e w' ⟨rfl, m2, rfl⟩; rw [hx]))
    go_returns
    refine ⟨_, rfl, nil_is _ _, ?_⟩
    (repeat with_reducible (first | exact Ext.refl _ | exact ext_alloc _ _ | refine Ext.drewN ?_ _ | refine Ext.drew1 ?_ | refine Ext.set ?_ (by dsimp only; omega) _ | refine Ext.alloc ?_ _))
  have HS := hid (show finR2 (scaleC (cls .f32 x) (zs.map (cls .f32))) = (R, O) from by have := HR.out; unfold scaleSR at this; rw [hA, hx] at this; simpa using this)
  clear HR
  go_enter Try.func34, Try.ntmps34
  go_wp2_with (first | (go_at_call 60; with_reducible refine (isSound_drew a n c zs _ _ (Holds.ext H1.out (by (repeat with_reducible (first | exact Ext.refl _ | exact ext_alloc _ _ | refine Ext.drewN ?_ _ | refine Ext.drew1 ?_ | refine Ext.set ?_ (by dsimp only; omega) _ | refine Ext.alloc ?_ _)))) HN.out hA).mono ?_; rintro e w' ⟨rfl, m1, rfl⟩) | (go_at_call 52; with_reducible refine (isFinite_any x _).mono ?_; rintro e w' ⟨rfl, m2, rfl⟩; rw [hx]))
  refine (scaled_any a n c x zs _ (Holds.ext H1.out (by (repeat with_reducible (first | exact Ext.refl _ | exact ext_alloc _ _ | refine Ext.drewN ?_ _ | refine Ext.drew1 ?_ | refine Ext.set ?_ (by dsimp only; omega) _ | refine Ext.alloc ?_ _)))) HN.out).mono ?_
  rintro e w2 ⟨b, c', ys, rfl, O2, hy, E2⟩
  have HO := hid (Own.base O2 (B' := w.heap.size) (by first | exact Nat.le_refl _ | (simp; done)))
  have HY := hid hy
  have HZ := hid (show Ext w w2 from Ext.trans (by (repeat with_reducible (first | exact Ext.refl _ | exact ext_alloc _ _ | refine Ext.drewN ?_ _ | refine Ext.drew1 ?_ | refine Ext.set ?_ (by dsimp only; omega) _ | refine Ext.alloc ?_ _))) E2)
  clear O2 E2 hy
  go_wp2_with fail
  refine (finiteList_is _ _ w.heap.size ys R O _ HO.out HN.out (by rw [HY.out]; exact HS.out)).mono ?_
  rintro e w3 ⟨u, rfl, hu, E3⟩
  have hu1 := hid hu
  have hx1 := hid (Ext.trans HZ.out E3)
  clear hu E3
  go_wp2
  go_ret2
  exact ⟨_, rfl, hu1.out, hx1.out⟩

set_option maxHeartbeats 4000000 in
set_option maxRecDepth 100000 in
theorem sScaleS_any (a : Option Addr) (n c x : Nat) (zs : List Nat) (R : List (Option Nat)) (O : Bool) (w : World) (h : Holds .f32 w a n zs) (hn : n ≤ 1048576) (hR : scaleSR (cls .f32 x) zs = (R, O)) :
    Calls Try.prog 33 #[.slice a n c, .float .f32 x] w fun e w' => ∃ v, e = .returned (.tuple #[v, .bool O]) ∧ ListIs w' w.heap.size R v ∧ Ext w w' := by
  have H1 := hid h
  have HN := hid hn
  have HL := hid h.1
  have HR := hid hR
  clear h hn hR
  cases hA : soundB (zs.map (cls .f32))
  · have e : O = false ∧ R = [] := by have := HR.out; unfold scaleSR at this; rw [hA] at this; simpa [eq_comm, and_comm] using this
    obtain ⟨rfl, rfl⟩ := e
    go_enter Try.func33, Try.ntmps33
    go_wp2_with (first | (go_at_call 57; with_reducible refine (l04Sound_drew a n c zs _ _ (Holds.ext H1.out (by (repeat with_reducible (first | exact Ext.refl _ | exact ext_alloc _ _ | refine Ext.drewN ?_ _ | refine Ext.drew1 ?_ | refine Ext.set ?_ (by dsimp only; omega) _ | refine Ext.alloc ?_ _)))) HN.out hA).mono ?_; rintro e w' ⟨rfl, m1, rfl⟩))
    go_returns
    refine ⟨_, rfl, nil_is _ _, ?_⟩
    (repeat with_reducible (first | exact Ext.refl _ | exact ext_alloc _ _ | refine Ext.drewN ?_ _ | refine Ext.drew1 ?_ | refine Ext.set ?_ (by dsimp only; omega) _ | refine Ext.alloc ?_ _))
  cases hx : fin32 (cls .f32 x)
  · have e : O = false ∧ R = [] := by have := HR.out; unfold scaleSR at this; rw [hA, hx] at this; simpa [eq_comm, and_comm] using this
    obtain ⟨rfl, rfl⟩ := e
    go_enter Try.func33, Try.ntmps33
    go_wp2_with (first | (go_at_call 57; with_reducible refine (l04Sound_drew a n c zs _ _ (Holds.ext H1.out (by (repeat with_reducible (first | exact Ext.refl _ | exact ext_alloc _ _ | refine Ext.drewN ?_ _ | refine Ext.drew1 ?_ | refine Ext.set ?_ (by dsimp only; omega) _ | refine Ext.alloc ?_ _)))) HN.out hA).mono ?_; rintro e w' ⟨rfl, m1, rfl⟩) | (go_at_call 69; with_reducible refine (l01Finite_any x _).mono ?_; rintro e w' ⟨rfl, m2, rfl⟩; rw [hx]))
    go_returns
    refine ⟨_, rfl, nil_is _ _, ?_⟩
    (repeat with_reducible (first | exact Ext.refl _ | exact ext_alloc _ _ | refine Ext.drewN ?_ _ | refine Ext.drew1 ?_ | refine Ext.set ?_ (by dsimp only; omega) _ | refine Ext.alloc ?_ _))
  have HS := hid (show finR2 (scaleC (cls .f32 x) (zs.map (cls .f32))) = (R, O) from by have := HR.out; unfold scaleSR at this; rw [hA, hx] at this; simpa using this)
  clear HR
  obtain ⟨i0, hif, hz0, hz1, hz2⟩ := info_parts infoF
  have HI := hid (And.intro hif (And.intro hz0 (And.intro hz1 hz2)))
  clear hif hz0 hz1 hz2
  go_enter Try.func33, Try.ntmps33
  go_wp2_with (first | (go_at_call 57; with_reducible refine (l04Sound_drew a n c zs _ _ (Holds.ext H1.out (by (repeat with_reducible (first | exact Ext.refl _ | exact ext_alloc _ _ | refine Ext.drewN ?_ _ | refine Ext.drew1 ?_ | refine Ext.set ?_ (by dsimp only; omega) _ | refine Ext.alloc ?_ _)))) HN.out hA).mono ?_; rintro e w' ⟨rfl, m1, rfl⟩) | (go_at_call 69; with_reducible refine (l01Finite_any x _).mono ?_; rintro e w' ⟨rfl, m2, rfl⟩; rw [hx]))
  go_loopw [6, 7] (fun v i wr => ∃ (k : Nat) (ys : List Nat), k ≤ n ∧ i = .int .i64 k ∧ Hid (Own wr w.heap.size k v ys) ∧ Hid (ys.map (cls .f32) = scaleC (cls .f32 x) ((zs.take k).map (cls .f32))) ∧ Hid (Ext w wr)) (fun _ i _ => n - (intOf i).toNat)
  case atStart => exact ⟨0, [], Nat.zero_le _, rfl, hid (own_fresh (cs := #[]) (zs := []) (hid rfl) rfl (by simp) (by simp) (Nat.zero_le _)), rfl, hid (by (repeat with_reducible (first | exact Ext.refl _ | exact ext_alloc _ _ | refine Ext.drewN ?_ _ | refine Ext.drew1 ?_ | refine Ext.set ?_ (by dsimp only; omega) _ | refine Ext.alloc ?_ _)))⟩
  case round =>
    obtain ⟨k, ys, hk, rfl, ho, hyy, he⟩ := hrel
    have hn2 : n ≤ 1048576 := HN.out
    by_cases hlt : k < n
    · have hi0 : (0 : Int) ≤ (k : Int) := by omega
      have hi1 : (k : Int) < (n : Int) := by omega
      obtain ⟨b, off, rfl, e1⟩ := cell_at H1.out he.out k hlt
      have hs := hid (scaleC_snoc (cls .f32 x) zs k (by rw [HL.out]; exact hlt))
      generalize zs.getD k 0 = u at e1 hs
      have HSZ := hid (Ext.size he.out)
      go_wp2_with (first | (refine wpList_fa rfl rfl rfl rfl rfl (by first | assumption | exact is_const (by decide) | exact is_int _ | exact is_self _ _) (by first | assumption | exact is_const (by decide) | exact is_int _ | exact is_self _ _) ?_; intro r m9 hr hrw) | (at_builtin; refine wpList_append_lies _ rfl _ _ 22 rfl w.heap.size 23 i0 (.float .f32 0) 1 4 Try.underlying22 HI.out.1 HI.out.2.1 HI.out.2.2.1 HI.out.2.2.2 rfl (by decide) _ _ _ rfl (Own.ext ho.out (by (repeat with_reducible (first | exact Ext.refl _ | exact ext_alloc _ _ | refine Ext.drewN ?_ _ | refine Ext.drew1 ?_ | refine Ext.set ?_ (by dsimp only; omega) _ | refine Ext.alloc ?_ _)))) ⟨wr.heap.size, 0, none⟩ 1 1 [.float .f32 r] rfl rfl (World.news_of_block (heap_alloc_new _ _)) (by intro u hu; simp at hu; subst hu; rfl) (by omega) (by have h9 := HN.out; unfold maxLen; omega) (by have h9 := HN.out; omega) (by have h8 := HSZ.out; simp; omega) _ rfl ?_; intro g cap w1 hown hgrow hat hlt2))
      have h1 := hid (own_snoc hown)
      have h2 := hid (show Ext w w1 from But.below hgrow (Ext.trans he.out (by (repeat with_reducible (first | exact Ext.refl _ | exact ext_alloc _ _ | refine Ext.drewN ?_ _ | refine Ext.drew1 ?_ | refine Ext.set ?_ (by dsimp only; omega) _ | refine Ext.alloc ?_ _)))) (fun k2 hk2 => (Own.block ho.out k2 hk2).1))
      have h3 := hid (show (ys ++ [r]).map (cls .f32) = scaleC (cls .f32 x) ((zs.take (k + 1)).map (cls .f32)) from by rw [List.map_append, hyy.out, hs.out, ← Is.out hr]; rfl)
      clear hown hgrow hat hlt2
      go_wp2
      go_roundw
      case rel => exact ⟨k + 1, ys ++ [r], by omega, by go_num, h1, h3, h2⟩
      case measure => simp [intOf]; omega
    · have hkn : k = n := by omega
      subst hkn
      go_wp2_with fail
      refine (l02List_is _ _ w.heap.size ys R O _ ho.out HN.out (by rw [hyy.out, List.take_of_length_le (by rw [HL.out]; exact Nat.le_refl _)]; exact HS.out)).mono ?_
      rintro e w1 ⟨u, rfl, hu, E1⟩
      have hu1 := hid hu
      have hx1 := hid (Ext.trans he.out E1)
      clear hu E1
      go_wp2
      go_ret2
      exact ⟨_, rfl, hu1.out, hx1.out⟩

end Go.Proofs.Ytofhemganefhcaa
