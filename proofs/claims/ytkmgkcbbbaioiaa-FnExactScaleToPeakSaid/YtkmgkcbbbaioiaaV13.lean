/- A sound with another peak. -/
import Derived.Test.YtkmgkcbbbaioiaaV12
import Derived.Test.YtkmgkcbbbaioiaaT8
namespace Go.Proofs.Ytkmgkcbbbaioiaa
open Go.RowKit Flt
set_option linter.unusedVariables false

def topC (zs : List Nat) : Option Nat := some (sizeW zs (bestP zs zs.length))
def toPeakC (x : Option Nat) (zs : List Nat) (k : Nat) : Option Nat := fop .mul .f32 (cls .f32 (zs.getD k 0)) (fop .quo .f32 x (topC zs))
def toPeakR (x : Option Nat) (zs : List Nat) : List (Option Nat) × Bool := if soundB (zs.map (cls .f32)) && (decide (zs.length ≠ 0) && (!fcmp .eql (ford .f32 (topC zs) (some 0)) && leastC x)) then soundR (toPeakC x zs) zs.length else ([], false)
theorem toPeak_len (x : Option Nat) (zs : List Nat) : (toPeakR x zs).1.length ≤ 256 := by
  unfold toPeakR
  split
  · rename_i h
    simp only [Bool.and_eq_true] at h
    have h1 := sound_len h.1
    have := soundR_len (toPeakC x zs) zs.length
    simp at h1
    omega
  · exact Nat.zero_le _
theorem scale_list {zs : List Nat} {n : Nat} {X : Option Nat} (h : zs.length = n) : scaleC X (zs.map (cls .f32)) = listK (fun k => fop .mul .f32 (cls .f32 (zs.getD k 0)) X) n := by
  unfold scaleC listK
  apply List.ext_getElem
  · simp [h]
  · intro i h1 h2
    simp at h1
    simp [List.getD, h1]
set_option maxHeartbeats 2000000 in
set_option maxRecDepth 100000 in
theorem toPeak_any (a : Option Addr) (n c x : Nat) (zs : List Nat) (R : List (Option Nat)) (O : Bool) (w : World) (h : Holds .f32 w a n zs) (hn : n ≤ 1048576) (hw0 : Words n zs) (hR : toPeakR (cls .f32 x) zs = (R, O)) :
    Calls Try.prog 42 #[.slice a n c, .float .f32 x] w fun e w' => ∃ v, e = .returned (.tuple #[v, .bool O]) ∧ ListIs w' w.heap.size R v ∧ Ext w w' := by
  have H1 := hid h
  have HN := hid hn
  have HL := hid h.1
  have HW := hid hw0
  have HR := hid hR
  clear h hn hR hw0
  by_cases hK : (peakR zs).ok = false
  · have hz : (soundB (zs.map (cls .f32)) && decide (zs.length ≠ 0)) = false := by
      unfold peakR at hK
      by_cases hz : (soundB (zs.map (cls .f32)) && decide (zs.length ≠ 0)) = true
      · rw [if_pos hz] at hK; cases hK
      · simpa using hz
    have e : O = false ∧ R = [] := by have := HR.out; unfold toPeakR at this; rw [← Bool.and_assoc, hz] at this; simpa [eq_comm, and_comm] using this
    obtain ⟨rfl, rfl⟩ := e
    go_enter Try.func42, Try.ntmps42
    go_wp2_with fail
    refine (peak_any a n c zs _ _ H1.out HN.out HW.out rfl).mono ?_
    rintro e w1 ⟨pk, rfl, hp, E1⟩
    have HP := hid hp
    have E1h := hid E1
    clear hp E1
    simp only [hK]
    go_wp2_with fail
    go_returns
    exact ⟨_, rfl, nil_is _ _, E1h.out⟩
  have hz : soundB (zs.map (cls .f32)) = true ∧ decide (zs.length ≠ 0) = true := by
    unfold peakR at hK
    by_cases hz : (soundB (zs.map (cls .f32)) && decide (zs.length ≠ 0)) = true
    · simpa only [Bool.and_eq_true] using hz
    · rw [if_neg hz] at hK; simp at hK
  have hPK : peakR zs = ⟨bestP zs zs.length, topC zs, true⟩ := by unfold peakR; rw [hz.1, hz.2]; rfl
  clear hK
  cases hE : fcmp .eql (ford .f32 (topC zs) (some 0))
  rotate_left
  · have e : O = false ∧ R = [] := by have := HR.out; unfold toPeakR at this; rw [hz.1, hz.2, hE] at this; simpa [eq_comm, and_comm] using this
    obtain ⟨rfl, rfl⟩ := e
    go_enter Try.func42, Try.ntmps42
    go_wp2_with fail
    refine (peak_any a n c zs _ _ H1.out HN.out HW.out hPK).mono ?_
    rintro e w1 ⟨pk, rfl, hp, E1⟩
    have HP : Is .f32 pk (topC zs) := hp
    have E1h := hid E1
    clear hp E1
    go_wp2_with (first | (refine wpList_fcmp rfl rfl rfl rfl rfl HP (is_const (by decide)) ?_; rw [hE]))
    go_returns
    refine ⟨_, rfl, nil_is _ _, Ext.trans E1h.out ?_⟩
    (repeat with_reducible (first | exact Ext.refl _ | exact ext_alloc _ _ | refine Ext.drewN ?_ _ | refine Ext.drew1 ?_ | refine Ext.set ?_ (by dsimp only; omega) _ | refine Ext.alloc ?_ _))
  cases hG : fcmp .geq (ford .f32 (cls .f32 x) (some 0))
  · have e : O = false ∧ R = [] := by have := HR.out; unfold toPeakR at this; rw [hz.1, hz.2, hE, show leastC (cls .f32 x) = false from by unfold leastC; rw [hG]; rfl] at this; simpa [eq_comm, and_comm] using this
    obtain ⟨rfl, rfl⟩ := e
    go_enter Try.func42, Try.ntmps42
    go_wp2_with fail
    refine (peak_any a n c zs _ _ H1.out HN.out HW.out hPK).mono ?_
    rintro e w1 ⟨pk, rfl, hp, E1⟩
    have HP : Is .f32 pk (topC zs) := hp
    have E1h := hid E1
    clear hp E1
    go_wp2_with (first | (refine wpList_fcmp rfl rfl rfl rfl rfl HP (is_const (by decide)) ?_; rw [hE]) | (refine wpList_fcmp rfl rfl rfl rfl rfl (is_self _ _) (is_const (by decide)) ?_; rw [hG]))
    go_returns
    refine ⟨_, rfl, nil_is _ _, Ext.trans E1h.out ?_⟩
    (repeat with_reducible (first | exact Ext.refl _ | exact ext_alloc _ _ | refine Ext.drewN ?_ _ | refine Ext.drew1 ?_ | refine Ext.set ?_ (by dsimp only; omega) _ | refine Ext.alloc ?_ _))
  cases hX : fin32 (cls .f32 x)
  · have e : O = false ∧ R = [] := by have := HR.out; unfold toPeakR at this; rw [hz.1, hz.2, hE, show leastC (cls .f32 x) = false from by unfold leastC; rw [hG, hX]; rfl] at this; simpa [eq_comm, and_comm] using this
    obtain ⟨rfl, rfl⟩ := e
    go_enter Try.func42, Try.ntmps42
    go_wp2_with fail
    refine (peak_any a n c zs _ _ H1.out HN.out HW.out hPK).mono ?_
    rintro e w1 ⟨pk, rfl, hp, E1⟩
    have HP : Is .f32 pk (topC zs) := hp
    have E1h := hid E1
    clear hp E1
    go_wp2_with (first | (refine wpList_fcmp rfl rfl rfl rfl rfl HP (is_const (by decide)) ?_; rw [hE]) | (refine wpList_fcmp rfl rfl rfl rfl rfl (is_self _ _) (is_const (by decide)) ?_; rw [hG]) | (go_at_call 48; refine (isFinite_any _ _).mono ?_; rintro e w' ⟨rfl, m, rfl⟩; rw [hX]))
    go_returns
    refine ⟨_, rfl, nil_is _ _, Ext.trans E1h.out ?_⟩
    (repeat with_reducible (first | exact Ext.refl _ | exact ext_alloc _ _ | refine Ext.drewN ?_ _ | refine Ext.drew1 ?_ | refine Ext.set ?_ (by dsimp only; omega) _ | refine Ext.alloc ?_ _))
  have HS := hid (show soundR (toPeakC (cls .f32 x) zs) n = (R, O) from by have := HR.out; unfold toPeakR at this; rw [hz.1, hz.2, hE, show leastC (cls .f32 x) = true from by unfold leastC; rw [hG, hX]; rfl, HL.out] at this; exact this)
  clear HR hz
  go_enter Try.func42, Try.ntmps42
  go_wp2_with fail
  refine (peak_any a n c zs _ _ H1.out HN.out HW.out hPK).mono ?_
  rintro e w1 ⟨pk, rfl, hp, E1⟩
  have HP : Is .f32 pk (topC zs) := hp
  have E1h := hid E1
  clear hp E1
  go_wp2_with (first | (refine wpList_fcmp rfl rfl rfl rfl rfl HP (is_const (by decide)) ?_; rw [hE]) | (refine wpList_fcmp rfl rfl rfl rfl rfl (is_self _ _) (is_const (by decide)) ?_; rw [hG]) | (go_at_call 48; refine (isFinite_any _ _).mono ?_; rintro e w' ⟨rfl, m, rfl⟩; rw [hX]) | (refine wpList_fa rfl rfl rfl rfl rfl (is_self .f32 x) HP ?_; intro r mm hr hrw))
  refine (scaled_any a n c r zs _ (Holds.ext H1.out (Ext.trans E1h.out (by (repeat with_reducible (first | exact Ext.refl _ | exact ext_alloc _ _ | refine Ext.drewN ?_ _ | refine Ext.drew1 ?_ | refine Ext.set ?_ (by dsimp only; omega) _ | refine Ext.alloc ?_ _))))) HN.out).mono ?_
  rintro e w2 ⟨b, c', ys, rfl, O2, hy, E2⟩
  have HO := hid (Own.base O2 (B' := w.heap.size) (by have := Ext.size E1h.out; first | exact this | (simp; omega)))
  have EY := hid (Ext.trans (Ext.trans E1h.out (by (repeat with_reducible (first | exact Ext.refl _ | exact ext_alloc _ _ | refine Ext.drewN ?_ _ | refine Ext.drew1 ?_ | refine Ext.set ?_ (by dsimp only; omega) _ | refine Ext.alloc ?_ _)))) E2)
  have HY := hid (show ys.map (cls .f32) = listK (toPeakC (cls .f32 x) zs) n from by rw [hy, scale_list HL.out, hr.out]; rfl)
  clear O2 E2 hy
  go_wp2_with fail
  refine (finiteList_is _ _ w.heap.size ys R O _ HO.out HN.out (by rw [HY.out]; exact HS.out)).mono ?_
  rintro e w3 ⟨u, rfl, hu, E3⟩
  have hu1 := hid hu
  have hx1 := hid (Ext.trans EY.out E3)
  clear hu E3
  go_wp2
  go_ret2
  exact ⟨_, rfl, hu1.out, hx1.out⟩
set_option maxHeartbeats 2000000 in
set_option maxRecDepth 100000 in
theorem sToPeak_any (a : Option Addr) (n c x : Nat) (zs : List Nat) (R : List (Option Nat)) (O : Bool) (w : World) (h : Holds .f32 w a n zs) (hn : n ≤ 1048576) (hw0 : Words n zs) (hR : toPeakR (cls .f32 x) zs = (R, O)) :
    Calls Try.prog 41 #[.slice a n c, .float .f32 x] w fun e w' => ∃ v, e = .returned (.tuple #[v, .bool O]) ∧ ListIs w' w.heap.size R v ∧ Ext w w' := by
  have H1 := hid h
  have HN := hid hn
  have HL := hid h.1
  have HW := hid hw0
  have HR := hid hR
  clear h hn hR hw0
  cases hA : soundB (zs.map (cls .f32))
  · have e : O = false ∧ R = [] := by have := HR.out; unfold toPeakR at this; rw [hA] at this; simpa [eq_comm, and_comm] using this
    obtain ⟨rfl, rfl⟩ := e
    go_enter Try.func41, Try.ntmps41
    go_wp2_with (go_at_call 56; refine (l03Sound_drew a n c zs _ _ H1.out HN.out hA).mono ?_; rintro e w' ⟨rfl, m1, rfl⟩)
    go_returns
    refine ⟨_, rfl, nil_is _ _, ?_⟩
    (repeat with_reducible (first | exact Ext.refl _ | exact ext_alloc _ _ | refine Ext.drewN ?_ _ | refine Ext.drew1 ?_ | refine Ext.set ?_ (by dsimp only; omega) _ | refine Ext.alloc ?_ _))
  by_cases h0 : n = 0
  · have e : O = false ∧ R = [] := by have := HR.out; unfold toPeakR at this; rw [hA, HL.out, show decide (n ≠ 0) = false from by simp [h0]] at this; simpa [eq_comm, and_comm] using this
    obtain ⟨rfl, rfl⟩ := e
    subst h0
    go_enter Try.func41, Try.ntmps41
    go_wp2_with (go_at_call 56; refine (l03Sound_drew a 0 c zs _ _ H1.out HN.out hA).mono ?_; rintro e w' ⟨rfl, m1, rfl⟩)
    go_returns
    refine ⟨_, rfl, nil_is _ _, ?_⟩
    (repeat with_reducible (first | exact Ext.refl _ | exact ext_alloc _ _ | refine Ext.drewN ?_ _ | refine Ext.drew1 ?_ | refine Ext.set ?_ (by dsimp only; omega) _ | refine Ext.alloc ?_ _))
  have hne : ((n : Int) == 0) = false := by simp; omega
  cases hX : leastC (cls .f32 x)
  · have e : O = false ∧ R = [] := by have := HR.out; unfold toPeakR at this; rw [hA, hX] at this; simpa [eq_comm, and_comm] using this
    obtain ⟨rfl, rfl⟩ := e
    go_enter Try.func41, Try.ntmps41
    go_wp2_with (first | (go_at_call 56; refine (l03Sound_drew a n c zs _ _ H1.out HN.out hA).mono ?_; rintro e w' ⟨rfl, m1, rfl⟩) | (go_at_call 69; refine (l02Least_is x _ _ hX).mono ?_; rintro e w' ⟨rfl, m2, rfl⟩))
    go_returns
    refine ⟨_, rfl, nil_is _ _, ?_⟩
    (repeat with_reducible (first | exact Ext.refl _ | exact ext_alloc _ _ | refine Ext.drewN ?_ _ | refine Ext.drew1 ?_ | refine Ext.set ?_ (by dsimp only; omega) _ | refine Ext.alloc ?_ _))
  have HT : Hid (cls .f32 (sizeW zs (bestP zs n)) = topC zs) := by
    show _ = _
    unfold topC
    rw [HL.out]
    exact abs_num _ (fins_at hA _ (by rw [HL.out]; rcases bestP_lt zs n with g | g <;> omega))
  cases hE : fcmp .eql (ford .f32 (topC zs) (some 0))
  rotate_left
  · have e : O = false ∧ R = [] := by have := HR.out; unfold toPeakR at this; rw [hA, hX, hE] at this; simpa [eq_comm, and_comm] using this
    obtain ⟨rfl, rfl⟩ := e
    go_enter Try.func41, Try.ntmps41
    go_wp2_with (first | (go_at_call 56; refine (l03Sound_drew a n c zs _ _ H1.out HN.out hA).mono ?_; rintro e w' ⟨rfl, m1, rfl⟩) | (go_at_call 69; refine (l02Least_is x _ _ hX).mono ?_; rintro e w' ⟨rfl, m2, rfl⟩) | (go_at_call 62; refine (l03Peak_any a n c zs _ (Holds.ext H1.out (by (repeat with_reducible (first | exact Ext.refl _ | exact ext_alloc _ _ | refine Ext.drewN ?_ _ | refine Ext.drew1 ?_ | refine Ext.set ?_ (by dsimp only; omega) _ | refine Ext.alloc ?_ _)))) HN.out hA HW.out h0).mono ?_; rintro e w' ⟨rfl, m3, rfl⟩) | (refine wpList_fcmp rfl rfl rfl rfl rfl (show Is .f32 _ (topC zs) from HT.out) (is_const (by decide)) ?_; rw [hE]))
    go_returns
    refine ⟨_, rfl, nil_is _ _, ?_⟩
    (repeat with_reducible (first | exact Ext.refl _ | exact ext_alloc _ _ | refine Ext.drewN ?_ _ | refine Ext.drew1 ?_ | refine Ext.set ?_ (by dsimp only; omega) _ | refine Ext.alloc ?_ _))
  have HS := hid (show soundR (toPeakC (cls .f32 x) zs) n = (R, O) from by have := HR.out; unfold toPeakR at this; rw [hA, hX, hE, HL.out, decide_eq_true h0] at this; exact this)
  obtain ⟨i0, hi, hz0, hz1, hz2⟩ := info_parts infoF
  have HI := hid (And.intro hi (And.intro hz0 (And.intro hz1 hz2)))
  clear hi hz0 hz1 hz2 HR
  go_enter Try.func41, Try.ntmps41
  go_wp2_with (first | (go_at_call 56; refine (l03Sound_drew a n c zs _ _ H1.out HN.out hA).mono ?_; rintro e w' ⟨rfl, m1, rfl⟩) | (go_at_call 69; refine (l02Least_is x _ _ hX).mono ?_; rintro e w' ⟨rfl, m2, rfl⟩) | (go_at_call 62; refine (l03Peak_any a n c zs _ (Holds.ext H1.out (by (repeat with_reducible (first | exact Ext.refl _ | exact ext_alloc _ _ | refine Ext.drewN ?_ _ | refine Ext.drew1 ?_ | refine Ext.set ?_ (by dsimp only; omega) _ | refine Ext.alloc ?_ _)))) HN.out hA HW.out h0).mono ?_; rintro e w' ⟨rfl, m3, rfl⟩) | (refine wpList_fcmp rfl rfl rfl rfl rfl (show Is .f32 _ (topC zs) from HT.out) (is_const (by decide)) ?_; rw [hE]) | (refine wpList_fa rfl rfl rfl rfl rfl (is_self .f32 x) (show Is .f32 _ (topC zs) from HT.out) ?_; intro q mm hq hqw))
  go_loopw [9, 37] (fun v i wr => ∃ (k : Nat) (ys : List Nat), k ≤ n ∧ i = .int .i64 k ∧ Hid (Own wr w.heap.size k v ys) ∧ Hid (ys.map (cls .f32) = listK (toPeakC (cls .f32 x) zs) k) ∧ Hid (Ext w wr)) (fun _ i _ => n - (intOf i).toNat)
  case atStart => exact ⟨0, [], Nat.zero_le _, rfl, hid (own_fresh (cs := #[]) (zs := []) (hid rfl) rfl (by simp) (by simp) (Nat.zero_le _)), rfl, hid (by (repeat with_reducible (first | exact Ext.refl _ | exact ext_alloc _ _ | refine Ext.drewN ?_ _ | refine Ext.drew1 ?_ | refine Ext.set ?_ (by dsimp only; omega) _ | refine Ext.alloc ?_ _)))⟩
  case round =>
    obtain ⟨k, ys, hk, rfl, ho, hyy, he⟩ := hrel
    have hn2 : n ≤ 1048576 := HN.out
    by_cases hlt : k < n
    · have hi0 : (0 : Int) ≤ (k : Int) := by omega
      have hi1 : (k : Int) < (n : Int) := by omega
      obtain ⟨b, off, rfl, e1⟩ := cell_at H1.out he.out k hlt
      have hs := hid (listK_succ (toPeakC (cls .f32 x) zs) k)
      have HCC : Hid (toPeakC (cls .f32 x) zs k = fop .mul .f32 (cls .f32 (zs.getD k 0)) (fop .quo .f32 (cls .f32 x) (topC zs))) := rfl
      generalize zs.getD k 0 = u at e1 HCC
      have HSZ := hid (Ext.size he.out)
      go_wp2_with (first | (refine wpList_fa rfl rfl rfl rfl rfl (is_self .f32 u) hq ?_; intro r m9 hr hrw) | (at_builtin; refine wpList_append_lies _ rfl _ _ 42 rfl w.heap.size 22 i0 (.float .f32 0) 1 4 Try.underlying42 HI.out.1 HI.out.2.1 HI.out.2.2.1 HI.out.2.2.2 rfl (by decide) _ _ _ rfl (Own.ext ho.out (by (repeat with_reducible (first | exact Ext.refl _ | exact ext_alloc _ _ | refine Ext.drewN ?_ _ | refine Ext.drew1 ?_ | refine Ext.set ?_ (by dsimp only; omega) _ | refine Ext.alloc ?_ _)))) ⟨wr.heap.size, 0, none⟩ 1 1 [.float .f32 r] rfl rfl (World.news_of_block (heap_alloc_new _ _)) (by intro u hu; simp at hu; subst hu; rfl) (by omega) (by have h9 := HN.out; unfold maxLen; omega) (by have h9 := HN.out; omega) (by have h8 := HSZ.out; simp; omega) _ rfl ?_; intro g cap w1 hown hgrow hat hlt2))
      have h1 := hid (own_snoc hown)
      have h2 := hid (show Ext w w1 from But.below hgrow (Ext.trans he.out (by (repeat with_reducible (first | exact Ext.refl _ | exact ext_alloc _ _ | refine Ext.drewN ?_ _ | refine Ext.drew1 ?_ | refine Ext.set ?_ (by dsimp only; omega) _ | refine Ext.alloc ?_ _)))) (fun k2 hk2 => (Own.block ho.out k2 hk2).1))
      have h3 := hid (show (ys ++ [r]).map (cls .f32) = listK (toPeakC (cls .f32 x) zs) (k + 1) from by rw [List.map_append, hyy.out, hs.out, HCC.out, ← hr.out]; rfl)
      clear hown hgrow hat hlt2
      go_wp2
      go_roundw
      case rel => exact ⟨k + 1, ys ++ [r], by omega, by go_num, h1, h3, h2⟩
      case measure => simp [intOf]; omega
    · have hkn : k = n := by omega
      subst hkn
      go_wp2_with fail
      refine (l03List_is _ _ w.heap.size ys R O _ ho.out HN.out (by rw [hyy.out]; exact HS.out)).mono ?_
      rintro e w1 ⟨u, rfl, hu, E1⟩
      have hu1 := hid hu
      have hx1 := hid (Ext.trans he.out E1)
      clear hu E1
      go_wp2
      go_ret2
      exact ⟨_, rfl, hu1.out, hx1.out⟩
end Go.Proofs.Ytkmgkcbbbaioiaa
