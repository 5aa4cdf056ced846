/- Scaled tubes: the other package. -/
import Derived.Test.YtogjehlepdapoaaT8
import Derived.Test.YtogjehlepdapoaaTail
namespace Go.Proofs.Ytogjehlepdapoaa
open Go.RowKit Flt
set_option linter.unusedVariables false

theorem scale_len (cs : List (Option Nat)) (l t p X : Option Nat) : (scaleT cs l t p X).cs.length ≤ 16 := by
  unfold scaleT
  split
  · exact give_len _ _ _ _
  · exact Nat.zero_le _
theorem scaleC_of {X : Option Nat} {zs ys : List Nat} {n : Nat} (h1 : ys.length = n) (h2 : zs.length = n) (h : ∀ q, q < n → cls .f32 (ys.getD q 0) = fop .mul .f32 (cls .f32 (zs.getD q 0)) X) : ys.map (cls .f32) = scaleC X (zs.map (cls .f32)) := by
  apply List.ext_getElem?
  intro i
  by_cases hi : i < n
  · have := h i hi
    simp [List.getD, show i < ys.length by omega, show i < zs.length by omega] at this
    simp [scaleC, show i < ys.length by omega, show i < zs.length by omega, this]
  · rw [List.getElem?_eq_none (by simp; omega), List.getElem?_eq_none (by simp [scaleC]; omega)]
theorem getD_set (ys : List Nat) (k q r : Nat) (hk : k < ys.length) : (ys.set k r).getD q 0 = if q = k then r else ys.getD q 0 := by
  by_cases h : q = k
  · subst h; simp [List.getD, hk]
  · rw [if_neg h]; simp [List.getD, List.getElem?_set_ne (Ne.symm h)]

set_option maxHeartbeats 1000000 in
theorem sScale_any (a : Option Addr) (n c l t p x : Nat) (zs : List Nat) (R : TR) (w : World) (h : Holds .f32 w a n zs) (hn : n ≤ 1048576) (hR : scaleT (zs.map (cls .f32)) (cls .f32 l) (cls .f32 t) (cls .f32 p) (cls .f32 x) = R) :
    Calls Try.prog 61 #[.agg #[.slice a n c, .float .f32 l, .float .f32 t, .float .f32 p], .float .f32 x] w fun e w' => ∃ v, e = .returned (.tuple #[v, .bool R.ok]) ∧ TubeIs w' w.heap.size R v ∧ Ext w w' := by
  have HH := hid h
  have HN := hid hn
  have HL := hid h.1
  cases hV : tubeC (zs.map (cls .f32)) (cls .f32 l) (cls .f32 t) (cls .f32 p)
  · have e := hR
    unfold scaleT at e
    rw [hV] at e
    simp only [Bool.false_eq_true, if_false] at e
    subst e
    clear h hn hR
    go_enter Try.func61, Try.ntmps61
    go_wp2_with fail
    refine (l02Is_any _ _ _ _ _ _ _ zs _ (Box.alloc (box_new _ _) _) (Holds.alloc (Holds.alloc HH.out _) _) HN.out).mono ?_
    rintro e w1 ⟨rfl, m, rfl⟩
    simp only [hV]
    go_wp2_with fail
    go_returns
    refine ⟨_, rfl, zero_is _ _, ?_⟩
    (repeat with_reducible (first | exact Ext.refl _ | exact ext_alloc _ _ | refine Ext.drewN ?_ _ | refine Ext.drew1 ?_ | refine Ext.set ?_ (by dsimp only; omega) _ | refine Ext.alloc ?_ _))
  have e := hR
  unfold scaleT at e
  rw [hV] at e
  simp only [if_true] at e
  have H16 := hid (tube_len hV)
  have h1 : 1 ≤ n := by
    have h2 := H16.out.1
    have h3 := HL.out
    simp at h2; omega
  have H1 := hid h1
  clear h hn hR h1
  go_enter Try.func61, Try.ntmps61
  go_wp2_with fail
  refine (l02Is_any _ _ _ _ _ _ _ zs _ (Box.alloc (box_new _ _) _) (Holds.alloc (Holds.alloc HH.out _) _) HN.out).mono ?_
  rintro e1 w1 ⟨rfl, m, rfl⟩
  simp only [hV]
  go_wp2_with fail
  refine (l02Own_any _ _ _ _ _ _ _ zs _ (Box.drewN (Box.alloc (box_new _ _) _) _) (Holds.drew (Holds.alloc (Holds.alloc HH.out _) _) _) H1.out HN.out).mono ?_
  rintro e2 w2 ⟨b2, c2, rfl, O2, E2⟩
  have EE := hid (show Ext w w2 from Ext.trans (by (repeat with_reducible (first | exact Ext.refl _ | exact ext_alloc _ _ | refine Ext.drewN ?_ _ | refine Ext.drew1 ?_ | refine Ext.set ?_ (by dsimp only; omega) _ | refine Ext.alloc ?_ _))) E2)
  have HX0 := hid (Box.cast (b' := w.heap.size + 1) (Box.ext (Box.drewN (box_new (w := w.alloc (.cells #[.slice a n c, .float .f32 l, .float .f32 t, .float .f32 p] 27)) #[.slice none 0 0, .float .f32 0, .float .f32 0, .float .f32 0] 27) m) E2) (by simp))
  have HO := hid (Own.base O2 (B' := w.heap.size + 2) (by simp <;> omega))
  clear O2 E2
  have HI := hid (Own.block HO.out)
  go_wp2_with fail
  go_loopw [7] (fun i wr => ∃ (k : Nat) (ys : List Nat), k ≤ n ∧ i = .int .i64 k ∧ Hid (Own wr (w.heap.size + 2) n (.slice (some ⟨b2, 0, none⟩) n c2) ys) ∧ Hid (∀ q, q < n → cls .f32 (ys.getD q 0) = if q < k then fop .mul .f32 (cls .f32 (zs.getD q 0)) (cls .f32 x) else cls .f32 (zs.getD q 0)) ∧ Hid (Box wr w2.heap.size #[.slice (some ⟨b2, 0, none⟩) n c2, .float .f32 l, .float .f32 t, .float .f32 p]) ∧ Hid (Box wr (w.heap.size + 1) #[.slice none 0 0, .float .f32 0, .float .f32 0, .float .f32 0]) ∧ Hid (Ext w wr)) (fun i _ => n - (intOf i).toNat)
  case atStart => exact ⟨0, zs, Nat.zero_le _, rfl, hid (Own.alloc HO.out _), hid (fun q hq => by simp), hid (box_new _ _), hid (Box.alloc HX0.out _), hid (Ext.trans EE.out (ext_alloc _ _))⟩
  case round =>
    obtain ⟨k, ys, hk, rfl, ho, hy, hb6, hbr, he⟩ := hrel
    have hn2 : n ≤ 1048576 := HN.out
    obtain ⟨d0, d1, d2, d3, dl⟩ := Box.cells4 hb6.out
    have hyl := hid ho.out.len
    by_cases hlt : k < n
    · have e1 := Own.cellAt ho.out k hlt
      have hf := Own.frozenAt ho.out k
      have hv := hy.out k hlt
      rw [if_neg (Nat.lt_irrefl _)] at hv
      generalize ys.getD k 0 = q at e1 hv
      have hi0 : (0 : Int) ≤ (k : Int) := by omega
      have hi1 : (k : Int) < (n : Int) := by omega
      have hne : w2.heap.size ≠ b2 := by have := (HI.out b2 rfl).2; omega
      go_wp2_with fail
      refine wp_region_tail 11 (by kernel_rfl) (by kernel_rfl) (by kernel_rfl) ?_
      simp only [List.take_succ_cons, List.take_zero, List.drop_succ_cons, List.drop_zero]
      repeat (first | (refine wpM_mult0 rfl rfl ?_; refine mult_farith rfl rfl rfl rfl ?_; intro r hr hrw) | (refine wpM_quiet rfl (fun K hK => ?_); go_simp; refine hK _ ?_; clear hK K))
      refine wpM_nil ?_
      intro w3 hw3
      obtain ⟨nq, hw3⟩ := hw3
      subst hw3
      go_wp2_with fail
      have hyl2 : k < ys.length := by rw [hyl.out]; exact hlt
      have hge : w.heap.size + 2 ≤ b2 := (HI.out b2 rfl).1
      have hpt : Hid (∀ q2, q2 < n → cls .f32 ((ys.set k r).getD q2 0) = if q2 < k + 1 then fop .mul .f32 (cls .f32 (zs.getD q2 0)) (cls .f32 x) else cls .f32 (zs.getD q2 0)) := by
        intro q2 hq2
        rw [getD_set _ _ _ _ hyl2]
        by_cases hqk : q2 = k
        · subst hqk
          rw [if_pos rfl, if_pos (Nat.lt_succ_self _), hr.out, hv]
        · rw [if_neg hqk, hy.out q2 hq2]
          by_cases h : q2 < k
          · rw [if_pos h, if_pos (by omega)]
          · rw [if_neg h, if_neg (by omega)]
      go_roundw
      case rel => exact ⟨k + 1, ys.set k r, by omega, by go_num, hid (Own.stored (Own.drewN ho.out _) k _).1, hpt, hid (Box.far (Box.drewN hb6.out _) hne _), hid (Box.far (Box.drewN hbr.out _) (by omega) _), hid (Ext.set (Ext.drewN he.out _) (by dsimp only; omega) _)⟩
      case measure => simp [intOf]; omega
    · have hkn : k = n := by omega
      subst hkn
      have hsc := hid (scaleC_of (X := cls .f32 x) hyl.out HL.out (fun q hq => by have := hy.out q hq; rwa [if_pos hq] at this))
      go_wp2_with fail
      refine (l02Give_any _ _ _ _ _ _ _ ys _ ho.out HN.out).mono ?_
      rintro e3 w3 ⟨v, rfl, hT, E3⟩
      rw [hsc.out, e] at hT ⊢
      have EE3 := hid (Ext.trans he.out E3)
      have HX := hid (Box.cast (b' := w.heap.size + 1) (Box.ext hbr.out E3) (by simp))
      obtain ⟨ra, rc, rl, rt, rp, rz, rfl, rO, re⟩ := hT
      have HT := hid (show TubeIs w3 (w.heap.size + 2) R (.agg #[.slice ra R.cs.length rc, .float .f32 rl, .float .f32 rt, .float .f32 rp]) from ⟨ra, rc, rl, rt, rp, rz, rfl, rO, re⟩)
      clear rO re
      obtain ⟨y0, y1, y2, y3, yf0, yf1, yf2, yf3, yl⟩ := Box.all4 HX.out
      go_wp2_with fail
      clear y0 y1 y2 y3 yf0 yf1 yf2 yf3 yl
      refine bodyPost_ret (ret_cell2 Try.results61 rfl (box_set4 HX.out _ _ _ _) Try.underlying27 infoT) rfl ?_
      exact ⟨_, rfl, TubeIs.base (TubeIs.far4 HT.out (by omega) _ _ _ _) (by omega), ext_set4 EE3.out (by simp) _ _ _ _⟩

end Go.Proofs.Ytogjehlepdapoaa