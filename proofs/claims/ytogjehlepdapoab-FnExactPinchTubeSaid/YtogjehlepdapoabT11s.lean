/- Pinched tubes: the other package. -/
import Derived.Test.YtogjehlepdapoabT11
namespace Go.Proofs.Ytogjehlepdapoab
open Go.RowKit Flt
set_option linter.unusedVariables false
theorem l02Has_yes (bx k : Nat) (a : Option Addr) (n c l t p : Nat) (zs : List Nat) (w : World) (hb : Box w bx #[.slice a n c, .float .f32 l, .float .f32 t, .float .f32 p]) (h : Holds .f32 w a n zs) (hn : n ≤ 1048576) (hk : k < n) (hV : tubeC (zs.map (cls .f32)) (cls .f32 l) (cls .f32 t) (cls .f32 p) = true) :
    Calls Try.prog 55 #[.pointer (some ⟨bx, 0, none⟩), .int .i64 (k : Int)] w fun e w' => e = .returned (.bool true) ∧ ∃ m, w' = w.drewN m := by
  have HH := hid h
  have HN := hid hn
  have BX := hid hb
  obtain ⟨c0, c1, c2, c3, hlt⟩ := hb.cells4
  have hkI : (k : Int) < (n : Int) := by omega
  clear h hb
  go_enter Try.func55, Try.ntmps55
  go_wp2_with (first | (go_at_call 65; refine (l02Is_any _ _ _ _ _ _ _ zs _ BX.out HH.out HN.out).mono ?_; rintro e w1 ⟨rfl, m, rfl⟩; simp only [hV]) | (go_at_call 59; refine (l00In_yes _ _ _ (by omega) (by omega) _).mono ?_; rintro e w' ⟨rfl, rfl⟩))
  go_ret
  exact ⟨rfl, _, rfl⟩
theorem l02Has_bad (bx : Nat) (i : Int) (a : Option Addr) (n c l t p : Nat) (zs : List Nat) (w : World) (hb : Box w bx #[.slice a n c, .float .f32 l, .float .f32 t, .float .f32 p]) (h : Holds .f32 w a n zs) (hn : n ≤ 1048576) (hV : tubeC (zs.map (cls .f32)) (cls .f32 l) (cls .f32 t) (cls .f32 p) = false) :
    Calls Try.prog 55 #[.pointer (some ⟨bx, 0, none⟩), .int .i64 i] w fun e w' => e = .returned (.bool false) ∧ ∃ m, w' = w.drewN m := by
  have HH := hid h
  have HN := hid hn
  have BX := hid hb
  obtain ⟨c0, c1, c2, c3, hlt⟩ := hb.cells4
  clear h hb
  go_enter Try.func55, Try.ntmps55
  go_wp2_with (first | (go_at_call 65; refine (l02Is_any _ _ _ _ _ _ _ zs _ BX.out HH.out HN.out).mono ?_; rintro e w1 ⟨rfl, m, rfl⟩; simp only [hV]))
  go_ret
  exact ⟨rfl, _, rfl⟩
theorem l02Has_no (bx : Nat) (i : Int) (a : Option Addr) (n c l t p : Nat) (zs : List Nat) (w : World) (hb : Box w bx #[.slice a n c, .float .f32 l, .float .f32 t, .float .f32 p]) (h : Holds .f32 w a n zs) (hn : n ≤ 1048576) (hi : i < 0 ∨ (n : Int) ≤ i) (hV : tubeC (zs.map (cls .f32)) (cls .f32 l) (cls .f32 t) (cls .f32 p) = true) :
    Calls Try.prog 55 #[.pointer (some ⟨bx, 0, none⟩), .int .i64 i] w fun e w' => e = .returned (.bool false) ∧ ∃ m, w' = w.drewN m := by
  have HH := hid h
  have HN := hid hn
  have BX := hid hb
  have HI := hid hi
  obtain ⟨c0, c1, c2, c3, hlt⟩ := hb.cells4
  clear h hb hi
  go_enter Try.func55, Try.ntmps55
  go_wp2_with (first | (go_at_call 65; refine (l02Is_any _ _ _ _ _ _ _ zs _ BX.out HH.out HN.out).mono ?_; rintro e w1 ⟨rfl, m, rfl⟩; simp only [hV]) | (go_at_call 59; refine (l00In_no _ _ _ (by have := HI.out; omega) _).mono ?_; rintro e w' ⟨rfl, rfl⟩))
  go_ret
  exact ⟨rfl, _, rfl⟩

theorem pinch_step {i n u r : Nat} {X : Option Nat} {zs ys : List Nat} (hl : ys.length = n) (hu : u < n) (h : ∀ q, q < n → cls .f32 (ys.getD q 0) = if q < u then pinchAt i X (cls .f32 (zs.getD q 0)) q else cls .f32 (zs.getD q 0)) (hr : cls .f32 r = pinchAt i X (cls .f32 (zs.getD u 0)) u) :
    ∀ q, q < n → cls .f32 ((ys.set u r).getD q 0) = if q < u + 1 then pinchAt i X (cls .f32 (zs.getD q 0)) q else cls .f32 (zs.getD q 0) := by
  intro q hq
  rw [getD_set11 _ _ _ _ (by omega)]
  by_cases hqu : q = u
  · rw [if_pos hqu, if_pos (by omega), hqu]; exact hr
  · rw [if_neg hqu, h q hq]
    by_cases h2 : q < u
    · rw [if_pos h2, if_pos (by omega)]
    · rw [if_neg h2, if_neg (by omega)]
theorem pinch_skip {i n u : Nat} {X : Option Nat} {zs ys : List Nat} (h : ∀ q, q < n → cls .f32 (ys.getD q 0) = if q < u then pinchAt i X (cls .f32 (zs.getD q 0)) q else cls .f32 (zs.getD q 0)) (h1 : u ≠ i) (h2 : ¬ (u + 1 = i ∨ u = i + 1)) :
    ∀ q, q < n → cls .f32 (ys.getD q 0) = if q < u + 1 then pinchAt i X (cls .f32 (zs.getD q 0)) q else cls .f32 (zs.getD q 0) := by
  intro q hq
  rw [h q hq]
  by_cases hqu : q = u
  · subst hqu
    rw [if_neg (Nat.lt_irrefl _), if_pos (Nat.lt_succ_self _)]
    unfold pinchAt
    rw [if_neg h1, if_neg h2]
  · by_cases h2 : q < u
    · rw [if_pos h2, if_pos (by omega)]
    · rw [if_neg h2, if_neg (by omega)]
set_option maxHeartbeats 2000000 in
set_option maxRecDepth 100000 in
theorem sPinch_any (a : Option Addr) (n c l t p x : Nat) (zs : List Nat) (i : Int) (R : TR) (w : World) (h : Holds .f32 w a n zs) (hn : n ≤ 1048576) (hR : pinchT (zs.map (cls .f32)) (cls .f32 l) (cls .f32 t) (cls .f32 p) i (cls .f32 x) = R) :
    Calls Try.prog 16 #[.agg #[.slice a n c, .float .f32 l, .float .f32 t, .float .f32 p], .int .i64 i, .float .f32 x] w fun e w' => ∃ v, e = .returned (.tuple #[v, .bool R.ok]) ∧ TubeIs w' w.heap.size R v ∧ Ext w w' := by
  have HH := hid h
  have HN := hid hn
  have HL := hid h.1
  have hln : (zs.map (cls .f32)).length = n := by have := h.1; simp; omega
  cases hV : tubeC (zs.map (cls .f32)) (cls .f32 l) (cls .f32 t) (cls .f32 p)
  · have e : R = zeroT := by rw [← hR]; unfold pinchT; rw [if_neg (by rw [hV]; simp)]
    subst e
    clear hR
    clear h hn hln
    go_enter Try.func16, Try.ntmps16
    go_wp2_with (first | (go_at_call 55; refine (l02Has_bad _ _ _ _ _ _ _ _ zs _ (Box.alloc (box_new _ _) _) (Holds.alloc (Holds.alloc HH.out _) _) HN.out hV).mono ?_; rintro e w1 ⟨rfl, m, rfl⟩))
    go_returns
    refine ⟨_, rfl, zero_is _ _, ?_⟩
    (repeat with_reducible (first | exact Ext.refl _ | exact ext_alloc _ _ | refine Ext.drewN ?_ _ | refine Ext.drew1 ?_ | refine Ext.set ?_ (by dsimp only; omega) _ | refine Ext.alloc ?_ _))
  by_cases hi0 : i < 0 ∨ (n : Int) ≤ i
  · have e : R = zeroT := by rw [← hR]; unfold pinchT; rw [if_neg (by rw [hln]; omega)]
    subst e
    clear hR
    clear h hn hln
    go_enter Try.func16, Try.ntmps16
    go_wp2_with (first | (go_at_call 55; refine (l02Has_no _ _ _ _ _ _ _ _ zs _ (Box.alloc (box_new _ _) _) (Holds.alloc (Holds.alloc HH.out _) _) HN.out (by omega) hV).mono ?_; rintro e w1 ⟨rfl, m, rfl⟩))
    go_returns
    refine ⟨_, rfl, zero_is _ _, ?_⟩
    (repeat with_reducible (first | exact Ext.refl _ | exact ext_alloc _ _ | refine Ext.drewN ?_ _ | refine Ext.drew1 ?_ | refine Ext.set ?_ (by dsimp only; omega) _ | refine Ext.alloc ?_ _))
  obtain ⟨k, rfl⟩ : ∃ k : Nat, i = (k : Int) := ⟨i.toNat, by omega⟩
  have hk : k < n := by omega
  cases hX : areaC (cls .f32 x)
  · have e : R = zeroT := by rw [← hR]; unfold pinchT; rw [if_neg (by rw [hX]; simp)]
    subst e
    clear hR
    clear h hn hln
    go_enter Try.func16, Try.ntmps16
    go_wp2_with (first | (go_at_call 55; refine (l02Has_yes _ k _ _ _ _ _ _ zs _ (Box.alloc (box_new _ _) _) (Holds.alloc (Holds.alloc HH.out _) _) HN.out hk hV).mono ?_; rintro e w1 ⟨rfl, m, rfl⟩) | (go_at_call 56; refine (l02Above_any _ _).mono ?_; rintro e w1 ⟨rfl, mm, rfl⟩; simp only [hX]))
    go_returns
    refine ⟨_, rfl, zero_is _ _, ?_⟩
    (repeat with_reducible (first | exact Ext.refl _ | exact ext_alloc _ _ | refine Ext.drewN ?_ _ | refine Ext.drew1 ?_ | refine Ext.set ?_ (by dsimp only; omega) _ | refine Ext.alloc ?_ _))
  have e : giveT (pinchC k (cls .f32 x) (zs.map (cls .f32))) (cls .f32 l) (cls .f32 t) (cls .f32 p) = R := by
    rw [← hR]
    unfold pinchT
    rw [if_pos ⟨hV, by omega, by rw [hln]; omega, hX⟩]
    simp
  have HE := hid e
  have H1 := hid (show 1 ≤ n from by omega)
  have hkI : (k : Int) < (n : Int) := by omega
  have hk0 : (0 : Int) ≤ (k : Int) := by omega
  clear h hR hi0 hln e
  go_enter Try.func16, Try.ntmps16
  go_wp2_with (first | (go_at_call 55; refine (l02Has_yes _ k _ _ _ _ _ _ zs _ (Box.alloc (box_new _ _) _) (Holds.alloc (Holds.alloc HH.out _) _) HN.out hk hV).mono ?_; rintro e w1 ⟨rfl, m, rfl⟩) | (go_at_call 56; refine (l02Above_any _ _).mono ?_; rintro e w1 ⟨rfl, mm, rfl⟩; simp only [hX]))
  refine (l02Own_any _ _ _ _ _ _ _ zs _ (Box.drewN (Box.alloc (box_new _ _) _) _) (Holds.drew (Holds.alloc (Holds.alloc HH.out _) _) _) H1.out HN.out).mono ?_
  rintro e2 w2 ⟨b2, c2, rfl, O2, E2⟩
  have EE := hid (show Ext w w2 from Ext.trans (by (repeat with_reducible (first | exact Ext.refl _ | exact ext_alloc _ _ | refine Ext.drewN ?_ _ | refine Ext.drew1 ?_ | refine Ext.set ?_ (by dsimp only; omega) _ | refine Ext.alloc ?_ _))) E2)
  have HX0 := hid (Box.cast (b' := w.heap.size + 1) (Box.ext (Box.drewN (box_new (w := w.alloc (.cells #[.slice a n c, .float .f32 l, .float .f32 t, .float .f32 p] 27)) #[.slice none 0 0, .float .f32 0, .float .f32 0, .float .f32 0] 27) _) E2) (by simp))
  have HO := hid (Own.base O2 (B' := w.heap.size + 2) (by simp <;> omega))
  clear O2 E2
  have HI := hid (Own.block HO.out)
  go_wp2_with fail
  refine (l01Sqrt_any _ _).mono ?_
  rintro e9 w9 ⟨rr, rfl, hrr, m9, rfl⟩
  go_wp2_with fail
  go_loopw [10] (fun i wr => ∃ (u : Nat) (ys : List Nat), u ≤ n ∧ i = .int .i64 u ∧ Hid (Own wr (w.heap.size + 2) n (.slice (some ⟨b2, 0, none⟩) n c2) ys) ∧ Hid (∀ q, q < n → cls .f32 (ys.getD q 0) = if q < u then pinchAt k (cls .f32 x) (cls .f32 (zs.getD q 0)) q else cls .f32 (zs.getD q 0)) ∧ Hid (Box wr w2.heap.size #[.slice (some ⟨b2, 0, none⟩) n c2, .float .f32 l, .float .f32 t, .float .f32 p]) ∧ Hid (Box wr (w.heap.size + 1) #[.slice none 0 0, .float .f32 0, .float .f32 0, .float .f32 0]) ∧ Hid (Ext w wr)) (fun i _ => n - (intOf i).toNat)
  case atStart => exact ⟨0, zs, Nat.zero_le _, rfl, hid (Own.drewN (Own.alloc HO.out _) _), hid (fun q hq => by simp), hid (Box.drewN (box_new _ _) _), hid (Box.drewN (Box.alloc HX0.out _) _), hid (Ext.drewN (Ext.trans EE.out (ext_alloc _ _)) _)⟩
  case round =>
    obtain ⟨u, ys, hu, rfl, ho, hy, hb6, hbr, he⟩ := hrel
    have hn2 : n ≤ 1048576 := HN.out
    obtain ⟨d0, d1, d2, d3, dl⟩ := Box.cells4 hb6.out
    have hyl := hid ho.out.len
    by_cases hlt : u < n
    · have e1 := Own.cellAt ho.out u hlt
      have hf := Own.frozenAt ho.out u
      have hv := hy.out u hlt
      rw [if_neg (Nat.lt_irrefl _)] at hv
      generalize ys.getD u 0 = q at e1 hv
      replace hv := hid hv
      have hi0 : (0 : Int) ≤ (u : Int) := by omega
      have hi1 : (u : Int) < (n : Int) := by omega
      have hb2 := (HI.out b2 rfl).1
      have hne : w2.heap.size ≠ b2 := by have := (HI.out b2 rfl).2; omega
      by_cases huk : u = k
      · subst huk
        go_wp2_with fail
        refine wp_region_tail 11 (by kernel_rfl) (by kernel_rfl) (by kernel_rfl) ?_
        simp only [List.take_succ_cons, List.take_zero, List.drop_succ_cons, List.drop_zero]
        repeat (first | (refine wpM_mult0 rfl rfl ?_; refine mult_farith rfl rfl rfl rfl ?_; intro r hr hrw) | (refine wpM_quiet rfl (fun K hK => ?_); go_simp; refine hK _ ?_; clear hK K))
        refine wpM_nil ?_
        intro w3 hw3
        obtain ⟨nq, hw3⟩ := hw3
        subst hw3
        go_wp2_with fail
        have hcl := hid (show cls .f32 r = pinchAt u (cls .f32 x) (cls .f32 (zs.getD u 0)) u from by
          have h5 := hr.out
          rw [hv.out] at h5
          unfold pinchAt
          rw [if_pos rfl, h5])
        go_roundw
        case rel => exact ⟨u + 1, ys.set u r, by omega, by go_num, hid (Own.stored (Own.drewN ho.out _) u _).1, hid (pinch_step hyl.out hlt hy.out hcl.out), hid (Box.far (Box.drewN hb6.out _) hne _), hid (Box.far (Box.drewN hbr.out _) (by omega) _), hid (Ext.set (Ext.drewN he.out _) (by dsimp only; omega) _)⟩
        case measure => simp [intOf]; omega
      have huI : ¬ ((u : Int) = (k : Int)) := by omega
      by_cases hnb : u + 1 = k ∨ u = k + 1
      · go_wp2_with (go_at_call 59; refine (l00In_yes _ _ _ (by omega) (by omega) _).mono ?_; rintro e w' ⟨rfl, rfl⟩)
        go_wp2_with fail
        refine wp_region_tail 11 (by kernel_rfl) (by kernel_rfl) (by kernel_rfl) ?_
        simp only [List.take_succ_cons, List.take_zero, List.drop_succ_cons, List.drop_zero]
        repeat (first | (refine wpM_mult0 rfl rfl ?_; refine mult_farith rfl rfl rfl rfl ?_; intro r hr hrw) | (refine wpM_quiet rfl (fun K hK => ?_); go_simp; refine hK _ ?_; clear hK K))
        refine wpM_nil ?_
        intro w3 hw3
        obtain ⟨nq, hw3⟩ := hw3
        subst hw3
        go_wp2_with fail
        have hcl := hid (show cls .f32 r = pinchAt k (cls .f32 x) (cls .f32 (zs.getD u 0)) u from by
          have h5 := hr.out
          rw [hv.out] at h5
          unfold pinchAt
          rw [if_neg huk, if_pos hnb, h5, hrr.out]; rfl)
        go_roundw
        case rel => exact ⟨u + 1, ys.set u r, by omega, by go_num, hid (Own.stored (Own.drewN ho.out _) u _).1, hid (pinch_step hyl.out hlt hy.out hcl.out), hid (Box.far (Box.drewN hb6.out _) hne _), hid (Box.far (Box.drewN hbr.out _) (by omega) _), hid (Ext.set (Ext.drewN he.out _) (by dsimp only; omega) _)⟩
        case measure => simp [intOf]; omega
      · go_wp2_with (go_at_call 59; refine (l00In_no _ _ _ (by omega) _).mono ?_; rintro e w' ⟨rfl, rfl⟩)
        go_roundw
        case rel => exact ⟨u + 1, ys, by omega, by go_num, ho, hid (pinch_skip hy.out huk hnb), hb6, hbr, he⟩
        case measure => simp [intOf]; omega
    · have hun : u = n := by omega
      subst hun
      have hsc := hid (pinch_of (i := k) (X := cls .f32 x) hyl.out HL.out (fun q hq => by have := hy.out q hq; rwa [if_pos hq] at this))
      go_wp2_with fail
      refine (l02Give_any _ _ _ _ _ _ _ ys _ ho.out HN.out).mono ?_
      rintro e3 w3 ⟨v, rfl, hT, E3⟩
      rw [hsc.out, HE.out] at hT ⊢
      have EE3 := hid (Ext.trans he.out E3)
      have HX := hid (Box.ext hbr.out E3)
      obtain ⟨ra, rc, rl, rt, rp, rz, rfl, rO, re⟩ := hT
      have HT := hid (show TubeIs w3 (w.heap.size + 2) R (.agg #[.slice ra R.cs.length rc, .float .f32 rl, .float .f32 rt, .float .f32 rp]) from ⟨ra, rc, rl, rt, rp, rz, rfl, rO, re⟩)
      clear rO re E3
      obtain ⟨y0, y1, y2, y3, yf0, yf1, yf2, yf3, yl⟩ := Box.all4 HX.out
      go_wp2_with fail
      clear y0 y1 y2 y3 yf0 yf1 yf2 yf3 yl
      refine bodyPost_ret (ret_cell2 Try.results16 rfl (box_set4 HX.out _ _ _ _) Try.underlying27 infoT) rfl ?_
      exact ⟨_, rfl, TubeIs.base (TubeIs.far4 HT.out (by omega) _ _ _ _) (by omega), ext_set4 EE3.out (by omega) _ _ _ _⟩

end Go.Proofs.Ytogjehlepdapoab