/- Tunes with one accent more. -/
import Derived.Test.YthinjgiakaflpabAMov
import Derived.Deep.RegionLawGrows
import Derived.Test.YthinjgiakaflpabV3
namespace Go.Proofs.Ythinjgiakaflpab
open Go.RowKit Flt
set_option linter.unusedVariables false



def addU (b f r : Option Nat) (ys : List Nat) (n u0 u1 u2 : Nat) : UR := giveU b f r (ys ++ [u0, u1, u2]) (n + 1)
theorem addU_len (b f r : Option Nat) (ys : List Nat) (n u0 u1 u2 : Nat) : (addU b f r ys n u0 u1 u2).n ≤ 8 := giveU_len _ _ _ _ _
theorem accs_less {ys : List Nat} {n u0 u1 u2 : Nat} (hl : ys.length = n * 3) (h : accsB (ys ++ [u0, u1, u2]) (n + 1) = true) : accsB ys n = true := by
  refine accs_good (fun k hk => ?_)
  unfold accsB at h
  rw [List.all_eq_true] at h
  have h9 := h k (List.mem_range.2 (by omega))
  have e : ∀ j, j < n * 3 → (ys ++ [u0, u1, u2]).getD j 0 = ys.getD j 0 := by
    intro j hj
    rw [List.getD_eq_getElem?_getD, List.getD_eq_getElem?_getD, List.getElem?_append_left (by omega)]
  rw [e _ (by omega), e _ (by omega), e _ (by omega)] at h9
  exact h9
theorem add_no {b f r : Option Nat} {ys : List Nat} {n u0 u1 u2 : Nat} (hl : ys.length = n * 3) (h : tuneV b f r ys n = false) : addU b f r ys n u0 u1 u2 = zeroU := by
  unfold addU giveU
  rw [if_neg]
  intro h2
  unfold tuneV at h h2
  simp at h2
  obtain ⟨h3, h4, h5, h6, h7⟩ := h2
  rw [accs_less hl h7] at h
  have h8 : n ≤ 8 := by omega
  simp [h8, h4, h5, h6] at h

set_option maxHeartbeats 4000000 in
set_option maxRecDepth 100000 in
theorem validTune_is2 (b f r : Nat) (a : Option Addr) (n c : Nat) (ys : List Nat) (V : Bool) (w : World) (h : HoldsA w a n ys) (hn : n ≤ 2097152) (hV : tuneV (cls .f32 b) (cls .f32 f) (cls .f32 r) ys n = V) :
    Calls Try.prog 131 #[.agg #[.float .f32 b, .float .f32 f, .float .f32 r, .slice a n c]] w fun e w' => e = .returned (.bool V) ∧ Ext w w' := by
  have HH := hid h
  have HN := hid hn
  have HV := hid hV
  clear h hn hV
  go_enter Try.func131, Try.ntmps131
  go_wp2
  go_loopw [8] (fun i wr => ∃ (k : Nat), k ≤ n ∧ i = .int .i64 k ∧ Hid (∀ q, q < k → accC (cls .f32 (ys.getD (q * 3) 0)) (cls .f32 (ys.getD (q * 3 + 1) 0)) (cls .f32 (ys.getD (q * 3 + 2) 0)) = true) ∧ Hid (Ext (w.alloc (.cells #[.float .f32 b, .float .f32 f, .float .f32 r, .slice a n c] 31)) wr)) (fun i _ => n - (intOf i).toNat)
  case atStart => exact ⟨0, Nat.zero_le _, rfl, hid (fun q hq => absurd hq (Nat.not_lt_zero _)), hid (Ext.refl _)⟩
  case round =>
    obtain ⟨k, hk, rfl, hr, he⟩ := hrel
    have hn2 : n ≤ 2097152 := HN.out
    by_cases hlt : k < n
    · obtain ⟨_, h0 | ⟨g, off, rfl, hbl, hcell⟩⟩ := HoldsA.ext HH.out (Ext.trans (ext_alloc _ _) he.out)
      · omega
      obtain ⟨e0, e1, e2⟩ := hcell k hlt
      clear hcell
      cases hA : accC (cls .f32 (ys.getD (k * 3) 0)) (cls .f32 (ys.getD (k * 3 + 1) 0)) (cls .f32 (ys.getD (k * 3 + 2) 0))
      · have HB := hid (tune_accs (b := cls .f32 b) (f := cls .f32 f) (r := cls .f32 r) (accs_bad hlt hA))
        generalize ys.getD (k * 3) 0 = x at e0 hA
        generalize ys.getD (k * 3 + 1) 0 = y at e1 hA
        generalize ys.getD (k * 3 + 2) 0 = z at e2 hA
        have hi0 : (0 : Int) ≤ (k : Int) := by omega
        have hi1 : (k : Int) < (n : Int) := by omega
        go_wp2_with (go_at_call 159; with_reducible refine (isAccent_any x y z _).mono ?_; rintro e w' ⟨rfl, m, rfl⟩; rw [hA])
        go_ret
        exact ⟨by rw [← HV.out, HB.out]; rfl, Ext.trans (ext_alloc _ _) (Ext.trans he.out (by (repeat with_reducible (first | exact Ext.refl _ | exact ext_alloc _ _ | refine Ext.drewN ?_ _ | refine Ext.drew1 ?_ | refine Ext.set ?_ (by dsimp only; omega) _ | refine Ext.alloc ?_ _))))⟩
      · have HG := hid (upto_succ (P := fun q => accC (cls .f32 (ys.getD (q * 3) 0)) (cls .f32 (ys.getD (q * 3 + 1) 0)) (cls .f32 (ys.getD (q * 3 + 2) 0)) = true) hr.out hA)
        generalize ys.getD (k * 3) 0 = x at e0 hA
        generalize ys.getD (k * 3 + 1) 0 = y at e1 hA
        generalize ys.getD (k * 3 + 2) 0 = z at e2 hA
        have hi0 : (0 : Int) ≤ (k : Int) := by omega
        have hi1 : (k : Int) < (n : Int) := by omega
        go_wp2_with (go_at_call 159; with_reducible refine (isAccent_any x y z _).mono ?_; rintro e w' ⟨rfl, m, rfl⟩; rw [hA])
        go_roundw
        case rel => exact ⟨k + 1, by omega, by go_num, HG, hid (Ext.trans he.out (by (repeat with_reducible (first | exact Ext.refl _ | exact ext_alloc _ _ | refine Ext.drewN ?_ _ | refine Ext.drew1 ?_ | refine Ext.set ?_ (by dsimp only; omega) _ | refine Ext.alloc ?_ _))))⟩
        case measure => simp [intOf]; omega
    · have hkn : k = n := by omega
      subst hkn
      have hVV : V = (decide (k ≤ 8) && (areaC (cls .f32 b) && (shareC (cls .f32 f) && fin32 (cls .f32 r)))) := by
        rw [← HV.out]; unfold tuneV; rw [accs_good hr.out, Bool.and_true]
      obtain ⟨d0, d1, d2, d3, dl⟩ := Box.cells4 (Box.ext (box_new (w := w) #[.float .f32 b, .float .f32 f, .float .f32 r, .slice a k c] 31) he.out)
      have EX := hid (Ext.trans (ext_alloc w (.cells #[.float .f32 b, .float .f32 f, .float .f32 r, .slice a k c] 31)) he.out)
      clear HV hr he
      by_cases h8 : k ≤ 8
      rotate_left
      · have e : V = false := by rw [hVV, decide_eq_false h8]; rfl
        subst e
        clear hVV
        go_wp2_with fail
        go_ret
        exact ⟨ret_bool (by first | rfl | (simp; done) | (simp; omega)), EX.out⟩
      rw [decide_eq_true h8, Bool.true_and] at hVV
      cases hB : areaC (cls .f32 b)
      · have e : V = false := by rw [hVV, hB]; rfl
        subst e
        clear hVV
        go_wp2_with (first | (go_at_call 126; with_reducible refine (isExtent_any b _).mono ?_; rintro e w' ⟨rfl, m1, rfl⟩; rw [hB]))
        go_ret
        exact ⟨ret_bool (by first | rfl | (simp; done) | (simp; omega)), Ext.trans EX.out (by (repeat with_reducible (first | exact Ext.refl _ | exact ext_alloc _ _ | refine Ext.drewN ?_ _ | refine Ext.drew1 ?_ | refine Ext.set ?_ (by dsimp only; omega) _ | refine Ext.alloc ?_ _)))⟩
      cases hF : shareC (cls .f32 f)
      · have e : V = false := by rw [hVV, hB, hF]; rfl
        subst e
        clear hVV
        go_wp2_with (first | (go_at_call 126; with_reducible refine (isExtent_any b _).mono ?_; rintro e w' ⟨rfl, m1, rfl⟩; rw [hB]) | (go_at_call 142; with_reducible refine (isShare_any f _).mono ?_; rintro e w' ⟨rfl, rfl⟩; rw [hF]))
        go_ret
        exact ⟨ret_bool (by first | rfl | (simp; done) | (simp; omega)), Ext.trans EX.out (by (repeat with_reducible (first | exact Ext.refl _ | exact ext_alloc _ _ | refine Ext.drewN ?_ _ | refine Ext.drew1 ?_ | refine Ext.set ?_ (by dsimp only; omega) _ | refine Ext.alloc ?_ _)))⟩
      cases hR : fin32 (cls .f32 r)
      · have e : V = false := by rw [hVV, hB, hF, hR]; rfl
        subst e
        clear hVV
        go_wp2_with (first | (go_at_call 126; with_reducible refine (isExtent_any b _).mono ?_; rintro e w' ⟨rfl, m1, rfl⟩; rw [hB]) | (go_at_call 142; with_reducible refine (isShare_any f _).mono ?_; rintro e w' ⟨rfl, rfl⟩; rw [hF]) | (go_at_call 104; with_reducible refine (isFinite_any r _).mono ?_; rintro e w' ⟨rfl, m, rfl⟩; rw [hR]))
        go_ret
        exact ⟨ret_bool (by first | rfl | (simp; done) | (simp; omega)), Ext.trans EX.out (by (repeat with_reducible (first | exact Ext.refl _ | exact ext_alloc _ _ | refine Ext.drewN ?_ _ | refine Ext.drew1 ?_ | refine Ext.set ?_ (by dsimp only; omega) _ | refine Ext.alloc ?_ _)))⟩
      · have e : V = true := by rw [hVV, hB, hF, hR]; rfl
        subst e
        clear hVV
        go_wp2_with (first | (go_at_call 126; with_reducible refine (isExtent_any b _).mono ?_; rintro e w' ⟨rfl, m1, rfl⟩; rw [hB]) | (go_at_call 142; with_reducible refine (isShare_any f _).mono ?_; rintro e w' ⟨rfl, rfl⟩; rw [hF]) | (go_at_call 104; with_reducible refine (isFinite_any r _).mono ?_; rintro e w' ⟨rfl, m, rfl⟩; rw [hR]))
        go_ret
        exact ⟨ret_bool (by first | rfl | (simp; done) | (simp; omega)), Ext.trans EX.out (by (repeat with_reducible (first | exact Ext.refl _ | exact ext_alloc _ _ | refine Ext.drewN ?_ _ | refine Ext.drew1 ?_ | refine Ext.set ?_ (by dsimp only; omega) _ | refine Ext.alloc ?_ _)))⟩

set_option maxHeartbeats 2000000 in
theorem validTuneOnly_any2 (b f r : Nat) (a : Option Addr) (n c B : Nat) (ys : List Nat) (w : World) (h : OwnA w B n (.slice a n c) ys) (hn : n ≤ 2097152) :
    Calls Try.prog 79 #[.agg #[.float .f32 b, .float .f32 f, .float .f32 r, .slice a n c]] w fun e w' => ∃ v, e = .returned (.tuple #[v, .bool (giveU (cls .f32 b) (cls .f32 f) (cls .f32 r) ys n).ok]) ∧ TuneIs w' B (giveU (cls .f32 b) (cls .f32 f) (cls .f32 r) ys n) v ∧ Ext w w' := by
  have HH := hid h
  have HN := hid hn
  have HD := hid (ownA_hold h)
  clear h hn
  obtain ⟨V, hV⟩ : ∃ V, tuneV (cls .f32 b) (cls .f32 f) (cls .f32 r) ys n = V := ⟨_, rfl⟩
  have HV := hid hV
  have HG := hid (show V = false → giveU (cls .f32 b) (cls .f32 f) (cls .f32 r) ys n = zeroU from fun h => by unfold giveU; rw [hV, h]; rfl)
  have HK := hid (show V = true → (giveU (cls .f32 b) (cls .f32 f) (cls .f32 r) ys n).ok = true from fun h => by unfold giveU; rw [hV, h]; rfl)
  clear hV
  cases V
  all_goals
    go_enter Try.func79, Try.ntmps79
    go_wp2_with fail
    refine (validTune_is2 b f r a n c ys _ _ (HoldsA.ext HD.out (by (repeat with_reducible (first | exact Ext.refl _ | exact ext_alloc _ _ | refine Ext.drewN ?_ _ | refine Ext.drew1 ?_ | refine Ext.set ?_ (by dsimp only; omega) _ | refine Ext.alloc ?_ _)))) HN.out HV.out).mono ?_
    rintro e w1 ⟨rfl, E1⟩
    have BA := hid (Box.ext (Box.alloc (box_new (w := w) #[.float .f32 b, .float .f32 f, .float .f32 r, .slice a n c] 31) _) E1)
    have BR := hid (Box.cast (b' := w.heap.size + 1) (Box.ext (box_new (w := (w.alloc (.cells #[.float .f32 b, .float .f32 f, .float .f32 r, .slice a n c] 31))) #[.float .f32 0, .float .f32 0, .float .f32 0, .slice none 0 0] 31) E1) (by simp))
    have EX := hid (show Ext w w1 from Ext.trans (by (repeat with_reducible (first | exact Ext.refl _ | exact ext_alloc _ _ | refine Ext.drewN ?_ _ | refine Ext.drew1 ?_ | refine Ext.set ?_ (by dsimp only; omega) _ | refine Ext.alloc ?_ _))) E1)
    clear E1
    obtain ⟨d0, d1, d2, d3, dl⟩ := Box.cells4 BA.out
    obtain ⟨z0, z1, z2, z3, zf0, zf1, zf2, zf3, zl⟩ := Box.all4 BR.out
    go_wp2_with fail
    clear d0 d1 d2 d3 dl z0 z1 z2 z3 zf0 zf1 zf2 zf3 zl
    refine bodyPost_ret (ret_cell2 Try.results79 rfl (box_set4 BR.out _ _ _ _) Try.underlying31 infoTu) rfl ?_
  · rw [HG.out (by first | rfl | trivial)]
    exact ⟨_, rfl, zeroU_is _ _, ext_set4 EX.out (by omega) _ _ _ _⟩
  · rw [HK.out (by first | rfl | trivial)]
    have hne : ∀ k, (Value.slice a n c).ownBlock = some k → k < w.heap.size := fun k hk => (OwnA.block HH.out k hk).2
    refine ⟨_, rfl, ?_, ext_set4 EX.out (by omega) _ _ _ _⟩
    have h9 := OwnA.but4 (OwnA.ext HH.out EX.out) (x := w.heap.size + 1) (fun hk => by have := hne _ hk; omega) (.float .f32 b) (.float .f32 f) (.float .f32 r) (.slice a n c)
    exact giveU_yes HV.out h9


set_option maxHeartbeats 2000000 in
theorem clipA_any (g off n : Nat) (w : World) (hn : n ≤ 2097152) :
    Calls Try.prog 78 #[.slice (some ⟨g, off, none⟩) n n] w fun e w' => e = .returned (.slice (some ⟨g, off, none⟩) n n) ∧ w = w' := by
  go_enter Try.func78, Try.ntmps78
  go_wp2
  go_ret
  exact ⟨rfl, rfl⟩



set_option maxHeartbeats 4000000 in
set_option maxRecDepth 100000 in
theorem add_any (b f r u0 u1 u2 g n : Nat) (ys : List Nat) (R : UR) (w : World) (h : HoldsA w (some ⟨g, 0, none⟩) n ys) (hn : n ≤ 1048576) (hR : addU (cls .f32 b) (cls .f32 f) (cls .f32 r) ys n u0 u1 u2 = R) :
    Calls Try.prog 19 #[.agg #[.float .f32 b, .float .f32 f, .float .f32 r, .slice (some ⟨g, 0, none⟩) n n], .agg #[.float .f32 u0, .float .f32 u1, .float .f32 u2]] w fun e w' => ∃ v, e = .returned (.tuple #[v, .bool R.ok]) ∧ TuneIs w' w.heap.size R v ∧ Ext w w' := by
  obtain ⟨i0, hi, hz0, hz1, hz2⟩ := info_partsA
  have HI := hid (And.intro hi (And.intro hz0 (And.intro hz1 hz2)))
  have HN := hid hn
  have HR := hid hR
  have HL := hid h.1
  have HC := hid (fun (u : World) (e : Ext w u) => show ∀ j v, (ys.map (Value.float .f32))[j]? = some v → u.cell? ((⟨g, 0, none⟩ : Addr).add j) = some v from by
    rcases Nat.eq_zero_or_pos n with h0 | hp
    · subst h0
      have := holdsA_zero h
      subst this
      intro j v hv; simp at hv
    · exact HoldsA.flat (w := u) (b := g) (off := 0) h.1 (fun i hi => (HoldsA.ext h e).2.elim (fun h => by omega) (fun ⟨b2, off2, e2, _, hc2⟩ => by cases e2; exact hc2 i hi)))
  clear hi hz0 hz1 hz2 h hn hR
  go_enter Try.func19, Try.ntmps19
  go_wp2_with fail
  obtain ⟨w0, hw0⟩ : ∃ u, u = ((w.alloc (.cells #[.float .f32 b, .float .f32 f, .float .f32 r, .slice (some ⟨g, 0, none⟩) n n] 31)).alloc (.cells #[.float .f32 u0, .float .f32 u1, .float .f32 u2] 35)).alloc (.cells #[.float .f32 0, .float .f32 0, .float .f32 0, .slice none 0 0] 31) := ⟨_, rfl⟩
  have BA := hid (show Box w0 w.heap.size #[.float .f32 b, .float .f32 f, .float .f32 r, .slice (some ⟨g, 0, none⟩) n n] from by rw [hw0]; exact Box.alloc (Box.alloc (box_new (w := w) #[.float .f32 b, .float .f32 f, .float .f32 r, .slice (some ⟨g, 0, none⟩) n n] 31) _) _)
  have BB := hid (show Box w0 (w.heap.size + 1) #[.float .f32 u0, .float .f32 u1, .float .f32 u2] from by rw [hw0]; exact Box.alloc (Box.cast (box_new (w := (w.alloc (.cells #[.float .f32 b, .float .f32 f, .float .f32 r, .slice (some ⟨g, 0, none⟩) n n] 31))) #[.float .f32 u0, .float .f32 u1, .float .f32 u2] 35) (by simp)) _)
  have BR := hid (show Box w0 (w.heap.size + 2) #[.float .f32 0, .float .f32 0, .float .f32 0, .slice none 0 0] from by rw [hw0]; exact Box.cast (box_new (w := ((w.alloc (.cells #[.float .f32 b, .float .f32 f, .float .f32 r, .slice (some ⟨g, 0, none⟩) n n] 31)).alloc (.cells #[.float .f32 u0, .float .f32 u1, .float .f32 u2] 35))) #[.float .f32 0, .float .f32 0, .float .f32 0, .slice none 0 0] 31) (by simp))
  have EX := hid (show Ext w w0 from by rw [hw0]; (repeat with_reducible (first | exact Ext.refl _ | exact ext_alloc _ _ | refine Ext.drewN ?_ _ | refine Ext.drew1 ?_ | refine Ext.set ?_ (by dsimp only; omega) _ | refine Ext.alloc ?_ _)))
  have HZ := hid (show w.heap.size + 3 = w0.heap.size from by rw [hw0]; simp)
  rw [← hw0]
  clear hw0
  obtain ⟨d0, d1, d2, d3, df0, df1, df2, df3, dl⟩ := Box.all4 BA.out
  obtain ⟨a0, a1, a2, af0, af1, af2, al⟩ := Box.all3 BB.out
  go_region_law (first | (go_simp; with_reducible refine (clipA_any g 0 n _ (by have := HN.out; omega)).mono ?_; rintro e w' ⟨rfl, rfl⟩; go_simp) | (refine step_append_grows rfl _ _ 29 rfl 35 i0 (.agg #[.float .f32 0, .float .f32 0, .float .f32 0]) 3 12 Try.underlying29 HI.out.1 HI.out.2.1 HI.out.2.2.1 HI.out.2.2.2 rfl (by decide) (some ⟨g, 0, none⟩) n n (ys.map (Value.float .f32)) rfl (by intro h; cases h) (by have := HL.out; simp [this]) (fun b hb j u hu => by cases hb; exact HC.out _ (Ext.trans EX.out (by (repeat with_reducible (first | exact Ext.refl _ | exact ext_alloc _ _ | refine Ext.drewN ?_ _ | refine Ext.drew1 ?_ | refine Ext.set ?_ (by dsimp only; omega) _ | refine Ext.alloc ?_ _)))) j u hu) ⟨w0.heap.size, 0, none⟩ 1 1 [.float .f32 u0, .float .f32 u1, .float .f32 u2] rfl rfl (World.news_of_block (heap_alloc_new _ _)) (by intro u hu; simp at hu; rcases hu with rfl | rfl | rfl <;> rfl) (by omega) (by have := HN.out; unfold maxLen; omega) (by have := HN.out; omega) ?_; intro v' w1 hown hgrow; obtain ⟨g', cap, rfl, hbg, hlt⟩ := hown.form (by omega); have E1 : Ext w0 w1 := But.below hgrow (by (repeat with_reducible (first | exact Ext.refl _ | exact ext_alloc _ _ | refine Ext.drewN ?_ _ | refine Ext.drew1 ?_ | refine Ext.set ?_ (by dsimp only; omega) _ | refine Ext.alloc ?_ _))) (fun k hk => by cases hk); obtain ⟨r0, r1, r2, r3, rf0, rf1, rf2, rf3, rl⟩ := Box.all4 (Box.ext BA.out E1)))
  all_goals
    have HO := hid (show OwnA w1 (w.heap.size + 3) (n + 1) (.slice (some ⟨g', 0, none⟩) (n + 1) cap) (ys ++ [u0, u1, u2]) from OwnA.base (by simpa [OwnA] using hown) (by have := HZ.out; simp; omega))
    have BR2 := hid (Box.far (Box.ext BR.out E1) (b' := w.heap.size) (by omega) (j := 3) (.slice (some ⟨g', 0, none⟩) (n + 1) cap))
    have EY := hid (Ext.set (p := ⟨w.heap.size, 3, none⟩) (Ext.trans EX.out E1) (Nat.le_refl _) (.slice (some ⟨g', 0, none⟩) (n + 1) cap))
    clear hown hgrow hbg hlt E1 d0 d1 d2 d3 df0 df1 df2 df3 dl a0 a1 a2 af0 af1 af2 al
    go_wp2_with fail
    clear r0 r1 r2 r3 rf0 rf1 rf2 rf3 rl
    refine (validTuneOnly_any2 b f r _ (n + 1) cap (w.heap.size + 3) (ys ++ [u0, u1, u2]) _ (OwnA.far HO.out (by omega) _ _) (by have := HN.out; omega)).mono ?_
    rintro e w3 ⟨v, rfl, ht, E3⟩
    rw [show giveU (cls .f32 b) (cls .f32 f) (cls .f32 r) (ys ++ [u0, u1, u2]) (n + 1) = R from HR.out] at ht ⊢
    obtain ⟨vb, vf, vr, va, vc, rfl, hrest⟩ := ht
    have HT := hid (show TuneIs w3 (w.heap.size + 3) R (.agg #[.float .f32 vb, .float .f32 vf, .float .f32 vr, .slice va R.n vc]) from ⟨vb, vf, vr, va, vc, rfl, hrest⟩)
    have BR4 := hid (Box.ext BR2.out E3)
    have EV := hid (Ext.trans EY.out E3)
    clear hrest E3 BR2 EY
    obtain ⟨z0, z1, z2, z3, zf0, zf1, zf2, zf3, zl⟩ := Box.all4 BR4.out
    go_wp2_with fail
    clear z0 z1 z2 z3 zf0 zf1 zf2 zf3 zl
    refine bodyPost_ret (ret_cell2 Try.results19 rfl (box_set4 BR4.out _ _ _ _) Try.underlying31 infoTu) rfl ?_
    exact ⟨_, rfl, TuneIs.base (TuneIs.far4 HT.out (by omega) _ _ _ _) (by omega), ext_set4 EV.out (by omega) _ _ _ _⟩



theorem OwnA.but1 {w : World} {B n x j : Nat} {v : Value} {zs : List Nat} (h : OwnA w B n v zs) (hb : v.ownBlock ≠ some x) (u : Value) : OwnA (w.setCell ⟨x, j, none⟩ u) B n v zs := by
  refine ⟨h.1, ?_⟩
  rcases h.2 with h0 | ⟨g, cap, cur, rfl, hg1, hg, hr⟩
  · exact .inl h0
  · refine .inr ⟨g, cap, cur, rfl, hg1, ?_, hr⟩
    rw [heap_setCell_other w ⟨x, j, none⟩ g u (by intro h9; exact hb (by simp at h9; rw [← h9]; rfl))]; exact hg

set_option maxHeartbeats 4000000 in
set_option maxRecDepth 100000 in
theorem sAdd_any (b f r u0 u1 u2 : Nat) (a : Option Addr) (n c : Nat) (ys : List Nat) (R : UR) (w : World) (h : HoldsA w a n ys) (hn : n ≤ 1048576) (hR : addU (cls .f32 b) (cls .f32 f) (cls .f32 r) ys n u0 u1 u2 = R) :
    Calls Try.prog 16 #[.agg #[.float .f32 b, .float .f32 f, .float .f32 r, .slice a n c], .agg #[.float .f32 u0, .float .f32 u1, .float .f32 u2]] w fun e w' => ∃ v, e = .returned (.tuple #[v, .bool R.ok]) ∧ TuneIs w' w.heap.size R v ∧ Ext w w' := by
  obtain ⟨i0, hi, hz0, hz1, hz2⟩ := info_partsA
  have HI := hid (And.intro hi (And.intro hz0 (And.intro hz1 hz2)))
  have HH := hid h
  have HN := hid hn
  have HR := hid hR
  have HL := hid h.1
  clear h hn hR hi hz0 hz1 hz2
  cases hV : tuneV (cls .f32 b) (cls .f32 f) (cls .f32 r) ys n
  · have HV := hid hV
    have HQ := hid (show zeroU = R from by rw [← HR.out, add_no HL.out hV])
    clear hV
    go_enter Try.func16, Try.ntmps16
    go_wp2_with fail
    obtain ⟨w1, hw1⟩ : ∃ u, u = ((w.alloc (.cells #[.float .f32 b, .float .f32 f, .float .f32 r, .slice a n c] 31)).alloc (.cells #[.float .f32 u0, .float .f32 u1, .float .f32 u2] 35)).alloc (.cells #[.float .f32 0, .float .f32 0, .float .f32 0, .slice none 0 0] 31) := ⟨_, rfl⟩
    have BA := hid (show Box w1 w.heap.size #[.float .f32 b, .float .f32 f, .float .f32 r, .slice a n c] from by rw [hw1]; exact Box.alloc (Box.alloc (box_new (w := w) #[.float .f32 b, .float .f32 f, .float .f32 r, .slice a n c] 31) _) _)
    have BB := hid (show Box w1 (w.heap.size + 1) #[.float .f32 u0, .float .f32 u1, .float .f32 u2] from by rw [hw1]; exact Box.alloc (Box.cast (box_new (w := (w.alloc (.cells #[.float .f32 b, .float .f32 f, .float .f32 r, .slice a n c] 31))) #[.float .f32 u0, .float .f32 u1, .float .f32 u2] 35) (by simp)) _)
    have BR := hid (show Box w1 (w.heap.size + 2) #[.float .f32 0, .float .f32 0, .float .f32 0, .slice none 0 0] from by rw [hw1]; exact Box.cast (box_new (w := ((w.alloc (.cells #[.float .f32 b, .float .f32 f, .float .f32 r, .slice a n c] 31)).alloc (.cells #[.float .f32 u0, .float .f32 u1, .float .f32 u2] 35))) #[.float .f32 0, .float .f32 0, .float .f32 0, .slice none 0 0] 31) (by simp))
    have EX := hid (show Ext w w1 from by rw [hw1]; (repeat with_reducible (first | exact Ext.refl _ | exact ext_alloc _ _ | refine Ext.drewN ?_ _ | refine Ext.drew1 ?_ | refine Ext.set ?_ (by dsimp only; omega) _ | refine Ext.alloc ?_ _)))
    have HZ := hid (show w.heap.size + 3 = w1.heap.size from by rw [hw1]; simp)
    rw [← hw1]
    clear hw1
    refine (l06Tune_drew _ b f r a n c ys _ _ BA.out (HoldsA.ext HH.out EX.out) HN.out HV.out).mono ?_
    rintro e w2 ⟨rfl, m1, rfl⟩
    have BR2 := hid (Box.ext BR.out (show Ext w1 (w1.drewN m1) from by (repeat with_reducible (first | exact Ext.refl _ | exact ext_alloc _ _ | refine Ext.drewN ?_ _ | refine Ext.drew1 ?_ | refine Ext.set ?_ (by dsimp only; omega) _ | refine Ext.alloc ?_ _))))
    obtain ⟨z0, z1, z2, z3, zf0, zf1, zf2, zf3, zl⟩ := Box.all4 BR2.out
    go_wp2_with fail
    clear z0 z1 z2 z3 zf0 zf1 zf2 zf3 zl
    refine bodyPost_ret (ret_cell2 Try.results16 rfl (box_set4 BR2.out _ _ _ _) Try.underlying31 infoTu) rfl ?_
    refine ⟨_, by rw [← HQ.out]; rfl, ?_, ext_set4 (Ext.drewN EX.out _) (by omega) _ _ _ _⟩
    rw [← HQ.out]
    exact zeroU_is _ _
  · have HV := hid hV
    have H8 := hid (show n ≤ 8 from by unfold tuneV at hV; simp at hV; exact hV.1)
    clear hV
    go_enter Try.func16, Try.ntmps16
    go_wp2_with fail
    obtain ⟨w1, hw1⟩ : ∃ u, u = ((w.alloc (.cells #[.float .f32 b, .float .f32 f, .float .f32 r, .slice a n c] 31)).alloc (.cells #[.float .f32 u0, .float .f32 u1, .float .f32 u2] 35)).alloc (.cells #[.float .f32 0, .float .f32 0, .float .f32 0, .slice none 0 0] 31) := ⟨_, rfl⟩
    have BA := hid (show Box w1 w.heap.size #[.float .f32 b, .float .f32 f, .float .f32 r, .slice a n c] from by rw [hw1]; exact Box.alloc (Box.alloc (box_new (w := w) #[.float .f32 b, .float .f32 f, .float .f32 r, .slice a n c] 31) _) _)
    have BB := hid (show Box w1 (w.heap.size + 1) #[.float .f32 u0, .float .f32 u1, .float .f32 u2] from by rw [hw1]; exact Box.alloc (Box.cast (box_new (w := (w.alloc (.cells #[.float .f32 b, .float .f32 f, .float .f32 r, .slice a n c] 31))) #[.float .f32 u0, .float .f32 u1, .float .f32 u2] 35) (by simp)) _)
    have BR := hid (show Box w1 (w.heap.size + 2) #[.float .f32 0, .float .f32 0, .float .f32 0, .slice none 0 0] from by rw [hw1]; exact Box.cast (box_new (w := ((w.alloc (.cells #[.float .f32 b, .float .f32 f, .float .f32 r, .slice a n c] 31)).alloc (.cells #[.float .f32 u0, .float .f32 u1, .float .f32 u2] 35))) #[.float .f32 0, .float .f32 0, .float .f32 0, .slice none 0 0] 31) (by simp))
    have EX := hid (show Ext w w1 from by rw [hw1]; (repeat with_reducible (first | exact Ext.refl _ | exact ext_alloc _ _ | refine Ext.drewN ?_ _ | refine Ext.drew1 ?_ | refine Ext.set ?_ (by dsimp only; omega) _ | refine Ext.alloc ?_ _)))
    have HZ := hid (show w.heap.size + 3 = w1.heap.size from by rw [hw1]; simp)
    rw [← hw1]
    clear hw1
    refine (l06Tune_drew _ b f r a n c ys _ _ BA.out (HoldsA.ext HH.out EX.out) HN.out HV.out).mono ?_
    rintro e w2 ⟨rfl, m1, rfl⟩
    go_wp2_with fail
    refine (l06OwnTune_any w.heap.size b f r a n c ys _ (Box.ext BA.out (by (repeat with_reducible (first | exact Ext.refl _ | exact ext_alloc _ _ | refine Ext.drewN ?_ _ | refine Ext.drew1 ?_ | refine Ext.set ?_ (by dsimp only; omega) _ | refine Ext.alloc ?_ _)))) (HoldsA.ext HH.out (Ext.trans EX.out (by (repeat with_reducible (first | exact Ext.refl _ | exact ext_alloc _ _ | refine Ext.drewN ?_ _ | refine Ext.drew1 ?_ | refine Ext.set ?_ (by dsimp only; omega) _ | refine Ext.alloc ?_ _))))) HN.out).mono ?_
    rintro e w3 ⟨a', c', rfl, ho, E2⟩
    have E3 : Ext w1 w3 := Ext.trans (by (repeat with_reducible (first | exact Ext.refl _ | exact ext_alloc _ _ | refine Ext.drewN ?_ _ | refine Ext.drew1 ?_ | refine Ext.set ?_ (by dsimp only; omega) _ | refine Ext.alloc ?_ _))) E2
    have EY := hid (Ext.trans EX.out E3)
    have BR2 := hid (Box.ext BR.out E3)
    have BB2 := hid (Box.ext BB.out E3)
    have HO := hid (OwnA.base ho (B' := w.heap.size + 3) (by have h9 := HZ.out; first | (simp; omega) | omega))
    have HZ2 := hid (show w.heap.size + 3 ≤ w3.heap.size from by have h9 := HZ.out; have h8 := Ext.size E3; omega)
    clear ho E2 E3 EX BA BR BB HZ
    obtain ⟨a0, a1, a2, af0, af1, af2, al⟩ := Box.all3 BB2.out
    have hz2 := HZ2.out
    have NW := hid (show ∀ j u, [Value.float .f32 u0, Value.float .f32 u1, Value.float .f32 u2][j]? = some u → ((w3.alloc (.cells #[.float .f32 b, .float .f32 f, .float .f32 r, .slice a' n c'] 31)).alloc (.cells #[.float .f32 u0, .float .f32 u1, .float .f32 u2] 35)).cell? ((⟨w3.heap.size + 1, 0, none⟩ : Addr).add j) = some u from World.news_of_block (by have h9 := heap_alloc_new (w3.alloc (.cells #[.float .f32 b, .float .f32 f, .float .f32 r, .slice a' n c'] 31)) (.cells #[.float .f32 u0, .float .f32 u1, .float .f32 u2] 35); simpa using h9))
    go_wp2_with (at_builtin; refine wpList_append_lies _ rfl _ _ 29 rfl (w.heap.size + 3) 35 i0 (.agg #[.float .f32 0, .float .f32 0, .float .f32 0]) 3 12 Try.underlying29 HI.out.1 HI.out.2.1 HI.out.2.2.1 HI.out.2.2.2 rfl (by decide) _ _ _ rfl (OwnA.ext HO.out (by (repeat with_reducible (first | exact Ext.refl _ | exact ext_alloc _ _ | refine Ext.drewN ?_ _ | refine Ext.drew1 ?_ | refine Ext.set ?_ (by dsimp only; omega) _ | refine Ext.alloc ?_ _)))) ⟨w3.heap.size + 1, 0, none⟩ 1 1 [.float .f32 u0, .float .f32 u1, .float .f32 u2] rfl rfl (fun j u hu => NW.out j u hu) (by intro u hu; simp at hu; rcases hu with rfl | rfl | rfl <;> rfl) (by omega) (by have := HN.out; unfold maxLen; omega) (by have := HN.out; omega) (by simp; omega) _ rfl ?_; intro g cap w4 hown hgrow hat hlt; obtain ⟨r0, r1, r2, r3, rf0, rf1, rf2, rf3, rl⟩ := Box.all4 (But.box hgrow (Box.alloc (box_new (w := w3) #[.float .f32 b, .float .f32 f, .float .f32 r, .slice a' n c'] 31) _) (fun hk => by have := (OwnA.block HO.out _ hk).2; omega)))
    have HX := hid (show (Value.slice (some ⟨g, 0, none⟩) (n + 1) cap).ownBlock ≠ some w3.heap.size from by
      intro h9
      have h9 : g = w3.heap.size := by simpa [Value.ownBlock] using h9
      subst h9
      rcases hat with h8 | h8
      · have := (OwnA.block HO.out _ h8).2; omega
      · have h7 : ∀ (o o2 : Obj), ((w3.alloc o).alloc o2).heap.size = w3.heap.size + 1 + 1 := fun o o2 => by simp
        rw [h7] at h8; omega)
    have HO2 := hid (show OwnA w4 (w.heap.size + 3) (n + 1) (.slice (some ⟨g, 0, none⟩) (n + 1) cap) (ys ++ [u0, u1, u2]) from by simpa [OwnA] using hown)
    have BR3 := hid (Box.far (But.box hgrow (Box.alloc (Box.alloc BR2.out _) _) (fun hk => by have := (OwnA.block HO.out _ hk).1; omega)) (b' := w3.heap.size) (by omega) (j := 3) (.slice (some ⟨g, 0, none⟩) (n + 1) cap))
    have EW := hid (Ext.set (p := ⟨w3.heap.size, 3, none⟩) (But.below hgrow (Ext.alloc (Ext.alloc EY.out _) _) (fun k hk => by have := (OwnA.block HO.out _ hk).1; omega)) (by dsimp only; omega) (.slice (some ⟨g, 0, none⟩) (n + 1) cap))
    clear hown hgrow hat hlt r0 r1 r2 r3 rf0 rf1 rf2 rf3 rl a0 a1 a2 af0 af1 af2 al NW BR2 EY
    refine (l06GiveTune_any b f r _ (n + 1) cap (w.heap.size + 3) (ys ++ [u0, u1, u2]) _ (OwnA.but1 HO2.out HX.out _) (by have := H8.out; omega)).mono ?_
    rintro e w5 ⟨v, rfl, ht, E5⟩
    rw [show giveU (cls .f32 b) (cls .f32 f) (cls .f32 r) (ys ++ [u0, u1, u2]) (n + 1) = R from HR.out] at ht ⊢
    obtain ⟨vb, vf, vr, va, vc, rfl, hrest⟩ := ht
    have HT := hid (show TuneIs w5 (w.heap.size + 3) R (.agg #[.float .f32 vb, .float .f32 vf, .float .f32 vr, .slice va R.n vc]) from ⟨vb, vf, vr, va, vc, rfl, hrest⟩)
    have BR4 := hid (Box.ext BR3.out E5)
    have EV := hid (Ext.trans EW.out E5)
    clear hrest E5 BR3 EW
    obtain ⟨z0, z1, z2, z3, zf0, zf1, zf2, zf3, zl⟩ := Box.all4 BR4.out
    go_wp2_with fail
    clear z0 z1 z2 z3 zf0 zf1 zf2 zf3 zl
    refine bodyPost_ret (ret_cell2 Try.results16 rfl (box_set4 BR4.out _ _ _ _) Try.underlying31 infoTu) rfl ?_
    exact ⟨_, rfl, TuneIs.base (TuneIs.far4 HT.out (by omega) _ _ _ _) (by omega), ext_set4 EV.out (by omega) _ _ _ _⟩

end Go.Proofs.Ythinjgiakaflpab
