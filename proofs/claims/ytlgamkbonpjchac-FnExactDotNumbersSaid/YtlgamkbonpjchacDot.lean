/- Products of lists. -/
import Derived.Test.YtlgamkbonpjchacSum
namespace Go.Proofs.Ytlgamkbonpjchac
open Go.RowKit Flt

set_option maxRecDepth 100000 in
theorem l01Dot_any (a1 a2 : Option Addr) (n c1 c2 : Nat) (xs ys : List Nat) (w : World) (h1 : Holds .f32 w a1 n xs) (h2 : Holds .f32 w a2 n ys) (hn : n ≤ 1048576) :
    Calls Try.prog 41 #[.slice a1 n c1, .slice a2 n c2] w fun e w' => ∃ r, e = .returned (.float .f32 r) ∧ Hid (cls .f32 r = dotF xs ys n) ∧ ∃ m, w' = w.drewN m := by
  obtain ⟨_, h1⟩ := h1
  obtain ⟨_, h2⟩ := h2
  by_cases h0 : n = 0
  · subst h0
    clear h1 h2
    go_enter Try.func41, Try.ntmps41
    go_wp2
    refine wp_loop_rounds 1 ?_
    rw [rounds_succ]
    go_wp2
    go_ret
    exact ⟨_, rfl, rfl, 0, rfl⟩
  · rcases h1 with h1 | ⟨b1, o1, rfl, hb1, hc1⟩
    · exact absurd h1 h0
    rcases h2 with h2 | ⟨b2, o2, rfl, hb2, hc2⟩
    · exact absurd h2 h0
    have HC1 := (show Hid _ from hc1)
    have HC2 := (show Hid _ from hc2)
    clear hc1 hc2 h0
    go_enter Try.func41, Try.ntmps41
    go_wp2
    go_loopw [5, 6] (fun s i wr => ∃ k r : Nat, k ≤ n ∧ i = .int .i64 k ∧ s = .float .f32 r ∧ Hid (cls .f32 r = dotF xs ys k) ∧ Hid (∃ m, wr = w.drewN m)) (fun _ i _ => n - (intOf i).toNat)
    case atStart => exact ⟨0, 0, Nat.zero_le _, rfl, rfl, rfl, 0, rfl⟩
    case round =>
      obtain ⟨k, r0, hk, rfl, rfl, hr0, hw⟩ := hrel
      by_cases hlt : k < n
      · have e1 : wr.cell? ⟨b1, o1 + k, none⟩ = some (.float .f32 (xs.getD k 0)) := by obtain ⟨m, hm⟩ := hw.out; rw [hm]; exact HC1.out k hlt
        have e2 : wr.cell? ⟨b2, o2 + k, none⟩ = some (.float .f32 (ys.getD k 0)) := by obtain ⟨m, hm⟩ := hw.out; rw [hm]; exact HC2.out k hlt
        have hs : Hid (dotF xs ys (k + 1) = fop .add .f32 (dotF xs ys k) (fop .mul .f32 (cls .f32 (xs.getD k 0)) (cls .f32 (ys.getD k 0)))) := rfl
        generalize xs.getD k 0 = x at e1 hs
        generalize ys.getD k 0 = y at e2 hs
        have i0 : (0 : Int) ≤ (k : Int) := by omega
        have i1 : (k : Int) < (n : Int) := by omega
        go_wp2
        refine wp_region_many (by kernel_rfl) (by kernel_rfl) (by kernel_rfl) ?_
        repeat (first
          | (refine wpM_mult0 rfl rfl ?_
             refine mult_farith rfl rfl rfl rfl ?_
             intro r hr hrw)
          | (refine wpM_quiet rfl (fun K hK => ?_)
             go_simp
             first
               | (refine hK _ ?_; clear hK K)
               | (apply Exists.intro
                  refine ⟨fun _ => ?_, hK _ ?_⟩
                  fail
                  clear hK K)))
        rename_i r1 hr1 _
        refine wpM_nil ?_
        intro _ hw'
        obtain ⟨nq, hw''⟩ := hw'
        subst hw''
        go_wp2
        go_roundw
        case rel => exact ⟨k + 1, r, by omega, by go_num, rfl, by show _ = _; rw [hs.out, hr.out, hr1.out, hr0.out], by obtain ⟨m, hm⟩ := hw.out; exact ⟨m + nq, by rw [hm, World.drewN_drewN]⟩⟩
        case measure => simp [intOf]; omega
      · have hkn : k = n := by omega
        subst hkn
        go_wp2
        go_ret
        exact ⟨r0, rfl, hr0, hw.out⟩
theorem dot_yes (a1 a2 : Option Addr) (n c1 c2 : Nat) (xs ys : List Nat) (w : World) (h1 : Holds .f32 w a1 n xs) (h2 : Holds .f32 w a2 n ys) (hn : n ≤ 256) :
    Calls Try.prog 15 #[.slice a1 n c1, .slice a2 n c2] w fun e w' => ∃ r, e = .returned (.tuple #[.float .f32 r, .bool true]) ∧ Hid (cls .f32 r = dotF xs ys n) ∧ ∃ m, w' = w.drewN m := by
  obtain ⟨_, h1⟩ := h1
  obtain ⟨_, h2⟩ := h2
  by_cases h0 : n = 0
  · subst h0
    clear h1 h2
    go_enter Try.func15, Try.ntmps15
    go_wp2
    refine wp_loop_rounds 1 ?_
    rw [rounds_succ]
    go_wp2
    go_ret2
    exact ⟨_, rfl, rfl, 0, rfl⟩
  · rcases h1 with h1 | ⟨b1, o1, rfl, hb1, hc1⟩
    · exact absurd h1 h0
    rcases h2 with h2 | ⟨b2, o2, rfl, hb2, hc2⟩
    · exact absurd h2 h0
    have HC1 := (show Hid _ from hc1)
    have HC2 := (show Hid _ from hc2)
    clear hc1 hc2 h0
    go_enter Try.func15, Try.ntmps15
    go_wp2
    go_loopw [6, 21] (fun s i wr => ∃ k r : Nat, k ≤ n ∧ i = .int .i64 k ∧ s = .float .f32 r ∧ Hid (cls .f32 r = dotF xs ys k) ∧ Hid (∃ m, wr = w.drewN m)) (fun _ i _ => n - (intOf i).toNat)
    case atStart => exact ⟨0, 0, Nat.zero_le _, rfl, rfl, rfl, 0, rfl⟩
    case round =>
      obtain ⟨k, r0, hk, rfl, rfl, hr0, hw⟩ := hrel
      by_cases hlt : k < n
      · have e1 : wr.cell? ⟨b1, o1 + k, none⟩ = some (.float .f32 (xs.getD k 0)) := by obtain ⟨m, hm⟩ := hw.out; rw [hm]; exact HC1.out k hlt
        have e2 : wr.cell? ⟨b2, o2 + k, none⟩ = some (.float .f32 (ys.getD k 0)) := by obtain ⟨m, hm⟩ := hw.out; rw [hm]; exact HC2.out k hlt
        have hs : Hid (dotF xs ys (k + 1) = fop .add .f32 (dotF xs ys k) (fop .mul .f32 (cls .f32 (xs.getD k 0)) (cls .f32 (ys.getD k 0)))) := rfl
        generalize xs.getD k 0 = x at e1 hs
        generalize ys.getD k 0 = y at e2 hs
        go_wp2_with (refine wpList_farith rfl rfl rfl rfl rfl ?_; intro r2 m2 hr2 hrw2)
        rename_i r1 m1 hr1 _
        go_roundw
        case rel => exact ⟨k + 1, r2, by omega, by go_num, rfl, by show _ = _; rw [hs.out, hr2.out, hr1.out, hr0.out], by obtain ⟨m, hm⟩ := hw.out; exact ⟨m + (m1 + m2), by rw [hm, World.drewN_drewN]⟩⟩
        case measure => simp [intOf]; omega
      · have hkn : k = n := by omega
        subst hkn
        go_wp2
        go_ret2
        exact ⟨r0, rfl, hr0, hw.out⟩
theorem dot_no (a1 a2 : Option Addr) (n1 n2 c1 c2 : Nat) (w : World) (hn : 256 < n1 ∨ n1 ≠ n2) (hn1 : n1 ≤ 1048576) (_hn2 : n2 ≤ 1048576) :
    Calls Try.prog 15 #[.slice a1 n1 c1, .slice a2 n2 c2] w fun e w' => e = .returned (.tuple #[.float .f32 0, .bool false]) ∧ w = w' := by
  by_cases h : 256 < n1
  · clear hn
    go_enter Try.func15, Try.ntmps15
    go_wp2
    go_ret2
    exact ⟨rfl, rfl⟩
  · have h2 : ((n1 : Int) != (n2 : Int)) = true := by rw [bne_iff_ne]; omega
    clear hn
    go_enter Try.func15, Try.ntmps15
    go_wp2
    go_ret2
    exact ⟨rfl, rfl⟩
theorem sDot_yes (a1 a2 : Option Addr) (n c1 c2 : Nat) (xs ys : List Nat) (w : World) (h1 : Holds .f32 w a1 n xs) (h2 : Holds .f32 w a2 n ys) (hn : n ≤ 256) :
    Calls Try.prog 14 #[.slice a1 n c1, .slice a2 n c2] w fun e w' => ∃ r, e = .returned (.tuple #[.float .f32 r, .bool true]) ∧ Hid (cls .f32 r = dotF xs ys n) ∧ ∃ m, w' = w.drewN m := by
  have hd : decide (n ≤ 256) = true := by simpa using hn
  have H1 := (show Hid _ from h1)
  have H2 := (show Hid _ from h2)
  have hn2 : n ≤ 1048576 := by omega
  clear h1 h2
  go_enter Try.func14, Try.ntmps14
  go_wp2_with (first | (go_at_call 39; refine (l01Few_any _ _ _ hn2 _).mono ?_; rintro e w' ⟨rfl, rfl⟩) | (go_at_call 41; refine (l01Dot_any _ _ _ _ _ xs ys _ H1.out H2.out hn2).mono ?_; rintro e w' ⟨r, rfl, hr, m, rfl⟩))
  go_ret2
  exact ⟨_, rfl, hr, _, rfl⟩
theorem sDot_no (a1 a2 : Option Addr) (n1 n2 c1 c2 : Nat) (w : World) (hn : 256 < n1 ∨ n1 ≠ n2) (hn1 : n1 ≤ 1048576) (_hn2 : n2 ≤ 1048576) :
    Calls Try.prog 14 #[.slice a1 n1 c1, .slice a2 n2 c2] w fun e w' => e = .returned (.tuple #[.float .f32 0, .bool false]) ∧ w = w' := by
  by_cases h : 256 < n1
  · have hd : decide (n1 ≤ 256) = false := by simp; omega
    clear hn
    go_enter Try.func14, Try.ntmps14
    go_wp2_with (first | (go_at_call 39; refine (l01Few_any _ _ _ hn1 _).mono ?_; rintro e w' ⟨rfl, rfl⟩))
    go_ret2
    exact ⟨rfl, rfl⟩
  · have hd : decide (n1 ≤ 256) = true := by simp; omega
    have h2 : ((n1 : Int) != (n2 : Int)) = true := by rw [bne_iff_ne]; omega
    clear hn
    go_enter Try.func14, Try.ntmps14
    go_wp2_with (first | (go_at_call 39; refine (l01Few_any _ _ _ hn1 _).mono ?_; rintro e w' ⟨rfl, rfl⟩))
    go_ret2
    exact ⟨rfl, rfl⟩
theorem FnExactDotNumbers_walk (a0 : Option Addr) (len0 cap0 : Nat) (z0 : List Nat) (a1 : Option Addr) (len1 cap1 : Nat) (z1 : List Nat) (w : World) (w0 : IsRowF .f32 w a0 len0 cap0 z0) (w1 : IsRowF .f32 w a1 len1 cap1 z1) :
    Calls Try.prog 4 #[.slice a0 len0 cap0, .slice a1 len1 cap1] w fun e w' => e = .returned (.bool true) ∧ Below w.heap.size w w' := by
  by_cases hbig : 1048576 < len0
  · go_enter Try.func4, Try.ntmps4
    go_wp2
    go_ret
    exact ⟨rfl, Below.refl _ _⟩
  by_cases hbig1 : 1048576 < len1
  · have hl : len0 ≤ 1048576 := by omega
    go_enter Try.func4, Try.ntmps4
    go_wp2
    go_ret
    exact ⟨rfl, Below.refl _ _⟩
  have hl0 : len0 ≤ 1048576 := by omega
  have hl1 : len1 ≤ 1048576 := by omega
  have HW0 := (show Hid _ from w0)
  have HW1 := (show Hid _ from w1)
  have HZ0 := (show Hid _ from (holds_row w0).1)
  have HZ1 := (show Hid _ from (holds_row w1).1)
  clear w0 w1
  by_cases hn : len0 ≤ 256 ∧ len0 = len1
  · obtain ⟨hn, rfl⟩ := hn
    go_enter Try.func4, Try.ntmps4
    go_wp2_with fail
    refine (toFloat32S_any _ _ _ z0 _ HW0.out hl0).mono ?_
    rintro e wa ⟨cs1, rfl, hcs1, rfl⟩
    go_wp2_with fail
    refine (toFloat32S_any _ _ _ z1 _ (IsRowF.below HW1.out (below_alloc _ _)) hl1).mono ?_
    rintro e wa ⟨cs2, rfl, hcs2, rfl⟩
    have hb2 : Hid (Below w.heap.size w ((w.alloc (.cells cs1 23)).alloc (.cells cs2 23))) := (below_alloc _ _).alloc (by simp) _
    go_wp2_with fail
    refine (sDot_yes _ _ _ _ _ (z0.take len0) (z1.take len0) _ ((holds_fresh hcs1 HZ0 (by simp)).alloc _) (holds_fresh hcs2 HZ1 (by simp)) hn).mono ?_
    rintro e wa ⟨r1, rfl, hr1, m1, rfl⟩
    go_wp2_with fail
    refine (toFloat32S_any _ _ _ z0 _ (IsRowF.below HW0.out (below_drewN hb2.out _)) hl0).mono ?_
    rintro e wa ⟨cs3, rfl, hcs3, rfl⟩
    have hb3 : Hid (Below w.heap.size w ((((w.alloc (.cells cs1 23)).alloc (.cells cs2 23)).drewN m1).alloc (.cells cs3 23))) := (below_drewN hb2.out _).alloc (by simp; omega) _
    go_wp2_with fail
    refine (toFloat32S_any _ _ _ z1 _ (IsRowF.below HW1.out hb3.out) hl1).mono ?_
    rintro e wa ⟨cs4, rfl, hcs4, rfl⟩
    have hb4 : Hid (Below w.heap.size w (((((w.alloc (.cells cs1 23)).alloc (.cells cs2 23)).drewN m1).alloc (.cells cs3 23)).alloc (.cells cs4 23))) := hb3.out.alloc (by simp; omega) _
    have hx0 : Hid (Holds .f32 (((((w.alloc (.cells cs1 23)).alloc (.cells cs2 23)).drewN m1).alloc (.cells cs3 23)).alloc (.cells cs4 23)) (some ⟨w.heap.size + 1 + 1, 0, none⟩) len0 (z0.take len0)) := (holds_fresh hcs3 HZ0 (by simp)).alloc _
    have hx1 : Hid (Holds .f32 (((((w.alloc (.cells cs1 23)).alloc (.cells cs2 23)).drewN m1).alloc (.cells cs3 23)).alloc (.cells cs4 23)) (some ⟨w.heap.size + 1 + 1 + 1, 0, none⟩) len0 (z1.take len0)) := holds_fresh hcs4 HZ1 (by simp)
    go_wp2_with fail
    refine (dot_yes _ _ _ _ _ (z0.take len0) (z1.take len0) _ hx0.out hx1.out hn).mono ?_
    rintro e wa ⟨r2, rfl, hr2, m2, rfl⟩
    go_wp2_with (first | (refine wpList_widen rfl rfl Try.underlying23 Try.underlying28 rfl ?_; intro r n hr hrw) | (go_at_call 12; refine (sameFloat_yes _ _ (fwide (dotF (z0.take len0) (z1.take len0) len0)) (by rw [← hr2.out]; assumption) (by rw [← hr1.out]; assumption) _).mono ?_; rintro e w' ⟨rfl, n, rfl⟩) | fail)
    refine (toFloat32S_any _ _ _ z0 _ (IsRowF.below HW0.out (below_drewN hb4.out _)) hl0).mono ?_
    rintro e wa ⟨cs5, rfl, hcs5, rfl⟩
    go_wp2_with fail
    refine (eqFloat32S_yes _ _ _ _ _ (z0.take len0) (z0.take len0) _ ((hx0.out.drew _).alloc _) (holds_fresh hcs5 HZ0 (by simp)) hl0 (fun _ _ => rfl)).mono ?_
    rintro e wa ⟨rfl, m6, rfl⟩
    go_wp2_with fail
    refine (toFloat32S_any _ _ _ z1 _ (IsRowF.below HW1.out (below_drewN ((below_drewN hb4.out _).alloc (by simp; omega) _) _)) hl1).mono ?_
    rintro e wa ⟨cs6, rfl, hcs6, rfl⟩
    go_wp2_with fail
    refine (eqFloat32S_yes _ _ _ _ _ (z1.take len0) (z1.take len0) _ ((((hx1.out.drew _).alloc _).drew _).alloc _) (holds_fresh hcs6 HZ1 (by simp)) hl1 (fun _ _ => rfl)).mono ?_
    rintro e wa ⟨rfl, m7, rfl⟩
    go_wp2
    go_ret
    exact ⟨rfl, below_drewN ((below_drewN ((below_drewN hb4.out _).alloc (by simp; omega) _) _).alloc (by simp; omega) _) _⟩
  · have hn' : 256 < len0 ∨ len0 ≠ len1 := by omega
    have HN := (show Hid _ from hn')
    clear hn hn'
    go_enter Try.func4, Try.ntmps4
    go_wp2_with fail
    refine (toFloat32S_any _ _ _ z0 _ HW0.out hl0).mono ?_
    rintro e wa ⟨cs1, rfl, hcs1, rfl⟩
    go_wp2_with fail
    refine (toFloat32S_any _ _ _ z1 _ (IsRowF.below HW1.out (below_alloc _ _)) hl1).mono ?_
    rintro e wa ⟨cs2, rfl, hcs2, rfl⟩
    have hb2 : Hid (Below w.heap.size w ((w.alloc (.cells cs1 23)).alloc (.cells cs2 23))) := (below_alloc _ _).alloc (by simp) _
    go_wp2_with fail
    refine (sDot_no _ _ _ _ _ _ _ HN.out hl0 hl1).mono ?_
    rintro e wa ⟨rfl, rfl⟩
    go_wp2_with fail
    refine (toFloat32S_any _ _ _ z0 _ (IsRowF.below HW0.out hb2.out) hl0).mono ?_
    rintro e wa ⟨cs3, rfl, hcs3, rfl⟩
    have hb3 : Hid (Below w.heap.size w (((w.alloc (.cells cs1 23)).alloc (.cells cs2 23)).alloc (.cells cs3 23))) := hb2.out.alloc (by simp; omega) _
    go_wp2_with fail
    refine (toFloat32S_any _ _ _ z1 _ (IsRowF.below HW1.out hb3.out) hl1).mono ?_
    rintro e wa ⟨cs4, rfl, hcs4, rfl⟩
    have hb4 : Hid (Below w.heap.size w ((((w.alloc (.cells cs1 23)).alloc (.cells cs2 23)).alloc (.cells cs3 23)).alloc (.cells cs4 23))) := hb3.out.alloc (by simp; omega) _
    have hx0 : Hid (Holds .f32 ((((w.alloc (.cells cs1 23)).alloc (.cells cs2 23)).alloc (.cells cs3 23)).alloc (.cells cs4 23)) (some ⟨w.heap.size + 1 + 1, 0, none⟩) len0 (z0.take len0)) := (holds_fresh hcs3 HZ0 (by simp)).alloc _
    have hx1 : Hid (Holds .f32 ((((w.alloc (.cells cs1 23)).alloc (.cells cs2 23)).alloc (.cells cs3 23)).alloc (.cells cs4 23)) (some ⟨w.heap.size + 1 + 1 + 1, 0, none⟩) len1 (z1.take len1)) := holds_fresh hcs4 HZ1 (by simp)
    go_wp2_with fail
    refine (dot_no _ _ _ _ _ _ _ HN.out hl0 hl1).mono ?_
    rintro e wa ⟨rfl, rfl⟩
    go_wp2_with (first | (refine wpList_widen rfl rfl Try.underlying23 Try.underlying28 rfl ?_; intro r n hr hrw) | (go_at_call 12; refine (sameFloat_yes _ _ _ (by assumption) (by assumption) _).mono ?_; rintro e w' ⟨rfl, n, rfl⟩) | fail)
    refine (toFloat32S_any _ _ _ z0 _ (IsRowF.below HW0.out (below_drewN hb4.out _)) hl0).mono ?_
    rintro e wa ⟨cs5, rfl, hcs5, rfl⟩
    go_wp2_with fail
    refine (eqFloat32S_yes _ _ _ _ _ (z0.take len0) (z0.take len0) _ ((hx0.out.drew _).alloc _) (holds_fresh hcs5 HZ0 (by simp)) hl0 (fun _ _ => rfl)).mono ?_
    rintro e wa ⟨rfl, m6, rfl⟩
    go_wp2_with fail
    refine (toFloat32S_any _ _ _ z1 _ (IsRowF.below HW1.out (below_drewN ((below_drewN hb4.out _).alloc (by simp; omega) _) _)) hl1).mono ?_
    rintro e wa ⟨cs6, rfl, hcs6, rfl⟩
    go_wp2_with fail
    refine (eqFloat32S_yes _ _ _ _ _ (z1.take len1) (z1.take len1) _ ((((hx1.out.drew _).alloc _).drew _).alloc _) (holds_fresh hcs6 HZ1 (by simp)) hl1 (fun _ _ => rfl)).mono ?_
    rintro e wa ⟨rfl, m7, rfl⟩
    go_wp2
    go_ret
    exact ⟨rfl, below_drewN ((below_drewN ((below_drewN hb4.out _).alloc (by simp; omega) _) _).alloc (by simp; omega) _) _⟩
end Go.Proofs.Ytlgamkbonpjchac
