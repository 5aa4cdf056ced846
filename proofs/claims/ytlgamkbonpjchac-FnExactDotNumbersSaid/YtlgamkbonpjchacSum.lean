/- Sums and products of lists. -/
import Derived.Test.YtlgamkbonpjchacList
namespace Go.Proofs.Ytlgamkbonpjchac
open Go.RowKit Flt

theorem l01Few_any (a : Option Addr) (n c : Nat) (hn : n ≤ 1048576) (w : World) : Calls Try.prog 39 #[.slice a n c] w fun e w' => e = .returned (.bool (decide (n ≤ 256))) ∧ w = w' := by
  by_cases h : n ≤ 256
  all_goals
    go_enter Try.func39, Try.ntmps39
    go_wp2
    go_ret
    exact ⟨ret_bool (by simp <;> omega), rfl⟩
theorem l01Sum_any (a : Option Addr) (n c : Nat) (zs : List Nat) (w : World) (h : Holds .f32 w a n zs) (hn : n ≤ 1048576) :
    Calls Try.prog 40 #[.slice a n c] w fun e w' => ∃ r, e = .returned (.float .f32 r) ∧ Hid (cls .f32 r = sumF zs) ∧ ∃ m, w' = w.drewN m := by
  obtain ⟨hlen, h1⟩ := h
  rcases h1 with rfl | ⟨b, off, rfl, hb, hc⟩
  · have hz : zs = [] := List.eq_nil_of_length_eq_zero hlen
    subst hz
    go_enter Try.func40, Try.ntmps40
    go_wp2
    refine wp_loop_rounds 1 ?_
    rw [rounds_succ]
    go_wp2
    go_ret
    exact ⟨_, rfl, rfl, 0, rfl⟩
  · have HC := (show Hid _ from hc)
    have HL := (show Hid _ from hlen)
    clear hc hlen
    go_enter Try.func40, Try.ntmps40
    go_wp2
    go_loopw [3, 4] (fun s i wr => ∃ k r : Nat, k ≤ n ∧ i = .int .i64 k ∧ s = .float .f32 r ∧ Hid (cls .f32 r = sumF (zs.take k)) ∧ Hid (∃ m, wr = w.drewN m)) (fun _ i _ => n - (intOf i).toNat)
    case atStart => exact ⟨0, 0, Nat.zero_le _, rfl, rfl, rfl, 0, rfl⟩
    case round =>
      obtain ⟨k, r, hk, rfl, rfl, hr, hw⟩ := hrel
      by_cases hlt : k < n
      · have e1 : wr.cell? ⟨b, off + k, none⟩ = some (.float .f32 (zs.getD k 0)) := by obtain ⟨m, hm⟩ := hw.out; rw [hm]; exact HC.out k hlt
        have hs := (show Hid _ from take_snoc_getD zs k (by rw [HL.out]; exact hlt))
        generalize zs.getD k 0 = x at e1 hs
        go_wp2_with (refine wpList_farith rfl rfl rfl rfl rfl ?_; intro r2 m2 hr2 hrw2)
        go_roundw
        case rel => exact ⟨k + 1, r2, by omega, by go_num, rfl, by show _ = _; rw [hs.out, sumF_snoc, hr2.out, hr.out], by obtain ⟨m, hm⟩ := hw.out; exact ⟨m + m2, by rw [hm, World.drewN_drewN]⟩⟩
        case measure => simp [intOf]; omega
      · have hkn : k = n := by omega
        subst hkn
        go_wp2
        go_ret
        exact ⟨r, rfl, by show _ = _; rw [hr.out, List.take_of_length_le (by rw [HL.out]; exact Nat.le_refl _)], hw.out⟩
theorem sSum_yes (a : Option Addr) (n c : Nat) (zs : List Nat) (w : World) (h : Holds .f32 w a n zs) (hn : n ≤ 256) :
    Calls Try.prog 9 #[.slice a n c] w fun e w' => ∃ r, e = .returned (.tuple #[.float .f32 r, .bool true]) ∧ Hid (cls .f32 r = sumF zs) ∧ ∃ m, w' = w.drewN m := by
  have hd : decide (n ≤ 256) = true := by simpa using hn
  have HH := (show Hid _ from h)
  have hn2 : n ≤ 1048576 := by omega
  clear h
  go_enter Try.func9, Try.ntmps9
  go_wp2_with (first | (go_at_call 39; refine (l01Few_any _ _ _ hn2 _).mono ?_; rintro e w' ⟨rfl, rfl⟩) | (go_at_call 40; refine (l01Sum_any _ _ _ zs _ HH.out hn2).mono ?_; rintro e w' ⟨r, rfl, hr, m, rfl⟩))
  go_ret2
  exact ⟨_, rfl, hr, _, rfl⟩
theorem sSum_no (a : Option Addr) (n c : Nat) (w : World) (hn : 256 < n) (hn2 : n ≤ 1048576) :
    Calls Try.prog 9 #[.slice a n c] w fun e w' => e = .returned (.tuple #[.float .f32 0, .bool false]) ∧ w = w' := by
  have hd : decide (n ≤ 256) = false := by simp; omega
  go_enter Try.func9, Try.ntmps9
  go_wp2_with (first | (go_at_call 39; refine (l01Few_any _ _ _ hn2 _).mono ?_; rintro e w' ⟨rfl, rfl⟩))
  go_ret2
  exact ⟨rfl, rfl⟩
theorem sum_yes (a : Option Addr) (n c : Nat) (zs : List Nat) (w : World) (h : Holds .f32 w a n zs) (hn : n ≤ 256) :
    Calls Try.prog 11 #[.slice a n c] w fun e w' => ∃ r, e = .returned (.tuple #[.float .f32 r, .bool true]) ∧ Hid (cls .f32 r = sumF zs) ∧ ∃ m, w' = w.drewN m := by
  obtain ⟨hlen, h1⟩ := h
  rcases h1 with rfl | ⟨b, off, rfl, hb, hc⟩
  · have hz : zs = [] := List.eq_nil_of_length_eq_zero hlen
    subst hz
    go_enter Try.func11, Try.ntmps11
    go_wp2
    refine wp_loop_rounds 1 ?_
    rw [rounds_succ]
    go_wp2
    go_ret2
    exact ⟨_, rfl, rfl, 0, rfl⟩
  · have HC := (show Hid _ from hc)
    have HL := (show Hid _ from hlen)
    clear hc hlen
    go_enter Try.func11, Try.ntmps11
    go_wp2
    go_loopw [4, 12] (fun s i wr => ∃ k r : Nat, k ≤ n ∧ i = .int .i64 k ∧ s = .float .f32 r ∧ Hid (cls .f32 r = sumF (zs.take k)) ∧ Hid (∃ m, wr = w.drewN m)) (fun _ i _ => n - (intOf i).toNat)
    case atStart => exact ⟨0, 0, Nat.zero_le _, rfl, rfl, rfl, 0, rfl⟩
    case round =>
      obtain ⟨k, r, hk, rfl, rfl, hr, hw⟩ := hrel
      by_cases hlt : k < n
      · have e1 : wr.cell? ⟨b, off + k, none⟩ = some (.float .f32 (zs.getD k 0)) := by obtain ⟨m, hm⟩ := hw.out; rw [hm]; exact HC.out k hlt
        have hs := (show Hid _ from take_snoc_getD zs k (by rw [HL.out]; exact hlt))
        generalize zs.getD k 0 = x at e1 hs
        go_wp2_with (refine wpList_farith rfl rfl rfl rfl rfl ?_; intro r2 m2 hr2 hrw2)
        go_roundw
        case rel => exact ⟨k + 1, r2, by omega, by go_num, rfl, by show _ = _; rw [hs.out, sumF_snoc, hr2.out, hr.out], by obtain ⟨m, hm⟩ := hw.out; exact ⟨m + m2, by rw [hm, World.drewN_drewN]⟩⟩
        case measure => simp [intOf]; omega
      · have hkn : k = n := by omega
        subst hkn
        go_wp2
        go_ret2
        exact ⟨r, rfl, by show _ = _; rw [hr.out, List.take_of_length_le (by rw [HL.out]; exact Nat.le_refl _)], hw.out⟩
theorem sum_no (a : Option Addr) (n c : Nat) (w : World) (hn : 256 < n) (hn2 : n ≤ 1048576) :
    Calls Try.prog 11 #[.slice a n c] w fun e w' => e = .returned (.tuple #[.float .f32 0, .bool false]) ∧ w = w' := by
  go_enter Try.func11, Try.ntmps11
  go_wp2
  go_ret2
  exact ⟨rfl, rfl⟩
theorem FnExactSumNumbers_walk (a0 : Option Addr) (len0 cap0 : Nat) (z0 : List Nat) (w : World) (w0 : IsRowF .f32 w a0 len0 cap0 z0) :
    Calls Try.prog 3 #[.slice a0 len0 cap0] w fun e w' => e = .returned (.bool true) ∧ Below w.heap.size w w' := by
  by_cases hbig : 1048576 < len0
  · go_enter Try.func3, Try.ntmps3
    go_wp2
    go_ret
    exact ⟨rfl, Below.refl _ _⟩
  · have hl : len0 ≤ 1048576 := by omega
    have HW := (show Hid _ from w0)
    have hz := (holds_row w0).1
    have HZ := (show Hid _ from hz)
    clear w0 hz
    by_cases hn : len0 ≤ 256
    · go_enter Try.func3, Try.ntmps3
      go_wp2_with fail
      refine (toFloat32S_any _ _ _ z0 _ HW.out hl).mono ?_
      rintro e w1 ⟨cs1, rfl, hcs1, rfl⟩
      go_wp2_with fail
      refine (sSum_yes _ _ _ (z0.take len0) _ (holds_fresh hcs1 HZ rfl) hn).mono ?_
      rintro e w2 ⟨r1, rfl, hr1, m1, rfl⟩
      go_wp2_with fail
      refine (toFloat32S_any _ _ _ z0 _ (IsRowF.below HW.out (below_drewN (below_alloc _ _) _)) hl).mono ?_
      rintro e w3 ⟨cs2, rfl, hcs2, rfl⟩
      have hx : Hid (Holds .f32 (((w.alloc (.cells cs1 23)).drewN m1).alloc (.cells cs2 23)) (some ⟨w.heap.size + 1, 0, none⟩) len0 (z0.take len0)) := holds_fresh hcs2 HZ (by simp)
      have hb3 : Hid (Below w.heap.size w (((w.alloc (.cells cs1 23)).drewN m1).alloc (.cells cs2 23))) := (below_drewN (below_alloc _ _) _).alloc (by simp) _
      go_wp2_with fail
      refine (sum_yes _ _ _ (z0.take len0) _ hx.out hn).mono ?_
      rintro e w4 ⟨r2, rfl, hr2, m2, rfl⟩
      go_wp2_with (first | (refine wpList_widen rfl rfl Try.underlying23 Try.underlying28 rfl ?_; intro r n hr hrw) | (go_at_call 12; refine (sameFloat_yes _ _ (fwide (sumF (z0.take len0))) (by rw [← hr2.out]; assumption) (by rw [← hr1.out]; assumption) _).mono ?_; rintro e w' ⟨rfl, n, rfl⟩) | fail)
      refine (toFloat32S_any _ _ _ z0 _ (IsRowF.below HW.out (below_drewN hb3.out _)) hl).mono ?_
      rintro e w5 ⟨cs3, rfl, hcs3, rfl⟩
      go_wp2_with fail
      refine (eqFloat32S_yes _ _ _ _ _ (z0.take len0) (z0.take len0) _ ((hx.out.drew _).alloc _) (holds_fresh hcs3 HZ (by simp)) hl (fun _ _ => rfl)).mono ?_
      rintro e w6 ⟨rfl, m6, rfl⟩
      go_wp2
      go_ret
      exact ⟨rfl, below_drewN ((below_drewN hb3.out _).alloc (by simp; omega) _) _⟩
    · go_enter Try.func3, Try.ntmps3
      go_wp2_with fail
      refine (toFloat32S_any _ _ _ z0 _ HW.out hl).mono ?_
      rintro e w1 ⟨cs1, rfl, hcs1, rfl⟩
      go_wp2_with fail
      refine (sSum_no _ _ _ _ (by omega) hl).mono ?_
      rintro e w2 ⟨rfl, rfl⟩
      go_wp2_with fail
      refine (toFloat32S_any _ _ _ z0 _ (IsRowF.below HW.out (below_alloc _ _)) hl).mono ?_
      rintro e w3 ⟨cs2, rfl, hcs2, rfl⟩
      have hx : Hid (Holds .f32 ((w.alloc (.cells cs1 23)).alloc (.cells cs2 23)) (some ⟨w.heap.size + 1, 0, none⟩) len0 (z0.take len0)) := holds_fresh hcs2 HZ (by simp)
      have hb3 : Hid (Below w.heap.size w ((w.alloc (.cells cs1 23)).alloc (.cells cs2 23))) := (below_alloc _ _).alloc (by simp) _
      go_wp2_with fail
      refine (sum_no _ _ _ _ (by omega) hl).mono ?_
      rintro e w4 ⟨rfl, rfl⟩
      go_wp2_with (first | (refine wpList_widen rfl rfl Try.underlying23 Try.underlying28 rfl ?_; intro r n hr hrw) | (go_at_call 12; refine (sameFloat_yes _ _ _ (by assumption) (by assumption) _).mono ?_; rintro e w' ⟨rfl, n, rfl⟩) | fail)
      refine (toFloat32S_any _ _ _ z0 _ (IsRowF.below HW.out (below_drewN hb3.out _)) hl).mono ?_
      rintro e w5 ⟨cs3, rfl, hcs3, rfl⟩
      go_wp2_with fail
      refine (eqFloat32S_yes _ _ _ _ _ (z0.take len0) (z0.take len0) _ ((hx.out.drew _).alloc _) (holds_fresh hcs3 HZ (by simp)) hl (fun _ _ => rfl)).mono ?_
      rintro e w6 ⟨rfl, m6, rfl⟩
      go_wp2
      go_ret
      exact ⟨rfl, below_drewN ((below_drewN hb3.out _).alloc (by simp; omega) _) _⟩
end Go.Proofs.Ytlgamkbonpjchac
