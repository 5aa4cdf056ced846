/- The logarithm: the walks. -/
import Derived.Test.YtpmjiabllmomjabNum
import Derived.Test.YtpmjiabllmomjabIs
import Derived.Test.YtpmjiabllmomjabLogC
namespace Go.Proofs.Ytpmjiabllmomjab
open Go.RowKit Flt

set_option maxRecDepth 100000 in
set_option maxHeartbeats 1000000 in
theorem wideLog_any (b : Nat) (X : Option Nat) (N M : Nat) (hX : Is .f64 b X) (hst : Hid (stops X N M)) (hN : N ≤ 200) (hM : M ≤ 200) (w : World) :
    Calls Try.prog 121 #[.float .f64 b] w fun e w' => ∃ r, e = .returned (.float .f64 r) ∧ Is .f64 r (logC X N M) ∧ ∃ m, w' = w.drewN m := by
  go_enter Try.func121, Try.ntmps121
  go_wp2
  go_loopw [0, 3] (fun x i wr => ∃ k r : Nat, k ≤ N ∧ i = .int .i64 k ∧ x = .float .f64 r ∧ Is .f64 r (itC halC k X) ∧ Hid (∃ m, wr = w.drewN m)) (fun _ i _ => N - (intOf i).toNat)
  case atStart => exact ⟨0, b, Nat.zero_le _, rfl, rfl, hX, 0, rfl⟩
  case round =>
    obtain ⟨k, s, hk, rfl, rfl, hs, hw⟩ := hrel
    by_cases hlt : k < N
    · have hgo := hst.out.1 k hlt
      go_wp2_with (first | (refine wpList_fa rfl rfl rfl rfl rfl (by first | assumption | exact is_int _ | exact is_const (by decide)) (by first | assumption | exact is_const (by decide) | exact is_int _) ?_; intro r n hr hrw) | (refine wpList_fcmp rfl rfl rfl rfl rfl (by first | assumption | exact is_const (by decide)) (by first | assumption | exact is_const (by decide)) ?_; try simp only [hgo]))
      go_roundw
      case rel => exact ⟨k + 1, r, by omega, by go_num, rfl, by assumption, by obtain ⟨m, hm⟩ := hw.out; exact ⟨m + n, by rw [hm, World.drewN_drewN]⟩⟩
      case measure => simp [intOf]; omega
    · have hkn : k = N := by omega
      subst hkn
      have hgo := hst.out.2.1
      go_wp2_with (first | (refine wpList_fa rfl rfl rfl rfl rfl (by first | assumption | exact is_int _ | exact is_const (by decide)) (by first | assumption | exact is_const (by decide) | exact is_int _) ?_; intro r n hr hrw) | (refine wpList_fcmp rfl rfl rfl rfl rfl (by first | assumption | exact is_const (by decide)) (by first | assumption | exact is_const (by decide)) ?_; try simp only [hgo]))
      simp only [Act.put, List.setIfInBounds_toArray, List.set_cons_succ, List.set_cons_zero]
      go_loopw [0, 3] (fun x i wr => ∃ l r : Nat, l ≤ M ∧ i = .int .i64 ((k : Int) - l) ∧ x = .float .f64 r ∧ Is .f64 r (itC dblC l (itC halC k X)) ∧ Hid (∃ m, wr = w.drewN m)) (fun _ i _ => (M + (intOf i) - k).toNat)
      case atStart => exact ⟨0, s, Nat.zero_le _, by go_num, rfl, hs, hw.out⟩
      case round =>
        obtain ⟨l, t, hl, rfl, rfl, ht, hw2⟩ := hrel
        by_cases hlt2 : l < M
        · have hgo2 := hst.out.2.2.1 l hlt2
          go_wp2_with (first | (refine wpList_fa rfl rfl rfl rfl rfl (by first | assumption | exact is_int _ | exact is_const (by decide)) (by first | assumption | exact is_const (by decide) | exact is_int _) ?_; intro r n hr hrw) | (refine wpList_fcmp rfl rfl rfl rfl rfl (by first | assumption | exact is_const (by decide)) (by first | assumption | exact is_const (by decide)) ?_; try simp only [hgo2]))
          go_roundw
          case rel => exact ⟨l + 1, r, by omega, by go_num, rfl, by assumption, by obtain ⟨m, hm⟩ := hw2.out; exact ⟨m + n, by rw [hm, World.drewN_drewN]⟩⟩
          case measure => simp [intOf]; omega
        · have hlm : l = M := by omega
          subst hlm
          have hgo2 := hst.out.2.2.2
          have H : Hid (logC X k l = logTail (itC dblC l (itC halC k X)) ((k : Int) - l)) := rfl
          obtain ⟨m0, hw2⟩ := hw2.out
          subst hw2
          generalize itC dblC l (itC halC k X) = Z at ht hgo2 H
          go_wp2_with (first | (refine wpList_fa rfl rfl rfl rfl rfl (by first | assumption | exact is_int _ | exact is_const (by decide)) (by first | assumption | exact is_const (by decide) | exact is_int _) ?_; intro r n hr hrw) | (refine wpList_fcmp rfl rfl rfl rfl rfl (by first | assumption | exact is_const (by decide)) (by first | assumption | exact is_const (by decide)) ?_; try simp only [hgo2]))
          refine wp_loop_rounds 14 ?_
          repeat (rw [rounds_succ]; go_wp2_with (first | (refine wpList_fa rfl rfl rfl rfl rfl (by first | assumption | exact is_int _ | exact is_const (by decide)) (by first | assumption | exact is_const (by decide) | exact is_int _) ?_; intro r n hr hrw) | (refine wpList_fcmp rfl rfl rfl rfl rfl (by first | assumption | exact is_const (by decide)) (by first | assumption | exact is_const (by decide)) ?_; try simp only [hgo2])))
          go_ret
          exact ⟨_, rfl, by rw [H.out]; assumption, _, rfl⟩
end Go.Proofs.Ytpmjiabllmomjab
