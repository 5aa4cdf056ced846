/- Sums and products of lists. -/
import Derived.Test.YthinjgiakaflpabList
namespace Go.Proofs.Ythinjgiakaflpab
open Go.RowKit Flt

theorem sum_yes (a : Option Addr) (n c : Nat) (zs : List Nat) (w : World) (h : Holds .f32 w a n zs) (hn : n ≤ 256) :
    Calls Try.prog 127 #[.slice a n c] w fun e w' => ∃ r, e = .returned (.tuple #[.float .f32 r, .bool true]) ∧ Hid (cls .f32 r = sumF zs) ∧ ∃ m, w' = w.drewN m := by
  obtain ⟨hlen, h1⟩ := h
  rcases h1 with rfl | ⟨b, off, rfl, hb, hc⟩
  · have hz : zs = [] := List.eq_nil_of_length_eq_zero hlen
    subst hz
    go_enter Try.func127, Try.ntmps127
    go_wp2
    refine wp_loop_rounds 1 ?_
    rw [rounds_succ]
    go_wp2
    go_ret2
    exact ⟨_, rfl, rfl, 0, rfl⟩
  · have HC := (show Hid _ from hc)
    have HL := (show Hid _ from hlen)
    clear hc hlen
    go_enter Try.func127, Try.ntmps127
    go_wp2
    go_loopw [4, 12] (fun s i wr => ∃ k r : Nat, k ≤ n ∧ i = .int .i64 k ∧ s = .float .f32 r ∧ Hid (cls .f32 r = sumF (zs.take k)) ∧ Hid (∃ m, wr = w.drewN m)) (fun _ i _ => n - (intOf i).toNat)
    case atStart => exact ⟨0, 0, Nat.zero_le _, rfl, rfl, rfl, 0, rfl⟩
    case round =>
      obtain ⟨k, r, hk, rfl, rfl, hr, hw⟩ := hrel
      by_cases hlt : k < n
      · have e1 : wr.cell? ⟨b, off + k, none⟩ = some (.float .f32 (zs.getD k 0)) := by obtain ⟨m, hm⟩ := hw.out; rw [hm]; exact HC.out k hlt
        have hs := (show Hid _ from take_snoc_getD zs k (by rw [HL.out]; exact hlt))
        generalize zs.getD k 0 = x at e1 hs
        go_wp2_with (refine wpList_farith rfl rfl rfl rfl rfl ?_; intro r2 m2 hr2 hrw2)
        go_roundw
        case rel => exact ⟨k + 1, r2, by omega, by go_num, rfl, by show _ = _; rw [hs.out, sumF_snoc, hr2.out, hr.out], by obtain ⟨m, hm⟩ := hw.out; exact ⟨m + m2, by rw [hm, World.drewN_drewN]⟩⟩
        case measure => simp [intOf]; omega
      · have hkn : k = n := by omega
        subst hkn
        go_wp2
        go_ret2
        exact ⟨r, rfl, by show _ = _; rw [hr.out, List.take_of_length_le (by rw [HL.out]; exact Nat.le_refl _)], hw.out⟩
theorem sum_no (a : Option Addr) (n c : Nat) (w : World) (hn : 256 < n) (hn2 : n ≤ 1048576) :
    Calls Try.prog 127 #[.slice a n c] w fun e w' => e = .returned (.tuple #[.float .f32 0, .bool false]) ∧ w = w' := by
  go_enter Try.func127, Try.ntmps127
  go_wp2
  go_ret2
  exact ⟨rfl, rfl⟩
end Go.Proofs.Ythinjgiakaflpab
