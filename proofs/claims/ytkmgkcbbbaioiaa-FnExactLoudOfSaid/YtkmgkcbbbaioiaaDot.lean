/- Products of lists. -/
import Derived.Test.YtkmgkcbbbaioiaaSum
namespace Go.Proofs.Ytkmgkcbbbaioiaa
open Go.RowKit Flt

theorem dot_yes (a1 a2 : Option Addr) (n c1 c2 : Nat) (xs ys : List Nat) (w : World) (h1 : Holds .f32 w a1 n xs) (h2 : Holds .f32 w a2 n ys) (hn : n ≤ 256) :
    Calls Try.prog 66 #[.slice a1 n c1, .slice a2 n c2] w fun e w' => ∃ r, e = .returned (.tuple #[.float .f32 r, .bool true]) ∧ Hid (cls .f32 r = dotF xs ys n) ∧ ∃ m, w' = w.drewN m := by
  obtain ⟨_, h1⟩ := h1
  obtain ⟨_, h2⟩ := h2
  by_cases h0 : n = 0
  · subst h0
    clear h1 h2
    go_enter Try.func66, Try.ntmps66
    go_wp2
    refine wp_loop_rounds 1 ?_
    rw [rounds_succ]
    go_wp2
    go_ret2
    exact ⟨_, rfl, rfl, 0, rfl⟩
  · rcases h1 with h1 | ⟨b1, o1, rfl, hb1, hc1⟩
    · exact absurd h1 h0
    rcases h2 with h2 | ⟨b2, o2, rfl, hb2, hc2⟩
    · exact absurd h2 h0
    have HC1 := (show Hid _ from hc1)
    have HC2 := (show Hid _ from hc2)
    clear hc1 hc2 h0
    go_enter Try.func66, Try.ntmps66
    go_wp2
    go_loopw [6, 21] (fun s i wr => ∃ k r : Nat, k ≤ n ∧ i = .int .i64 k ∧ s = .float .f32 r ∧ Hid (cls .f32 r = dotF xs ys k) ∧ Hid (∃ m, wr = w.drewN m)) (fun _ i _ => n - (intOf i).toNat)
    case atStart => exact ⟨0, 0, Nat.zero_le _, rfl, rfl, rfl, 0, rfl⟩
    case round =>
      obtain ⟨k, r0, hk, rfl, rfl, hr0, hw⟩ := hrel
      by_cases hlt : k < n
      · have e1 : wr.cell? ⟨b1, o1 + k, none⟩ = some (.float .f32 (xs.getD k 0)) := by obtain ⟨m, hm⟩ := hw.out; rw [hm]; exact HC1.out k hlt
        have e2 : wr.cell? ⟨b2, o2 + k, none⟩ = some (.float .f32 (ys.getD k 0)) := by obtain ⟨m, hm⟩ := hw.out; rw [hm]; exact HC2.out k hlt
        have hs : Hid (dotF xs ys (k + 1) = fop .add .f32 (dotF xs ys k) (fop .mul .f32 (cls .f32 (xs.getD k 0)) (cls .f32 (ys.getD k 0)))) := rfl
        generalize xs.getD k 0 = x at e1 hs
        generalize ys.getD k 0 = y at e2 hs
        go_wp2_with (refine wpList_farith rfl rfl rfl rfl rfl ?_; intro r2 m2 hr2 hrw2)
        rename_i r1 m1 hr1 _
        go_roundw
        case rel => exact ⟨k + 1, r2, by omega, by go_num, rfl, by show _ = _; rw [hs.out, hr2.out, hr1.out, hr0.out], by obtain ⟨m, hm⟩ := hw.out; exact ⟨m + (m1 + m2), by rw [hm, World.drewN_drewN]⟩⟩
        case measure => simp [intOf]; omega
      · have hkn : k = n := by omega
        subst hkn
        go_wp2
        go_ret2
        exact ⟨r0, rfl, hr0, hw.out⟩
theorem dot_no (a1 a2 : Option Addr) (n1 n2 c1 c2 : Nat) (w : World) (hn : 256 < n1 ∨ n1 ≠ n2) (hn1 : n1 ≤ 1048576) (_hn2 : n2 ≤ 1048576) :
    Calls Try.prog 66 #[.slice a1 n1 c1, .slice a2 n2 c2] w fun e w' => e = .returned (.tuple #[.float .f32 0, .bool false]) ∧ w = w' := by
  by_cases h : 256 < n1
  · clear hn
    go_enter Try.func66, Try.ntmps66
    go_wp2
    go_ret2
    exact ⟨rfl, rfl⟩
  · have h2 : ((n1 : Int) != (n2 : Int)) = true := by rw [bne_iff_ne]; omega
    clear hn
    go_enter Try.func66, Try.ntmps66
    go_wp2
    go_ret2
    exact ⟨rfl, rfl⟩
end Go.Proofs.Ytkmgkcbbbaioiaa
