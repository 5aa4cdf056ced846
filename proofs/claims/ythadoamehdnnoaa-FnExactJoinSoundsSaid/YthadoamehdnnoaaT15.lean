/- Waves of a tube. -/
import Derived.Test.YthadoamehdnnoaaT13
namespace Go.Proofs.Ythadoamehdnnoaa
open Go.RowKit Flt
set_option linter.unusedVariables false

def wavesB (cs : List (Option Nat)) (l t p : Option Nat) (rs ls : List (Option Nat)) : Bool := tubeC cs l t p && (decide (rs.length = cs.length) && (decide (ls.length = cs.length) && (finsC rs && finsC ls)))

theorem areFinite_any (a : Option Addr) (n c : Nat) (zs : List Nat) (w : World) (h : Holds .f32 w a n zs) (hn : n ≤ 1048576) :
    Calls Try.prog 19 #[.slice a n c] w fun e w' => e = .returned (.bool (finsC (zs.map (cls .f32)))) ∧ ∃ m, w' = w.drewN m := by
  obtain ⟨hl, hc⟩ := h
  have HL := hid hl
  have HC : Hid (∀ k, k < n → ∃ b off, a = some ⟨b, off, none⟩ ∧ w.cell? ⟨b, off + k, none⟩ = some (.float .f32 (zs.getD k 0))) := by
    intro k hk
    rcases hc with h0 | ⟨b, off, rfl, hb, hc⟩
    · omega
    · exact ⟨b, off, rfl, hc k hk⟩
  clear hc hl
  go_enter Try.func19, Try.ntmps19
  go_wp2
  go_loopw [7] (fun i wr => ∃ k : Nat, k ≤ n ∧ i = .int .i64 k ∧ Hid (∀ q, q < k → fin32 (cls .f32 (zs.getD q 0)) = true) ∧ Hid (∃ m, wr = w.drewN m)) (fun i _ => n - (intOf i).toNat)
  case atStart => exact ⟨0, Nat.zero_le _, rfl, hid (fun q hq => by omega), 0, rfl⟩
  case round =>
    obtain ⟨k, hk, rfl, hr, hw⟩ := hrel
    by_cases hlt : k < n
    · obtain ⟨b, off, rfl, e0⟩ := HC.out k hlt
      have e1 : wr.cell? ⟨b, off + k, none⟩ = some (.float .f32 (zs.getD k 0)) := by obtain ⟨m, hm⟩ := hw.out; rw [hm]; exact e0
      clear e0
      have hi0 : (0 : Int) ≤ (k : Int) := by omega
      have hi1 : (k : Int) < (n : Int) := by omega
      cases ha : fin32 (cls .f32 (zs.getD k 0))
      · have HB := hid (show finsC (zs.map (cls .f32)) = false from all_bad (by rw [HL.out]; exact hlt) ha)
        generalize zs.getD k 0 = x at e1 ha
        go_wp2_with (go_at_call 21; refine (isFinite_any _ _).mono ?_; rintro e w' ⟨rfl, m, rfl⟩; simp only [ha])
        go_ret
        exact ⟨by rw [HB.out]; rfl, by obtain ⟨m2, hm⟩ := hw.out; exact ⟨m2 + m, by rw [hm, World.drewN_drewN]⟩⟩
      · have HG := hid (upto_succ (P := fun q => fin32 (cls .f32 (zs.getD q 0)) = true) hr.out ha)
        generalize zs.getD k 0 = x at e1 ha
        go_wp2_with (go_at_call 21; refine (isFinite_any _ _).mono ?_; rintro e w' ⟨rfl, m, rfl⟩; simp only [ha])
        go_roundw
        case rel => exact ⟨k + 1, by omega, by go_num, HG, by obtain ⟨m2, hm⟩ := hw.out; exact ⟨m2 + m, by rw [hm, World.drewN_drewN]⟩⟩
        case measure => simp [intOf]; omega
    · have hkn : k = n := by omega
      subst hkn
      have HG := hid (show finsC (zs.map (cls .f32)) = true from all_good (fun j hj => hr.out j (by rw [HL.out] at hj; exact hj)))
      go_wp2
      go_ret
      exact ⟨by rw [HG.out]; rfl, hw.out⟩

theorem l02Finite_any (a : Option Addr) (n c : Nat) (zs : List Nat) (w : World) (h : Holds .f32 w a n zs) (hn : n ≤ 1048576) :
    Calls Try.prog 18 #[.slice a n c] w fun e w' => e = .returned (.bool (finsC (zs.map (cls .f32)))) ∧ ∃ m, w' = w.drewN m := by
  obtain ⟨hl, hc⟩ := h
  have HL := hid hl
  have HC : Hid (∀ k, k < n → ∃ b off, a = some ⟨b, off, none⟩ ∧ w.cell? ⟨b, off + k, none⟩ = some (.float .f32 (zs.getD k 0))) := by
    intro k hk
    rcases hc with h0 | ⟨b, off, rfl, hb, hc⟩
    · omega
    · exact ⟨b, off, rfl, hc k hk⟩
  clear hc hl
  go_enter Try.func18, Try.ntmps18
  go_wp2
  go_loopw [3] (fun i wr => ∃ k : Nat, k ≤ n ∧ i = .int .i64 k ∧ Hid (∀ q, q < k → fin32 (cls .f32 (zs.getD q 0)) = true) ∧ Hid (∃ m, wr = w.drewN m)) (fun i _ => n - (intOf i).toNat)
  case atStart => exact ⟨0, Nat.zero_le _, rfl, hid (fun q hq => by omega), 0, rfl⟩
  case round =>
    obtain ⟨k, hk, rfl, hr, hw⟩ := hrel
    by_cases hlt : k < n
    · obtain ⟨b, off, rfl, e0⟩ := HC.out k hlt
      have e1 : wr.cell? ⟨b, off + k, none⟩ = some (.float .f32 (zs.getD k 0)) := by obtain ⟨m, hm⟩ := hw.out; rw [hm]; exact e0
      clear e0
      have hi0 : (0 : Int) ≤ (k : Int) := by omega
      have hi1 : (k : Int) < (n : Int) := by omega
      cases ha : fin32 (cls .f32 (zs.getD k 0))
      · have HB := hid (show finsC (zs.map (cls .f32)) = false from all_bad (by rw [HL.out]; exact hlt) ha)
        generalize zs.getD k 0 = x at e1 ha
        go_wp2_with (go_at_call 20; refine (l01Finite_any _ _).mono ?_; rintro e w' ⟨rfl, m, rfl⟩; simp only [ha])
        go_ret
        exact ⟨by rw [HB.out]; rfl, by obtain ⟨m2, hm⟩ := hw.out; exact ⟨m2 + m, by rw [hm, World.drewN_drewN]⟩⟩
      · have HG := hid (upto_succ (P := fun q => fin32 (cls .f32 (zs.getD q 0)) = true) hr.out ha)
        generalize zs.getD k 0 = x at e1 ha
        go_wp2_with (go_at_call 20; refine (l01Finite_any _ _).mono ?_; rintro e w' ⟨rfl, m, rfl⟩; simp only [ha])
        go_roundw
        case rel => exact ⟨k + 1, by omega, by go_num, HG, by obtain ⟨m2, hm⟩ := hw.out; exact ⟨m2 + m, by rw [hm, World.drewN_drewN]⟩⟩
        case measure => simp [intOf]; omega
    · have hkn : k = n := by omega
      subst hkn
      have HG := hid (show finsC (zs.map (cls .f32)) = true from all_good (fun j hj => hr.out j (by rw [HL.out] at hj; exact hj)))
      go_wp2
      go_ret
      exact ⟨by rw [HG.out]; rfl, hw.out⟩

end Go.Proofs.Ythadoamehdnnoaa
