/- Ladders. -/
import Derived.Test.YtofhemganefhcaaW1
import Derived.Test.YtofhemganefhcaaT9
import Derived.Test.YtofhemganefhcaaT21
namespace Go.Proofs.Ytofhemganefhcaa
open Go.RowKit Flt
set_option linter.unusedVariables false

def ladderC (cs : List (Option Nat)) : Bool := decide (1 ≤ cs.length) && (decide (cs.length ≤ 16) && cs.all okC)
theorem ladder_bad {zs : List Nat} {j : Nat} (hj : j < zs.length) (h : okC (cls .f32 (zs.getD j 0)) = false) : ladderC (zs.map (cls .f32)) = false := by
  unfold ladderC; rw [all_bad hj h]; simp
theorem ladder_good {zs : List Nat} (h1 : 1 ≤ zs.length) (h2 : zs.length ≤ 16) (h : ∀ j, j < zs.length → okC (cls .f32 (zs.getD j 0)) = true) : ladderC (zs.map (cls .f32)) = true := by
  unfold ladderC; rw [all_good h]; simp [h1, h2]
theorem ladder_len {cs : List (Option Nat)} (h : ladderC cs = true) : 1 ≤ cs.length ∧ cs.length ≤ 16 := by
  unfold ladderC at h
  simp at h
  exact ⟨by omega, by omega⟩
def ladR (cs : List (Option Nat)) : List (Option Nat) × Bool := if ladderC cs then (cs, true) else ([], false)
def mixLR (s : Option Nat) (us vs : List Nat) : List (Option Nat) × Bool := if ladderC (us.map (cls .f32)) && (ladderC (vs.map (cls .f32)) && (decide (us.length = vs.length) && (fcmp .geq (ford .f32 s (some 0)) && fcmp .leq (ford .f32 s (some 1065353216))))) then ladR (mixC s (us.map (cls .f32)) (vs.map (cls .f32))) else ([], false)
theorem ladR_len (cs : List (Option Nat)) : (ladR cs).1.length ≤ 16 := by
  unfold ladR
  split
  · rename_i h; exact (ladder_len h).2
  · exact Nat.zero_le _
theorem mixL_len (s : Option Nat) (us vs : List Nat) : (mixLR s us vs).1.length ≤ 16 := by
  unfold mixLR
  split
  · exact ladR_len _
  · exact Nat.zero_le _
theorem isRung_any (b : Nat) (w : World) : Calls Try.prog 88 #[.float .f32 b] w fun e w' => e = .returned (.bool (okC (cls .f32 b))) ∧ w = w' := by
  unfold okC
  cases h1 : fcmp .gtr (ford .f32 (cls .f32 b) (some 3212836864))
  all_goals
    go_enter Try.func88, Try.ntmps88
    go_wp2_with (first | (refine wpList_fcmp rfl rfl rfl rfl rfl (is_self _ _) (is_const (by decide)) ?_; try simp only [h1]))
    go_ret
    exact ⟨rfl, rfl⟩

theorem isLadder_any (a : Option Addr) (n c : Nat) (zs : List Nat) (w : World) (h : Holds .f32 w a n zs) (hn : n ≤ 1048576) :
    Calls Try.prog 82 #[.slice a n c] w fun e w' => e = .returned (.bool (ladderC (zs.map (cls .f32)))) ∧ ∃ m, w' = w.drewN m := by
  obtain ⟨hl, hc⟩ := h
  by_cases h1 : n < 1
  · have HZ := hid (show ladderC (zs.map (cls .f32)) = false from by unfold ladderC; simp; omega)
    clear hc hl
    go_enter Try.func82, Try.ntmps82
    go_wp2
    go_ret
    exact ⟨by rw [HZ.out]; exact ret_bool (by first | (simp; done) | (simp; omega)), 0, rfl⟩
  by_cases h2 : 16 < n
  · have HZ := hid (show ladderC (zs.map (cls .f32)) = false from by unfold ladderC; simp; omega)
    clear hc hl
    go_enter Try.func82, Try.ntmps82
    go_wp2
    go_ret
    exact ⟨by rw [HZ.out]; exact ret_bool (by first | (simp; done) | (simp; omega)), 0, rfl⟩
  rcases hc with h0 | ⟨b, off, rfl, hb, hc⟩
  · omega
  have HC := hid hc
  have HL := hid hl
  clear hc hl
  go_enter Try.func82, Try.ntmps82
  go_wp2
  go_loopw [15] (fun i wr => ∃ k : Nat, k ≤ n ∧ i = .int .i64 k ∧ Hid (∀ q, q < k → okC (cls .f32 (zs.getD q 0)) = true) ∧ Hid (∃ m, wr = w.drewN m)) (fun i _ => n - (intOf i).toNat)
  case atStart => exact ⟨0, Nat.zero_le _, rfl, hid (fun q hq => by omega), 0, rfl⟩
  case round =>
    obtain ⟨k, hk, rfl, hr, hw⟩ := hrel
    by_cases hlt : k < n
    · have e1 : wr.cell? ⟨b, off + k, none⟩ = some (.float .f32 (zs.getD k 0)) := by obtain ⟨m, hm⟩ := hw.out; rw [hm]; exact HC.out k hlt
      cases ha : okC (cls .f32 (zs.getD k 0))
      · have HB := hid (ladder_bad (by rw [HL.out]; exact hlt) ha)
        generalize zs.getD k 0 = x at e1 ha
        go_wp2_with (go_at_call 88; refine (isRung_any _ _).mono ?_; rintro e w' ⟨rfl, rfl⟩; simp only [ha])
        go_ret
        exact ⟨by rw [HB.out]; rfl, hw.out⟩
      · have HG := hid (upto_succ (P := fun q => okC (cls .f32 (zs.getD q 0)) = true) hr.out ha)
        generalize zs.getD k 0 = x at e1 ha
        go_wp2_with (go_at_call 88; refine (isRung_any _ _).mono ?_; rintro e w' ⟨rfl, rfl⟩; simp only [ha])
        go_roundw
        case rel => exact ⟨k + 1, by omega, by go_num, HG, hw.out⟩
        case measure => simp [intOf]; omega
    · have hkn : k = n := by omega
      subst hkn
      have HG := hid (ladder_good (by rw [HL.out]; omega) (by rw [HL.out]; omega) (fun j hj => hr.out j (by rw [HL.out] at hj; exact hj)))
      go_wp2
      go_ret
      exact ⟨by rw [HG.out]; exact ret_bool (by simp; try omega), hw.out⟩

theorem isLadder_drew (a : Option Addr) (n c : Nat) (zs : List Nat) (V : Bool) (w : World) (h : Holds .f32 w a n zs) (hn : n ≤ 1048576) (hV : ladderC (zs.map (cls .f32)) = V) :
    Calls Try.prog 82 #[.slice a n c] w fun e w' => e = .returned (.bool V) ∧ ∃ m, w' = w.drewN m := by
  subst hV; exact isLadder_any a n c zs w h hn

theorem l04Ladder_any (a : Option Addr) (n c : Nat) (zs : List Nat) (w : World) (h : Holds .f32 w a n zs) (hn : n ≤ 1048576) :
    Calls Try.prog 80 #[.slice a n c] w fun e w' => e = .returned (.bool (ladderC (zs.map (cls .f32)))) ∧ ∃ m, w' = w.drewN m := by
  obtain ⟨hl, hc⟩ := h
  by_cases h1 : n < 1
  · have HZ := hid (show ladderC (zs.map (cls .f32)) = false from by unfold ladderC; simp; omega)
    clear hc hl
    go_enter Try.func80, Try.ntmps80
    go_wp2
    refine wp_loop_rounds 1 ?_
    rw [rounds_succ]
    go_wp2
    go_ret
    exact ⟨by rw [HZ.out]; exact ret_bool (by first | (simp; done) | (simp; omega)), 0, rfl⟩
  by_cases h2 : 16 < n
  · have HZ := hid (show ladderC (zs.map (cls .f32)) = false from by unfold ladderC; simp; omega)
    clear hc hl
    go_enter Try.func80, Try.ntmps80
    go_wp2
    refine wp_loop_rounds 1 ?_
    rw [rounds_succ]
    go_wp2
    go_ret
    exact ⟨by rw [HZ.out]; exact ret_bool (by first | (simp; done) | (simp; omega)), 0, rfl⟩
  rcases hc with h0 | ⟨b, off, rfl, hb, hc⟩
  · omega
  have HC := hid hc
  have HL := hid hl
  clear hc hl
  go_enter Try.func80, Try.ntmps80
  go_wp2
  go_loopw [3] (fun i wr => ∃ k : Nat, k ≤ n ∧ i = .int .i64 k ∧ Hid (∀ q, q < k → okC (cls .f32 (zs.getD q 0)) = true) ∧ Hid (∃ m, wr = w.drewN m)) (fun i _ => n - (intOf i).toNat)
  case atStart => exact ⟨0, Nat.zero_le _, rfl, hid (fun q hq => by omega), 0, rfl⟩
  case round =>
    obtain ⟨k, hk, rfl, hr, hw⟩ := hrel
    by_cases hlt : k < n
    · have e1 : wr.cell? ⟨b, off + k, none⟩ = some (.float .f32 (zs.getD k 0)) := by obtain ⟨m, hm⟩ := hw.out; rw [hm]; exact HC.out k hlt
      cases ha : okC (cls .f32 (zs.getD k 0))
      · have HB := hid (ladder_bad (by rw [HL.out]; exact hlt) ha)
        generalize zs.getD k 0 = x at e1 ha
        unfold okC at ha
        cases g1 : fcmp .gtr (ford .f32 (cls .f32 x) (some 3212836864))
        · go_wp2_with (refine wpList_fcmp rfl rfl rfl rfl rfl (is_self _ _) (is_const (by decide)) ?_; rw [g1])
          go_ret
          exact ⟨by rw [HB.out]; rfl, hw.out⟩
        · have g2 : fcmp .lss (ford .f32 (cls .f32 x) (some 1065353216)) = false := by rw [g1] at ha; simpa using ha
          clear ha
          go_wp2_with (refine wpList_fcmp rfl rfl rfl rfl rfl (is_self _ _) (is_const (by decide)) ?_; first | rw [g1] | rw [g2])
          go_ret
          exact ⟨by rw [HB.out]; rfl, hw.out⟩
      · have HG := hid (upto_succ (P := fun q => okC (cls .f32 (zs.getD q 0)) = true) hr.out ha)
        generalize zs.getD k 0 = x at e1 ha
        have g1 : fcmp .gtr (ford .f32 (cls .f32 x) (some 3212836864)) = true := by unfold okC at ha; simp only [Bool.and_eq_true] at ha; exact ha.1
        have g2 : fcmp .lss (ford .f32 (cls .f32 x) (some 1065353216)) = true := by unfold okC at ha; simp only [Bool.and_eq_true] at ha; exact ha.2
        clear ha
        go_wp2_with (refine wpList_fcmp rfl rfl rfl rfl rfl (is_self _ _) (is_const (by decide)) ?_; first | rw [g1] | rw [g2])
        go_roundw
        case rel => exact ⟨k + 1, by omega, by go_num, HG, hw.out⟩
        case measure => simp [intOf]; omega
    · have hkn : k = n := by omega
      subst hkn
      have HG := hid (ladder_good (by rw [HL.out]; omega) (by rw [HL.out]; omega) (fun j hj => hr.out j (by rw [HL.out] at hj; exact hj)))
      go_wp2
      go_ret
      exact ⟨by rw [HG.out]; exact ret_bool (by simp; try omega), hw.out⟩


theorem l04Ladder_drew (a : Option Addr) (n c : Nat) (zs : List Nat) (V : Bool) (w : World) (h : Holds .f32 w a n zs) (hn : n ≤ 1048576) (hV : ladderC (zs.map (cls .f32)) = V) :
    Calls Try.prog 80 #[.slice a n c] w fun e w' => e = .returned (.bool V) ∧ ∃ m, w' = w.drewN m := by
  subst hV; exact l04Ladder_any a n c zs w h hn

theorem ladderOnly_is (v : Value) (n B : Nat) (zs : List Nat) (R : List (Option Nat)) (O : Bool) (w : World) (h : Own w B n v zs) (hn : n ≤ 1048576) (hR : ladR (zs.map (cls .f32)) = (R, O)) :
    Calls Try.prog 83 #[v] w fun e w' => ∃ u, e = .returned (.tuple #[u, .bool O]) ∧ ListIs w' B R u ∧ Ext w w' := by
  obtain ⟨a, c, rfl, hh, _⟩ := Own.holds h
  have HO := hid h
  have HH := hid hh
  have HN := hid hn
  cases hV : ladderC (zs.map (cls .f32))
  · have e : O = false ∧ R = [] := by unfold ladR at hR; rw [hV] at hR; simpa [eq_comm, and_comm] using hR
    obtain ⟨rfl, rfl⟩ := e
    clear h hh hn hR
    go_enter Try.func83, Try.ntmps83
    go_wp2_with (go_at_call 82; with_reducible refine (isLadder_drew _ _ _ zs _ _ HH.out HN.out hV).mono ?_; rintro e w' ⟨rfl, m1, rfl⟩)
    go_ret2
    exact ⟨_, rfl, nil_is _ _, by (repeat with_reducible (first | exact Ext.refl _ | exact ext_alloc _ _ | refine Ext.drewN ?_ _ | refine Ext.drew1 ?_ | refine Ext.set ?_ (by dsimp only; omega) _ | refine Ext.alloc ?_ _))⟩
  · have e : O = true ∧ R = zs.map (cls .f32) := by unfold ladR at hR; rw [hV] at hR; simpa [eq_comm, and_comm] using hR
    obtain ⟨rfl, rfl⟩ := e
    clear h hh hn hR
    go_enter Try.func83, Try.ntmps83
    go_wp2_with (go_at_call 82; with_reducible refine (isLadder_drew _ _ _ zs _ _ HH.out HN.out hV).mono ?_; rintro e w' ⟨rfl, m1, rfl⟩)
    go_ret2
    exact ⟨_, rfl, list_is (Own.ext HO.out (by (repeat with_reducible (first | exact Ext.refl _ | exact ext_alloc _ _ | refine Ext.drewN ?_ _ | refine Ext.drew1 ?_ | refine Ext.set ?_ (by dsimp only; omega) _ | refine Ext.alloc ?_ _)))) rfl, by (repeat with_reducible (first | exact Ext.refl _ | exact ext_alloc _ _ | refine Ext.drewN ?_ _ | refine Ext.drew1 ?_ | refine Ext.set ?_ (by dsimp only; omega) _ | refine Ext.alloc ?_ _))⟩

end Go.Proofs.Ytofhemganefhcaa
