/- Ladders. -/
import Derived.Test.YtofhemganefhcaaW1
import Derived.Test.YtofhemganefhcaaT9
import Derived.Test.YtofhemganefhcaaT21
import Derived.Test.YtofhemganefhcaaT10
namespace Go.Proofs.Ytofhemganefhcaa
open Go.RowKit Flt
set_option linter.unusedVariables false


def ladderC (cs : List (Option Nat)) : Bool := decide (1 ≤ cs.length) && (decide (cs.length ≤ 16) && cs.all okC)
theorem ladder_bad {zs : List Nat} {j : Nat} (hj : j < zs.length) (h : okC (cls .f32 (zs.getD j 0)) = false) : ladderC (zs.map (cls .f32)) = false := by
  unfold ladderC; rw [all_bad hj h]; simp
theorem ladder_good {zs : List Nat} (h1 : 1 ≤ zs.length) (h2 : zs.length ≤ 16) (h : ∀ j, j < zs.length → okC (cls .f32 (zs.getD j 0)) = true) : ladderC (zs.map (cls .f32)) = true := by
  unfold ladderC; rw [all_good h]; simp [h1, h2]
theorem ladder_len {cs : List (Option Nat)} (h : ladderC cs = true) : 1 ≤ cs.length ∧ cs.length ≤ 16 := by
  unfold ladderC at h
  simp at h
  exact ⟨by omega, by omega⟩
def ladR (cs : List (Option Nat)) : List (Option Nat) × Bool := if ladderC cs then (cs, true) else ([], false)
def mixLR (s : Option Nat) (us vs : List Nat) : List (Option Nat) × Bool := if ladderC (us.map (cls .f32)) && (ladderC (vs.map (cls .f32)) && (decide (us.length = vs.length) && (fcmp .geq (ford .f32 s (some 0)) && fcmp .leq (ford .f32 s (some 1065353216))))) then ladR (mixC s (us.map (cls .f32)) (vs.map (cls .f32))) else ([], false)
theorem ladR_len (cs : List (Option Nat)) : (ladR cs).1.length ≤ 16 := by
  unfold ladR
  split
  · rename_i h; exact (ladder_len h).2
  · exact Nat.zero_le _
theorem mixL_len (s : Option Nat) (us vs : List Nat) : (mixLR s us vs).1.length ≤ 16 := by
  unfold mixLR
  split
  · exact ladR_len _
  · exact Nat.zero_le _
theorem isRung_any (b : Nat) (w : World) : Calls Try.prog 88 #[.float .f32 b] w fun e w' => e = .returned (.bool (okC (cls .f32 b))) ∧ w = w' := by
  unfold okC
  cases h1 : fcmp .gtr (ford .f32 (cls .f32 b) (some 3212836864))
  all_goals
    go_enter Try.func88, Try.ntmps88
    go_wp2_with (first | (refine wpList_fcmp rfl rfl rfl rfl rfl (is_self _ _) (is_const (by decide)) ?_; try simp only [h1]))
    go_ret
    exact ⟨rfl, rfl⟩

theorem isLadder_any (a : Option Addr) (n c : Nat) (zs : List Nat) (w : World) (h : Holds .f32 w a n zs) (hn : n ≤ 1048576) :
    Calls Try.prog 82 #[.slice a n c] w fun e w' => e = .returned (.bool (ladderC (zs.map (cls .f32)))) ∧ ∃ m, w' = w.drewN m := by
  obtain ⟨hl, hc⟩ := h
  by_cases h1 : n < 1
  · have HZ := hid (show ladderC (zs.map (cls .f32)) = false from by unfold ladderC; simp; omega)
    clear hc hl
    go_enter Try.func82, Try.ntmps82
    go_wp2
    go_ret
    exact ⟨by rw [HZ.out]; exact ret_bool (by first | (simp; done) | (simp; omega)), 0, rfl⟩
  by_cases h2 : 16 < n
  · have HZ := hid (show ladderC (zs.map (cls .f32)) = false from by unfold ladderC; simp; omega)
    clear hc hl
    go_enter Try.func82, Try.ntmps82
    go_wp2
    go_ret
    exact ⟨by rw [HZ.out]; exact ret_bool (by first | (simp; done) | (simp; omega)), 0, rfl⟩
  rcases hc with h0 | ⟨b, off, rfl, hb, hc⟩
  · omega
  have HC := hid hc
  have HL := hid hl
  clear hc hl
  go_enter Try.func82, Try.ntmps82
  go_wp2
  go_loopw [15] (fun i wr => ∃ k : Nat, k ≤ n ∧ i = .int .i64 k ∧ Hid (∀ q, q < k → okC (cls .f32 (zs.getD q 0)) = true) ∧ Hid (∃ m, wr = w.drewN m)) (fun i _ => n - (intOf i).toNat)
  case atStart => exact ⟨0, Nat.zero_le _, rfl, hid (fun q hq => by omega), 0, rfl⟩
  case round =>
    obtain ⟨k, hk, rfl, hr, hw⟩ := hrel
    by_cases hlt : k < n
    · have e1 : wr.cell? ⟨b, off + k, none⟩ = some (.float .f32 (zs.getD k 0)) := by obtain ⟨m, hm⟩ := hw.out; rw [hm]; exact HC.out k hlt
      cases ha : okC (cls .f32 (zs.getD k 0))
      · have HB := hid (ladder_bad (by rw [HL.out]; exact hlt) ha)
        generalize zs.getD k 0 = x at e1 ha
        go_wp2_with (go_at_call 88; refine (isRung_any _ _).mono ?_; rintro e w' ⟨rfl, rfl⟩; simp only [ha])
        go_ret
        exact ⟨by rw [HB.out]; rfl, hw.out⟩
      · have HG := hid (upto_succ (P := fun q => okC (cls .f32 (zs.getD q 0)) = true) hr.out ha)
        generalize zs.getD k 0 = x at e1 ha
        go_wp2_with (go_at_call 88; refine (isRung_any _ _).mono ?_; rintro e w' ⟨rfl, rfl⟩; simp only [ha])
        go_roundw
        case rel => exact ⟨k + 1, by omega, by go_num, HG, hw.out⟩
        case measure => simp [intOf]; omega
    · have hkn : k = n := by omega
      subst hkn
      have HG := hid (ladder_good (by rw [HL.out]; omega) (by rw [HL.out]; omega) (fun j hj => hr.out j (by rw [HL.out] at hj; exact hj)))
      go_wp2
      go_ret
      exact ⟨by rw [HG.out]; exact ret_bool (by simp; try omega), hw.out⟩

theorem isLadder_drew (a : Option Addr) (n c : Nat) (zs : List Nat) (V : Bool) (w : World) (h : Holds .f32 w a n zs) (hn : n ≤ 1048576) (hV : ladderC (zs.map (cls .f32)) = V) :
    Calls Try.prog 82 #[.slice a n c] w fun e w' => e = .returned (.bool V) ∧ ∃ m, w' = w.drewN m := by
  subst hV; exact isLadder_any a n c zs w h hn

theorem l04Ladder_any (a : Option Addr) (n c : Nat) (zs : List Nat) (w : World) (h : Holds .f32 w a n zs) (hn : n ≤ 1048576) :
    Calls Try.prog 80 #[.slice a n c] w fun e w' => e = .returned (.bool (ladderC (zs.map (cls .f32)))) ∧ ∃ m, w' = w.drewN m := by
  obtain ⟨hl, hc⟩ := h
  by_cases h1 : n < 1
  · have HZ := hid (show ladderC (zs.map (cls .f32)) = false from by unfold ladderC; simp; omega)
    clear hc hl
    go_enter Try.func80, Try.ntmps80
    go_wp2
    refine wp_loop_rounds 1 ?_
    rw [rounds_succ]
    go_wp2
    go_ret
    exact ⟨by rw [HZ.out]; exact ret_bool (by first | (simp; done) | (simp; omega)), 0, rfl⟩
  by_cases h2 : 16 < n
  · have HZ := hid (show ladderC (zs.map (cls .f32)) = false from by unfold ladderC; simp; omega)
    clear hc hl
    go_enter Try.func80, Try.ntmps80
    go_wp2
    refine wp_loop_rounds 1 ?_
    rw [rounds_succ]
    go_wp2
    go_ret
    exact ⟨by rw [HZ.out]; exact ret_bool (by first | (simp; done) | (simp; omega)), 0, rfl⟩
  rcases hc with h0 | ⟨b, off, rfl, hb, hc⟩
  · omega
  have HC := hid hc
  have HL := hid hl
  clear hc hl
  go_enter Try.func80, Try.ntmps80
  go_wp2
  go_loopw [3] (fun i wr => ∃ k : Nat, k ≤ n ∧ i = .int .i64 k ∧ Hid (∀ q, q < k → okC (cls .f32 (zs.getD q 0)) = true) ∧ Hid (∃ m, wr = w.drewN m)) (fun i _ => n - (intOf i).toNat)
  case atStart => exact ⟨0, Nat.zero_le _, rfl, hid (fun q hq => by omega), 0, rfl⟩
  case round =>
    obtain ⟨k, hk, rfl, hr, hw⟩ := hrel
    by_cases hlt : k < n
    · have e1 : wr.cell? ⟨b, off + k, none⟩ = some (.float .f32 (zs.getD k 0)) := by obtain ⟨m, hm⟩ := hw.out; rw [hm]; exact HC.out k hlt
      cases ha : okC (cls .f32 (zs.getD k 0))
      · have HB := hid (ladder_bad (by rw [HL.out]; exact hlt) ha)
        generalize zs.getD k 0 = x at e1 ha
        unfold okC at ha
        cases g1 : fcmp .gtr (ford .f32 (cls .f32 x) (some 3212836864))
        · go_wp2_with (refine wpList_fcmp rfl rfl rfl rfl rfl (is_self _ _) (is_const (by decide)) ?_; rw [g1])
          go_ret
          exact ⟨by rw [HB.out]; rfl, hw.out⟩
        · have g2 : fcmp .lss (ford .f32 (cls .f32 x) (some 1065353216)) = false := by rw [g1] at ha; simpa using ha
          clear ha
          go_wp2_with (refine wpList_fcmp rfl rfl rfl rfl rfl (is_self _ _) (is_const (by decide)) ?_; first | rw [g1] | rw [g2])
          go_ret
          exact ⟨by rw [HB.out]; rfl, hw.out⟩
      · have HG := hid (upto_succ (P := fun q => okC (cls .f32 (zs.getD q 0)) = true) hr.out ha)
        generalize zs.getD k 0 = x at e1 ha
        have g1 : fcmp .gtr (ford .f32 (cls .f32 x) (some 3212836864)) = true := by unfold okC at ha; simp only [Bool.and_eq_true] at ha; exact ha.1
        have g2 : fcmp .lss (ford .f32 (cls .f32 x) (some 1065353216)) = true := by unfold okC at ha; simp only [Bool.and_eq_true] at ha; exact ha.2
        clear ha
        go_wp2_with (refine wpList_fcmp rfl rfl rfl rfl rfl (is_self _ _) (is_const (by decide)) ?_; first | rw [g1] | rw [g2])
        go_roundw
        case rel => exact ⟨k + 1, by omega, by go_num, HG, hw.out⟩
        case measure => simp [intOf]; omega
    · have hkn : k = n := by omega
      subst hkn
      have HG := hid (ladder_good (by rw [HL.out]; omega) (by rw [HL.out]; omega) (fun j hj => hr.out j (by rw [HL.out] at hj; exact hj)))
      go_wp2
      go_ret
      exact ⟨by rw [HG.out]; exact ret_bool (by simp; try omega), hw.out⟩


theorem l04Ladder_drew (a : Option Addr) (n c : Nat) (zs : List Nat) (V : Bool) (w : World) (h : Holds .f32 w a n zs) (hn : n ≤ 1048576) (hV : ladderC (zs.map (cls .f32)) = V) :
    Calls Try.prog 80 #[.slice a n c] w fun e w' => e = .returned (.bool V) ∧ ∃ m, w' = w.drewN m := by
  subst hV; exact l04Ladder_any a n c zs w h hn

theorem ladderOnly_is (v : Value) (n B : Nat) (zs : List Nat) (R : List (Option Nat)) (O : Bool) (w : World) (h : Own w B n v zs) (hn : n ≤ 1048576) (hR : ladR (zs.map (cls .f32)) = (R, O)) :
    Calls Try.prog 83 #[v] w fun e w' => ∃ u, e = .returned (.tuple #[u, .bool O]) ∧ ListIs w' B R u ∧ Ext w w' := by
  obtain ⟨a, c, rfl, hh, _⟩ := Own.holds h
  have HO := hid h
  have HH := hid hh
  have HN := hid hn
  cases hV : ladderC (zs.map (cls .f32))
  · have e : O = false ∧ R = [] := by unfold ladR at hR; rw [hV] at hR; simpa [eq_comm, and_comm] using hR
    obtain ⟨rfl, rfl⟩ := e
    clear h hh hn hR
    go_enter Try.func83, Try.ntmps83
    go_wp2_with (go_at_call 82; with_reducible refine (isLadder_drew _ _ _ zs _ _ HH.out HN.out hV).mono ?_; rintro e w' ⟨rfl, m1, rfl⟩)
    go_ret2
    exact ⟨_, rfl, nil_is _ _, by (repeat with_reducible (first | exact Ext.refl _ | exact ext_alloc _ _ | refine Ext.drewN ?_ _ | refine Ext.drew1 ?_ | refine Ext.set ?_ (by dsimp only; omega) _ | refine Ext.alloc ?_ _))⟩
  · have e : O = true ∧ R = zs.map (cls .f32) := by unfold ladR at hR; rw [hV] at hR; simpa [eq_comm, and_comm] using hR
    obtain ⟨rfl, rfl⟩ := e
    clear h hh hn hR
    go_enter Try.func83, Try.ntmps83
    go_wp2_with (go_at_call 82; with_reducible refine (isLadder_drew _ _ _ zs _ _ HH.out HN.out hV).mono ?_; rintro e w' ⟨rfl, m1, rfl⟩)
    go_ret2
    exact ⟨_, rfl, list_is (Own.ext HO.out (by (repeat with_reducible (first | exact Ext.refl _ | exact ext_alloc _ _ | refine Ext.drewN ?_ _ | refine Ext.drew1 ?_ | refine Ext.set ?_ (by dsimp only; omega) _ | refine Ext.alloc ?_ _)))) rfl, by (repeat with_reducible (first | exact Ext.refl _ | exact ext_alloc _ _ | refine Ext.drewN ?_ _ | refine Ext.drew1 ?_ | refine Ext.set ?_ (by dsimp only; omega) _ | refine Ext.alloc ?_ _))⟩



theorem l02Share_is (b : Nat) (V : Bool) (w : World) (h : shareC (cls .f32 b) = V) : Calls Try.prog 77 #[.float .f32 b] w fun e w' => e = .returned (.bool V) ∧ w = w' := by
  subst h; exact l02Share_any b w

set_option maxHeartbeats 4000000 in
set_option maxRecDepth 100000 in
theorem mixL_any (a1 a2 : Option Addr) (n m c1 c2 x : Nat) (us vs : List Nat) (R : List (Option Nat)) (O : Bool) (w : World) (h1 : Holds .f32 w a1 n us) (h2 : Holds .f32 w a2 m vs) (hn : n ≤ 1048576) (hm : m ≤ 1048576) (hR : mixLR (cls .f32 x) us vs = (R, O)) :
    Calls Try.prog 44 #[.slice a1 n c1, .slice a2 m c2, .float .f32 x] w fun e w' => ∃ v, e = .returned (.tuple #[v, .bool O]) ∧ ListIs w' w.heap.size R v ∧ Ext w w' := by
  have H1 := hid h1
  have H2 := hid h2
  have HN := hid hn
  have HM := hid hm
  have HR : Hid ((if ladderC (us.map (cls .f32)) && (ladderC (vs.map (cls .f32)) && (decide (n = m) && (fcmp .geq (ford .f32 (cls .f32 x) (some 0)) && fcmp .leq (ford .f32 (cls .f32 x) (some 1065353216))))) then ladR (mixC (cls .f32 x) (us.map (cls .f32)) (vs.map (cls .f32))) else ([], false)) = (R, O)) := by
    have := hR
    unfold mixLR at this
    rw [h1.1, h2.1] at this
    exact this
  clear h1 h2 hn hm hR
  cases hA : ladderC (us.map (cls .f32))
  · have e : O = false ∧ R = [] := by have := HR.out; rw [hA] at this; simpa [eq_comm, and_comm] using this
    obtain ⟨rfl, rfl⟩ := e
    go_enter Try.func44, Try.ntmps44
    go_wp2_with (first | (go_at_call 82; with_reducible refine (isLadder_drew a1 n c1 us _ _ (Holds.ext H1.out (by (repeat with_reducible (first | exact Ext.refl _ | exact ext_alloc _ _ | refine Ext.drewN ?_ _ | refine Ext.drew1 ?_ | refine Ext.set ?_ (by dsimp only; omega) _ | refine Ext.alloc ?_ _)))) HN.out hA).mono ?_; rintro e w' ⟨rfl, m1, rfl⟩))
    go_returns
    refine ⟨_, rfl, nil_is _ _, ?_⟩
    (repeat with_reducible (first | exact Ext.refl _ | exact ext_alloc _ _ | refine Ext.drewN ?_ _ | refine Ext.drew1 ?_ | refine Ext.set ?_ (by dsimp only; omega) _ | refine Ext.alloc ?_ _))
  cases hB : ladderC (vs.map (cls .f32))
  · have e : O = false ∧ R = [] := by have := HR.out; rw [hA, hB] at this; simpa [eq_comm, and_comm] using this
    obtain ⟨rfl, rfl⟩ := e
    go_enter Try.func44, Try.ntmps44
    go_wp2_with (first | (go_at_call 82; with_reducible refine (isLadder_drew a1 n c1 us _ _ (Holds.ext H1.out (by (repeat with_reducible (first | exact Ext.refl _ | exact ext_alloc _ _ | refine Ext.drewN ?_ _ | refine Ext.drew1 ?_ | refine Ext.set ?_ (by dsimp only; omega) _ | refine Ext.alloc ?_ _)))) HN.out hA).mono ?_; rintro e w' ⟨rfl, m1, rfl⟩) | (go_at_call 82; with_reducible refine (isLadder_drew a2 m c2 vs _ _ (Holds.ext H2.out (by (repeat with_reducible (first | exact Ext.refl _ | exact ext_alloc _ _ | refine Ext.drewN ?_ _ | refine Ext.drew1 ?_ | refine Ext.set ?_ (by dsimp only; omega) _ | refine Ext.alloc ?_ _)))) HM.out hB).mono ?_; rintro e w' ⟨rfl, m2, rfl⟩))
    go_returns
    refine ⟨_, rfl, nil_is _ _, ?_⟩
    (repeat with_reducible (first | exact Ext.refl _ | exact ext_alloc _ _ | refine Ext.drewN ?_ _ | refine Ext.drew1 ?_ | refine Ext.set ?_ (by dsimp only; omega) _ | refine Ext.alloc ?_ _))
  cases hC : decide (n = m)
  · have e : O = false ∧ R = [] := by have := HR.out; rw [hA, hB, hC] at this; simpa [eq_comm, and_comm] using this
    obtain ⟨rfl, rfl⟩ := e
    have hne : ¬ ((n : Int) = (m : Int)) := by have := of_decide_eq_false hC; omega
    clear hC
    go_enter Try.func44, Try.ntmps44
    go_wp2_with (first | (go_at_call 82; with_reducible refine (isLadder_drew a1 n c1 us _ _ (Holds.ext H1.out (by (repeat with_reducible (first | exact Ext.refl _ | exact ext_alloc _ _ | refine Ext.drewN ?_ _ | refine Ext.drew1 ?_ | refine Ext.set ?_ (by dsimp only; omega) _ | refine Ext.alloc ?_ _)))) HN.out hA).mono ?_; rintro e w' ⟨rfl, m1, rfl⟩) | (go_at_call 82; with_reducible refine (isLadder_drew a2 m c2 vs _ _ (Holds.ext H2.out (by (repeat with_reducible (first | exact Ext.refl _ | exact ext_alloc _ _ | refine Ext.drewN ?_ _ | refine Ext.drew1 ?_ | refine Ext.set ?_ (by dsimp only; omega) _ | refine Ext.alloc ?_ _)))) HM.out hB).mono ?_; rintro e w' ⟨rfl, m2, rfl⟩))
    go_returns
    refine ⟨_, rfl, nil_is _ _, ?_⟩
    (repeat with_reducible (first | exact Ext.refl _ | exact ext_alloc _ _ | refine Ext.drewN ?_ _ | refine Ext.drew1 ?_ | refine Ext.set ?_ (by dsimp only; omega) _ | refine Ext.alloc ?_ _))
  cases g1 : fcmp .geq (ford .f32 (cls .f32 x) (some 0))
  · have e : O = false ∧ R = [] := by have := HR.out; rw [hA, hB, hC, g1] at this; simpa [eq_comm, and_comm] using this
    obtain ⟨rfl, rfl⟩ := e
    obtain rfl := of_decide_eq_true hC
    clear hC
    go_enter Try.func44, Try.ntmps44
    go_wp2_with (first | (go_at_call 82; with_reducible refine (isLadder_drew a1 n c1 us _ _ (Holds.ext H1.out (by (repeat with_reducible (first | exact Ext.refl _ | exact ext_alloc _ _ | refine Ext.drewN ?_ _ | refine Ext.drew1 ?_ | refine Ext.set ?_ (by dsimp only; omega) _ | refine Ext.alloc ?_ _)))) HN.out hA).mono ?_; rintro e w' ⟨rfl, m1, rfl⟩) | (go_at_call 82; with_reducible refine (isLadder_drew a2 n c2 vs _ _ (Holds.ext H2.out (by (repeat with_reducible (first | exact Ext.refl _ | exact ext_alloc _ _ | refine Ext.drewN ?_ _ | refine Ext.drew1 ?_ | refine Ext.set ?_ (by dsimp only; omega) _ | refine Ext.alloc ?_ _)))) HM.out hB).mono ?_; rintro e w' ⟨rfl, m2, rfl⟩) | (refine wpList_fcmp rfl rfl rfl rfl rfl (by first | exact is_const (by decide) | assumption | exact is_self _ _) (by first | exact is_const (by decide) | exact is_self _ _) ?_; first | rw [g1]))
    go_returns
    refine ⟨_, rfl, nil_is _ _, ?_⟩
    (repeat with_reducible (first | exact Ext.refl _ | exact ext_alloc _ _ | refine Ext.drewN ?_ _ | refine Ext.drew1 ?_ | refine Ext.set ?_ (by dsimp only; omega) _ | refine Ext.alloc ?_ _))
  cases g2 : fcmp .leq (ford .f32 (cls .f32 x) (some 1065353216))
  · have e : O = false ∧ R = [] := by have := HR.out; rw [hA, hB, hC, g1, g2] at this; simpa [eq_comm, and_comm] using this
    obtain ⟨rfl, rfl⟩ := e
    obtain rfl := of_decide_eq_true hC
    clear hC
    go_enter Try.func44, Try.ntmps44
    go_wp2_with (first | (go_at_call 82; with_reducible refine (isLadder_drew a1 n c1 us _ _ (Holds.ext H1.out (by (repeat with_reducible (first | exact Ext.refl _ | exact ext_alloc _ _ | refine Ext.drewN ?_ _ | refine Ext.drew1 ?_ | refine Ext.set ?_ (by dsimp only; omega) _ | refine Ext.alloc ?_ _)))) HN.out hA).mono ?_; rintro e w' ⟨rfl, m1, rfl⟩) | (go_at_call 82; with_reducible refine (isLadder_drew a2 n c2 vs _ _ (Holds.ext H2.out (by (repeat with_reducible (first | exact Ext.refl _ | exact ext_alloc _ _ | refine Ext.drewN ?_ _ | refine Ext.drew1 ?_ | refine Ext.set ?_ (by dsimp only; omega) _ | refine Ext.alloc ?_ _)))) HM.out hB).mono ?_; rintro e w' ⟨rfl, m2, rfl⟩) | (refine wpList_fcmp rfl rfl rfl rfl rfl (by first | exact is_const (by decide) | assumption | exact is_self _ _) (by first | exact is_const (by decide) | exact is_self _ _) ?_; first | rw [g1] | rw [g2]))
    go_returns
    refine ⟨_, rfl, nil_is _ _, ?_⟩
    (repeat with_reducible (first | exact Ext.refl _ | exact ext_alloc _ _ | refine Ext.drewN ?_ _ | refine Ext.drew1 ?_ | refine Ext.set ?_ (by dsimp only; omega) _ | refine Ext.alloc ?_ _))
  obtain rfl := of_decide_eq_true hC
  have HS := hid (show ladR (mixC (cls .f32 x) (us.map (cls .f32)) (vs.map (cls .f32))) = (R, O) from by have := HR.out; rw [hA, hB, g1, g2] at this; simpa using this)
  clear hC HR
  obtain ⟨i0, hif, hz0, hz1, hz2⟩ := info_parts infoF
  have HI := hid (And.intro hif (And.intro hz0 (And.intro hz1 hz2)))
  clear hif hz0 hz1 hz2
  have hmk : ∀ w : World, (Instr.makeSlice 22 (.int .i64 (0 : Int)) (.int .i64 (n : Int))).run Try.prog w = .ok (.slice (some ⟨w.heap.size, 0, none⟩) 0 n) (w.alloc (.cells (madeCells #[.float .f32 0] n) 23)) := by
    intro w
    have := run_make (P := Try.prog) w 22 23 i0 (.float .f32 0) Try.underlying22 HI.out.1 HI.out.2.1 .i64 .i64 (0 : Int) (n : Int) (by have := HN.out; omega) (by have := HN.out; omega) (by rw [HI.out.2.2.2]; have := HN.out; omega) (by have := HN.out; omega)
    rw [HI.out.2.2.1] at this
    simpa [Value.cells] using this
  have HMC := hid (size_madeCells #[.float .f32 0] n)
  have HO0 := hid (fun (w0 : World) (hb : w.heap.size ≤ w0.heap.size) => World.ownsRow_made (e := 23) (size := 1) (base := w.heap.size) w0 (madeCells #[.float .f32 0] n) n hb (by have := HN.out; unfold maxLen; omega) (by rw [HMC.out]; omega))
  go_enter Try.func44, Try.ntmps44
  go_wp2_with (first | (go_at_call 82; with_reducible refine (isLadder_drew a1 n c1 us _ _ (Holds.ext H1.out (by (repeat with_reducible (first | exact Ext.refl _ | exact ext_alloc _ _ | refine Ext.drewN ?_ _ | refine Ext.drew1 ?_ | refine Ext.set ?_ (by dsimp only; omega) _ | refine Ext.alloc ?_ _)))) HN.out hA).mono ?_; rintro e w' ⟨rfl, m1, rfl⟩) | (go_at_call 82; with_reducible refine (isLadder_drew a2 n c2 vs _ _ (Holds.ext H2.out (by (repeat with_reducible (first | exact Ext.refl _ | exact ext_alloc _ _ | refine Ext.drewN ?_ _ | refine Ext.drew1 ?_ | refine Ext.set ?_ (by dsimp only; omega) _ | refine Ext.alloc ?_ _)))) HM.out hB).mono ?_; rintro e w' ⟨rfl, m2, rfl⟩) | (refine wpList_fcmp rfl rfl rfl rfl rfl (by first | exact is_const (by decide) | assumption | exact is_self _ _) (by first | exact is_const (by decide) | exact is_self _ _) ?_; first | rw [g1] | rw [g2]))
  go_loopw [8, 40] (fun v i wr => ∃ (k : Nat) (ys : List Nat), k ≤ n ∧ i = .int .i64 k ∧ Hid (Own wr w.heap.size k v ys) ∧ Hid (ys.map (cls .f32) = mixK (cls .f32 x) us vs k) ∧ Hid (Ext w wr)) (fun _ i _ => n - (intOf i).toNat)
  case atStart => exact ⟨0, [], Nat.zero_le _, rfl, hid (HO0.out _ (by first | exact Nat.le_refl _ | (simp; done))), rfl, hid (by (repeat with_reducible (first | exact Ext.refl _ | exact ext_alloc _ _ | refine Ext.drewN ?_ _ | refine Ext.drew1 ?_ | refine Ext.set ?_ (by dsimp only; omega) _ | refine Ext.alloc ?_ _)))⟩
  case round =>
    obtain ⟨k, ys, hk, rfl, ho, hyy, he⟩ := hrel
    have hn2 : n ≤ 1048576 := HN.out
    clear hmk
    by_cases hlt : k < n
    · have hi0 : (0 : Int) ≤ (k : Int) := by omega
      have hi1 : (k : Int) < (n : Int) := by omega
      obtain ⟨b, off, rfl, e1⟩ := cell_at H1.out he.out k hlt
      obtain ⟨b', off', rfl, e2⟩ := cell_at H2.out he.out k hlt
      have hs := hid (mix_snoc (cls .f32 x) us vs k)
      generalize us.getD k 0 = u at e1 hs
      generalize vs.getD k 0 = v at e2 hs
      have HSZ := hid (Ext.size he.out)
      go_wp2_with (first | (go_at_call 76; refine (between_any _ _ _ _ (is_self .f32 x) _).mono ?_; rintro e w' ⟨r, rfl, hr, m9, rfl⟩) | (at_builtin; refine wpList_append_lies _ rfl _ _ 22 rfl w.heap.size 23 i0 (.float .f32 0) 1 4 Try.underlying22 HI.out.1 HI.out.2.1 HI.out.2.2.1 HI.out.2.2.2 rfl (by decide) _ _ _ rfl (Own.ext ho.out (by (repeat with_reducible (first | exact Ext.refl _ | exact ext_alloc _ _ | refine Ext.drewN ?_ _ | refine Ext.drew1 ?_ | refine Ext.set ?_ (by dsimp only; omega) _ | refine Ext.alloc ?_ _)))) ⟨wr.heap.size, 0, none⟩ 1 1 [.float .f32 r] rfl rfl (World.news_of_block (heap_alloc_new _ _)) (by intro u hu; simp at hu; subst hu; rfl) (by omega) (by have h9 := HN.out; unfold maxLen; omega) (by have h9 := HN.out; omega) (by have h8 := HSZ.out; simp; omega) _ rfl ?_; intro g cap w1 hown hgrow hat hlt2))
      have h1 := hid (own_snoc10 hown)
      have h2 := hid (show Ext w w1 from But.below hgrow (Ext.trans he.out (by (repeat with_reducible (first | exact Ext.refl _ | exact ext_alloc _ _ | refine Ext.drewN ?_ _ | refine Ext.drew1 ?_ | refine Ext.set ?_ (by dsimp only; omega) _ | refine Ext.alloc ?_ _)))) (fun k2 hk2 => (Own.block ho.out k2 hk2).1))
      have h3 := hid (show (ys ++ [r]).map (cls .f32) = mixK (cls .f32 x) us vs (k + 1) from by rw [List.map_append, hyy.out, hs.out, ← Is.out hr]; rfl)
      clear hown hgrow hat hlt2
      go_wp2
      go_roundw
      case rel => exact ⟨k + 1, ys ++ [r], by omega, by go_num, h1, h3, h2⟩
      case measure => simp [intOf]; omega
    · have hkn : k = n := by omega
      subst hkn
      go_wp2_with fail
      refine (ladderOnly_is _ _ w.heap.size ys R O _ ho.out HN.out (by rw [hyy.out, mix_all (cls .f32 x) H1.out.1 H2.out.1]; exact HS.out)).mono ?_
      rintro e w1 ⟨u, rfl, hu, E1⟩
      have hu1 := hid hu
      have hx1 := hid (Ext.trans he.out E1)
      clear hu E1
      go_wp2
      go_ret2
      exact ⟨_, rfl, hu1.out, hx1.out⟩

set_option maxHeartbeats 4000000 in
set_option maxRecDepth 100000 in
theorem sMixL_any (a1 a2 : Option Addr) (n m c1 c2 x : Nat) (us vs : List Nat) (R : List (Option Nat)) (O : Bool) (w : World) (h1 : Holds .f32 w a1 n us) (h2 : Holds .f32 w a2 m vs) (hn : n ≤ 1048576) (hm : m ≤ 1048576) (hR : mixLR (cls .f32 x) us vs = (R, O)) :
    Calls Try.prog 43 #[.slice a1 n c1, .slice a2 m c2, .float .f32 x] w fun e w' => ∃ v, e = .returned (.tuple #[v, .bool O]) ∧ ListIs w' w.heap.size R v ∧ Ext w w' := by
  have H1 := hid h1
  have H2 := hid h2
  have HN := hid hn
  have HM := hid hm
  have HR : Hid ((if ladderC (us.map (cls .f32)) && (ladderC (vs.map (cls .f32)) && (decide (n = m) && (fcmp .geq (ford .f32 (cls .f32 x) (some 0)) && fcmp .leq (ford .f32 (cls .f32 x) (some 1065353216))))) then ladR (mixC (cls .f32 x) (us.map (cls .f32)) (vs.map (cls .f32))) else ([], false)) = (R, O)) := by
    have := hR
    unfold mixLR at this
    rw [h1.1, h2.1] at this
    exact this
  clear h1 h2 hn hm hR
  cases hA : ladderC (us.map (cls .f32))
  · have e : O = false ∧ R = [] := by have := HR.out; rw [hA] at this; simpa [eq_comm, and_comm] using this
    obtain ⟨rfl, rfl⟩ := e
    go_enter Try.func43, Try.ntmps43
    go_wp2_with (first | (go_at_call 80; with_reducible refine (l04Ladder_drew a1 n c1 us _ _ (Holds.ext H1.out (by (repeat with_reducible (first | exact Ext.refl _ | exact ext_alloc _ _ | refine Ext.drewN ?_ _ | refine Ext.drew1 ?_ | refine Ext.set ?_ (by dsimp only; omega) _ | refine Ext.alloc ?_ _)))) HN.out hA).mono ?_; rintro e w' ⟨rfl, m1, rfl⟩))
    go_returns
    refine ⟨_, rfl, nil_is _ _, ?_⟩
    (repeat with_reducible (first | exact Ext.refl _ | exact ext_alloc _ _ | refine Ext.drewN ?_ _ | refine Ext.drew1 ?_ | refine Ext.set ?_ (by dsimp only; omega) _ | refine Ext.alloc ?_ _))
  cases hB : ladderC (vs.map (cls .f32))
  · have e : O = false ∧ R = [] := by have := HR.out; rw [hA, hB] at this; simpa [eq_comm, and_comm] using this
    obtain ⟨rfl, rfl⟩ := e
    go_enter Try.func43, Try.ntmps43
    go_wp2_with (first | (go_at_call 80; with_reducible refine (l04Ladder_drew a1 n c1 us _ _ (Holds.ext H1.out (by (repeat with_reducible (first | exact Ext.refl _ | exact ext_alloc _ _ | refine Ext.drewN ?_ _ | refine Ext.drew1 ?_ | refine Ext.set ?_ (by dsimp only; omega) _ | refine Ext.alloc ?_ _)))) HN.out hA).mono ?_; rintro e w' ⟨rfl, m1, rfl⟩) | (go_at_call 80; with_reducible refine (l04Ladder_drew a2 m c2 vs _ _ (Holds.ext H2.out (by (repeat with_reducible (first | exact Ext.refl _ | exact ext_alloc _ _ | refine Ext.drewN ?_ _ | refine Ext.drew1 ?_ | refine Ext.set ?_ (by dsimp only; omega) _ | refine Ext.alloc ?_ _)))) HM.out hB).mono ?_; rintro e w' ⟨rfl, m2, rfl⟩))
    go_returns
    refine ⟨_, rfl, nil_is _ _, ?_⟩
    (repeat with_reducible (first | exact Ext.refl _ | exact ext_alloc _ _ | refine Ext.drewN ?_ _ | refine Ext.drew1 ?_ | refine Ext.set ?_ (by dsimp only; omega) _ | refine Ext.alloc ?_ _))
  cases hC : decide (n = m)
  · have e : O = false ∧ R = [] := by have := HR.out; rw [hA, hB, hC] at this; simpa [eq_comm, and_comm] using this
    obtain ⟨rfl, rfl⟩ := e
    have hne : ¬ ((n : Int) = (m : Int)) := by have := of_decide_eq_false hC; omega
    clear hC
    go_enter Try.func43, Try.ntmps43
    go_wp2_with (first | (go_at_call 80; with_reducible refine (l04Ladder_drew a1 n c1 us _ _ (Holds.ext H1.out (by (repeat with_reducible (first | exact Ext.refl _ | exact ext_alloc _ _ | refine Ext.drewN ?_ _ | refine Ext.drew1 ?_ | refine Ext.set ?_ (by dsimp only; omega) _ | refine Ext.alloc ?_ _)))) HN.out hA).mono ?_; rintro e w' ⟨rfl, m1, rfl⟩) | (go_at_call 80; with_reducible refine (l04Ladder_drew a2 m c2 vs _ _ (Holds.ext H2.out (by (repeat with_reducible (first | exact Ext.refl _ | exact ext_alloc _ _ | refine Ext.drewN ?_ _ | refine Ext.drew1 ?_ | refine Ext.set ?_ (by dsimp only; omega) _ | refine Ext.alloc ?_ _)))) HM.out hB).mono ?_; rintro e w' ⟨rfl, m2, rfl⟩))
    go_returns
    refine ⟨_, rfl, nil_is _ _, ?_⟩
    (repeat with_reducible (first | exact Ext.refl _ | exact ext_alloc _ _ | refine Ext.drewN ?_ _ | refine Ext.drew1 ?_ | refine Ext.set ?_ (by dsimp only; omega) _ | refine Ext.alloc ?_ _))
  cases g1 : fcmp .geq (ford .f32 (cls .f32 x) (some 0))
  · have e : O = false ∧ R = [] := by have := HR.out; rw [hA, hB, hC, g1] at this; simpa [eq_comm, and_comm] using this
    obtain ⟨rfl, rfl⟩ := e
    obtain rfl := of_decide_eq_true hC
    clear hC
    have hSH : shareC (cls .f32 x) = false := by unfold shareC; rw [g1]; rfl
    go_enter Try.func43, Try.ntmps43
    go_wp2_with (first | (go_at_call 80; with_reducible refine (l04Ladder_drew a1 n c1 us _ _ (Holds.ext H1.out (by (repeat with_reducible (first | exact Ext.refl _ | exact ext_alloc _ _ | refine Ext.drewN ?_ _ | refine Ext.drew1 ?_ | refine Ext.set ?_ (by dsimp only; omega) _ | refine Ext.alloc ?_ _)))) HN.out hA).mono ?_; rintro e w' ⟨rfl, m1, rfl⟩) | (go_at_call 80; with_reducible refine (l04Ladder_drew a2 n c2 vs _ _ (Holds.ext H2.out (by (repeat with_reducible (first | exact Ext.refl _ | exact ext_alloc _ _ | refine Ext.drewN ?_ _ | refine Ext.drew1 ?_ | refine Ext.set ?_ (by dsimp only; omega) _ | refine Ext.alloc ?_ _)))) HM.out hB).mono ?_; rintro e w' ⟨rfl, m2, rfl⟩) | (go_at_call 77; refine (l02Share_is _ _ _ hSH).mono ?_; rintro e w' ⟨rfl, rfl⟩))
    go_returns
    refine ⟨_, rfl, nil_is _ _, ?_⟩
    (repeat with_reducible (first | exact Ext.refl _ | exact ext_alloc _ _ | refine Ext.drewN ?_ _ | refine Ext.drew1 ?_ | refine Ext.set ?_ (by dsimp only; omega) _ | refine Ext.alloc ?_ _))
  cases g2 : fcmp .leq (ford .f32 (cls .f32 x) (some 1065353216))
  · have e : O = false ∧ R = [] := by have := HR.out; rw [hA, hB, hC, g1, g2] at this; simpa [eq_comm, and_comm] using this
    obtain ⟨rfl, rfl⟩ := e
    obtain rfl := of_decide_eq_true hC
    clear hC
    have hSH : shareC (cls .f32 x) = false := by unfold shareC; rw [g1, g2]; rfl
    go_enter Try.func43, Try.ntmps43
    go_wp2_with (first | (go_at_call 80; with_reducible refine (l04Ladder_drew a1 n c1 us _ _ (Holds.ext H1.out (by (repeat with_reducible (first | exact Ext.refl _ | exact ext_alloc _ _ | refine Ext.drewN ?_ _ | refine Ext.drew1 ?_ | refine Ext.set ?_ (by dsimp only; omega) _ | refine Ext.alloc ?_ _)))) HN.out hA).mono ?_; rintro e w' ⟨rfl, m1, rfl⟩) | (go_at_call 80; with_reducible refine (l04Ladder_drew a2 n c2 vs _ _ (Holds.ext H2.out (by (repeat with_reducible (first | exact Ext.refl _ | exact ext_alloc _ _ | refine Ext.drewN ?_ _ | refine Ext.drew1 ?_ | refine Ext.set ?_ (by dsimp only; omega) _ | refine Ext.alloc ?_ _)))) HM.out hB).mono ?_; rintro e w' ⟨rfl, m2, rfl⟩) | (go_at_call 77; refine (l02Share_is _ _ _ hSH).mono ?_; rintro e w' ⟨rfl, rfl⟩))
    go_returns
    refine ⟨_, rfl, nil_is _ _, ?_⟩
    (repeat with_reducible (first | exact Ext.refl _ | exact ext_alloc _ _ | refine Ext.drewN ?_ _ | refine Ext.drew1 ?_ | refine Ext.set ?_ (by dsimp only; omega) _ | refine Ext.alloc ?_ _))
  obtain rfl := of_decide_eq_true hC
  have HS := hid (show ladR (mixC (cls .f32 x) (us.map (cls .f32)) (vs.map (cls .f32))) = (R, O) from by have := HR.out; rw [hA, hB, g1, g2] at this; simpa using this)
  clear hC HR
  have hSH : shareC (cls .f32 x) = true := by unfold shareC; rw [g1, g2]; rfl
  go_enter Try.func43, Try.ntmps43
  go_wp2_with (first | (go_at_call 80; with_reducible refine (l04Ladder_drew a1 n c1 us _ _ (Holds.ext H1.out (by (repeat with_reducible (first | exact Ext.refl _ | exact ext_alloc _ _ | refine Ext.drewN ?_ _ | refine Ext.drew1 ?_ | refine Ext.set ?_ (by dsimp only; omega) _ | refine Ext.alloc ?_ _)))) HN.out hA).mono ?_; rintro e w' ⟨rfl, m1, rfl⟩) | (go_at_call 80; with_reducible refine (l04Ladder_drew a2 n c2 vs _ _ (Holds.ext H2.out (by (repeat with_reducible (first | exact Ext.refl _ | exact ext_alloc _ _ | refine Ext.drewN ?_ _ | refine Ext.drew1 ?_ | refine Ext.set ?_ (by dsimp only; omega) _ | refine Ext.alloc ?_ _)))) HM.out hB).mono ?_; rintro e w' ⟨rfl, m2, rfl⟩) | (go_at_call 77; refine (l02Share_is _ _ _ hSH).mono ?_; rintro e w' ⟨rfl, rfl⟩))
  refine (l02Mix_any a1 a2 n c1 c2 x us vs _ (Holds.ext H1.out (by (repeat with_reducible (first | exact Ext.refl _ | exact ext_alloc _ _ | refine Ext.drewN ?_ _ | refine Ext.drew1 ?_ | refine Ext.set ?_ (by dsimp only; omega) _ | refine Ext.alloc ?_ _)))) (Holds.ext H2.out (by (repeat with_reducible (first | exact Ext.refl _ | exact ext_alloc _ _ | refine Ext.drewN ?_ _ | refine Ext.drew1 ?_ | refine Ext.set ?_ (by dsimp only; omega) _ | refine Ext.alloc ?_ _)))) HN.out).mono ?_
  rintro e w2 ⟨b, c', ys, rfl, O2, hy, E2⟩
  have HO := hid (Own.base O2 (B' := w.heap.size) (by first | exact Nat.le_refl _ | (simp; done)))
  have HY := hid hy
  have HZ := hid (show Ext w w2 from Ext.trans (by (repeat with_reducible (first | exact Ext.refl _ | exact ext_alloc _ _ | refine Ext.drewN ?_ _ | refine Ext.drew1 ?_ | refine Ext.set ?_ (by dsimp only; omega) _ | refine Ext.alloc ?_ _))) E2)
  clear O2 E2 hy
  cases hV : ladderC (ys.map (cls .f32))
  · have e : O = false ∧ R = [] := by have := HS.out; unfold ladR at this; rw [← HY.out, hV] at this; simpa [eq_comm, and_comm] using this
    obtain ⟨rfl, rfl⟩ := e
    go_wp2_with (go_at_call 80; with_reducible refine (l04Ladder_drew _ _ _ ys _ _ (own_hold HO.out) HN.out hV).mono ?_; rintro e w' ⟨rfl, m1, rfl⟩)
    go_returns
    exact ⟨_, rfl, nil_is _ _, Ext.drewN HZ.out _⟩
  · have e : O = true ∧ R = ys.map (cls .f32) := by have := HS.out; unfold ladR at this; rw [← HY.out, hV] at this; simpa [eq_comm, and_comm] using this
    obtain ⟨rfl, rfl⟩ := e
    go_wp2_with (go_at_call 80; with_reducible refine (l04Ladder_drew _ _ _ ys _ _ (own_hold HO.out) HN.out hV).mono ?_; rintro e w' ⟨rfl, m1, rfl⟩)
    go_returns
    exact ⟨_, rfl, list_is (Own.drewN HO.out _) rfl, Ext.drewN HZ.out _⟩

end Go.Proofs.Ytofhemganefhcaa
