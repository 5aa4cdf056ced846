/- How often a sound crosses nothing. -/
import Derived.Test.YtpmjiabllmomjaaV17
namespace Go.Proofs.Ytpmjiabllmomjaa
open Go.RowKit Flt
set_option linter.unusedVariables false

/-- is this number less than nothing? -/
def negC (zs : List Nat) (k : Nat) : Bool := fcmp .lss (ford .f32 (cls .f32 (zs.getD k 0)) (some 0))
def crossN (zs : List Nat) : Nat → Nat
  | 0 => 0
  | t + 1 => crossN zs t + (if negC zs (t + 1) != negC zs t then 1 else 0)
theorem crossN_le (zs : List Nat) : ∀ t, crossN zs t ≤ t
  | 0 => Nat.le_refl _
  | t + 1 => by
    unfold crossN
    have := crossN_le zs t
    split <;> omega
def crossR (zs : List Nat) : Int × Bool := if soundB (zs.map (cls .f32)) then (((crossN zs (zs.length - 1) : Nat) : Int), true) else (0, false)
theorem sound_fin {zs : List Nat} (h : soundB (zs.map (cls .f32)) = true) (k : Nat) (hk : k < zs.length) : fin32 (cls .f32 (zs.getD k 0)) = true := by
  unfold soundB finsC at h
  simp only [Bool.and_eq_true] at h
  refine List.all_eq_true.1 h.2 _ ?_
  simp only [List.mem_map]
  exact ⟨zs.getD k 0, by simp [List.getD, hk], rfl⟩
theorem geq_zero {b : Nat} (h : fin32 (cls .f32 b) = true) : fcmp .geq (ford .f32 (cls .f32 b) (some 0)) = !fcmp .lss (ford .f32 (cls .f32 b) (some 0)) := by
  obtain ⟨hc, s, m, e, hr, h1, h2, h3⟩ := fin_read h
  have ho : ∃ o, FloatKind.f32.format.order b 0 = some o := by
    unfold Ieee.Format.order
    rw [hr, show FloatKind.f32.format.read 0 = .number false 0 (-149) from by decide]
    exact ⟨_, order_num s false m 0 e (-149) (-149) h2 (by omega)⟩
  obtain ⟨o, ho⟩ := ho
  rw [hc, show ford .f32 (some b) (some 0) = FloatKind.f32.format.order b 0 from rfl, ho]
  cases o <;> rfl

set_option maxHeartbeats 4000000 in
set_option maxRecDepth 100000 in
theorem cross_any (a : Option Addr) (n c : Nat) (zs : List Nat) (I : Int) (O : Bool) (w : World) (h : Holds .f32 w a n zs) (hn : n ≤ 1048576) (hR : crossR zs = (I, O)) :
    Calls Try.prog 24 #[.slice a n c] w fun e w' => e = .returned (.tuple #[.int .i64 I, .bool O]) ∧ Ext w w' := by
  have H1 := hid h
  have HN := hid hn
  have HL := hid h.1
  have HR := hid hR
  clear h hn hR
  cases hA : soundB (zs.map (cls .f32))
  · have e : O = false ∧ I = 0 := by have := HR.out; unfold crossR at this; rw [hA] at this; simpa [eq_comm, and_comm] using this
    obtain ⟨rfl, rfl⟩ := e
    go_enter Try.func24, Try.ntmps24
    go_wp2_with (first | (go_at_call 55; with_reducible refine (isSound_drew a n c zs _ _ (Holds.ext H1.out (by (repeat with_reducible (first | exact Ext.refl _ | exact ext_alloc _ _ | refine Ext.drewN ?_ _ | refine Ext.drew1 ?_ | refine Ext.set ?_ (by dsimp only; omega) _ | refine Ext.alloc ?_ _)))) HN.out hA).mono ?_; rintro e w' ⟨rfl, m1, rfl⟩))
    go_returns
    refine ⟨rfl, ?_⟩
    (repeat with_reducible (first | exact Ext.refl _ | exact ext_alloc _ _ | refine Ext.drewN ?_ _ | refine Ext.drew1 ?_ | refine Ext.set ?_ (by dsimp only; omega) _ | refine Ext.alloc ?_ _))
  have e : O = true ∧ I = ((crossN zs (n - 1) : Nat) : Int) := by have := HR.out; unfold crossR at this; rw [hA, HL.out] at this; simpa [eq_comm, and_comm] using this
  obtain ⟨rfl, rfl⟩ := e
  have HF := hid (fun k (hk : k < n) => sound_fin hA k (by rw [HL.out]; exact hk))
  have HB := hid (crossN_le zs)
  clear HR
  go_enter Try.func24, Try.ntmps24
  go_wp2_with (first | (go_at_call 55; with_reducible refine (isSound_drew a n c zs _ _ (Holds.ext H1.out (by (repeat with_reducible (first | exact Ext.refl _ | exact ext_alloc _ _ | refine Ext.drewN ?_ _ | refine Ext.drew1 ?_ | refine Ext.set ?_ (by dsimp only; omega) _ | refine Ext.alloc ?_ _)))) HN.out hA).mono ?_; rintro e w' ⟨rfl, m1, rfl⟩))
  go_loopw [4, 5] (fun s i wr => ∃ t : Nat, t ≤ n - 1 ∧ i = .int .i64 ((t + 1 : Nat) : Int) ∧ s = .int .i64 ((crossN zs t : Nat) : Int) ∧ Hid (Ext w wr)) (fun _ i _ => n + 1 - (intOf i).toNat)
  case atStart => exact ⟨0, Nat.zero_le _, rfl, rfl, hid (by (repeat with_reducible (first | exact Ext.refl _ | exact ext_alloc _ _ | refine Ext.drewN ?_ _ | refine Ext.drew1 ?_ | refine Ext.set ?_ (by dsimp only; omega) _ | refine Ext.alloc ?_ _)))⟩
  case round =>
    obtain ⟨t, ht, rfl, rfl, he⟩ := hrel
    have hn2 : n ≤ 1048576 := HN.out
    by_cases hlt : t + 1 < n
    · have hb := HB.out t
      have hs : Hid (crossN zs (t + 1) = crossN zs t + (if negC zs (t + 1) != negC zs t then 1 else 0)) := rfl
      have f1 := HF.out (t + 1) hlt
      have f2 := HF.out t (by omega)
      obtain ⟨b, off, rfl, e1⟩ := cell_at H1.out he.out (t + 1) hlt
      obtain ⟨b2, off2, ha, e2⟩ := cell_at H1.out he.out t (by omega)
      obtain ⟨rfl, rfl⟩ : b2 = b ∧ off2 = off := by simpa [eq_comm] using ha
      clear ha
      have g1 := geq_zero f1
      have g2 := geq_zero f2
      have hp : Hid (negC zs (t + 1) = fcmp .lss (ford .f32 (cls .f32 (zs.getD (t + 1) 0)) (some 0))) := rfl
      have hq : Hid (negC zs t = fcmp .lss (ford .f32 (cls .f32 (zs.getD t 0)) (some 0))) := rfl
      rw [hp.out, hq.out] at hs
      generalize zs.getD (t + 1) 0 = x at e1 g1 hs
      generalize zs.getD t 0 = y at e2 g2 hs
      clear hp hq f1 f2
      generalize hs0 : crossN zs t = s0 at hs hb
      have hi0 : (0 : Int) ≤ ((t + 1 : Nat) : Int) := by omega
      have hi1 : ((t + 1 : Nat) : Int) < (n : Int) := by omega
      have hi2 : ((t + 1 : Nat) : Int).toNat = t + 1 := rfl
      have hi3 : (0 : Int) ≤ (t : Int) := by omega
      have hi4 : (t : Int) < (n : Int) := by omega
      have hi5 : ((t + 1 : Nat) : Int) - 1 = (t : Int) := by omega
      generalize hk : t + 1 = k at *
      cases hx : fcmp .lss (ford .f32 (cls .f32 x) (some 0)) <;> cases hy : fcmp .lss (ford .f32 (cls .f32 y) (some 0))
      all_goals
        rw [hx] at g1
        rw [hy] at g2
        rw [hx, hy] at hs
        go_wp2_with fail
        refine wp_region_many (by kernel_rfl) (by kernel_rfl) (by kernel_rfl) ?_
        repeat (with_reducible refine wpM_cons ?_; first
          | (refine wpM_fcmp rfl rfl rfl rfl rfl (is_self .f32 x) (is_const (by decide)) ?_; first | rw [hx] | rw [g1])
          | (refine wpM_fcmp rfl rfl rfl rfl rfl (is_self .f32 y) (is_const (by decide)) ?_; first | rw [hy] | rw [g2])
          | (refine wpM_mult0 rfl rfl ?_; refine mult_isub (t : Int) rfl rfl rfl (by omega) (by omega) (by omega) ?_; simp only [Act.put, List.setIfInBounds_toArray, List.set_cons_zero, List.set_cons_succ])
          | (refine wpM_quiet rfl (fun K hK => ?_); go_simp; refine hK _ ?_; clear hK K))
        with_reducible refine wpM_nil ?_
        intro w3 hw3
        obtain ⟨nq, hw3⟩ := hw3
        subst hw3
        go_wp2
        go_roundw
        case rel => exact ⟨t + 1, by omega, by rw [hk]; go_num, by (rw [hk]; have := hs.out; simp at this; rw [this]; try go_num), hid (Ext.drewN he.out _)⟩
        case measure => simp [intOf]; omega
    · have htn : t = n - 1 := by omega
      subst htn
      have hi1 : ¬ (((n - 1 + 1 : Nat) : Int) < (n : Int)) := by omega
      go_wp2_with fail
      go_returns
      exact ⟨rfl, he.out⟩

set_option maxHeartbeats 4000000 in
set_option maxRecDepth 100000 in
theorem sCross_any (a : Option Addr) (n c : Nat) (zs : List Nat) (I : Int) (O : Bool) (w : World) (h : Holds .f32 w a n zs) (hn : n ≤ 1048576) (hR : crossR zs = (I, O)) :
    Calls Try.prog 23 #[.slice a n c] w fun e w' => e = .returned (.tuple #[.int .i64 I, .bool O]) ∧ Ext w w' := by
  have H1 := hid h
  have HN := hid hn
  have HL := hid h.1
  have HR := hid hR
  clear h hn hR
  cases hA : soundB (zs.map (cls .f32))
  · have e : O = false ∧ I = 0 := by have := HR.out; unfold crossR at this; rw [hA] at this; simpa [eq_comm, and_comm] using this
    obtain ⟨rfl, rfl⟩ := e
    go_enter Try.func23, Try.ntmps23
    go_wp2_with (first | (go_at_call 53; with_reducible refine (l03Sound_drew a n c zs _ _ (Holds.ext H1.out (by (repeat with_reducible (first | exact Ext.refl _ | exact ext_alloc _ _ | refine Ext.drewN ?_ _ | refine Ext.drew1 ?_ | refine Ext.set ?_ (by dsimp only; omega) _ | refine Ext.alloc ?_ _)))) HN.out hA).mono ?_; rintro e w' ⟨rfl, m1, rfl⟩))
    go_returns
    refine ⟨rfl, ?_⟩
    (repeat with_reducible (first | exact Ext.refl _ | exact ext_alloc _ _ | refine Ext.drewN ?_ _ | refine Ext.drew1 ?_ | refine Ext.set ?_ (by dsimp only; omega) _ | refine Ext.alloc ?_ _))
  have e : O = true ∧ I = ((crossN zs (n - 1) : Nat) : Int) := by have := HR.out; unfold crossR at this; rw [hA, HL.out] at this; simpa [eq_comm, and_comm] using this
  obtain ⟨rfl, rfl⟩ := e
  have HF := hid (fun k (hk : k < n) => sound_fin hA k (by rw [HL.out]; exact hk))
  have HB := hid (crossN_le zs)
  clear HR
  go_enter Try.func23, Try.ntmps23
  go_wp2_with (first | (go_at_call 53; with_reducible refine (l03Sound_drew a n c zs _ _ (Holds.ext H1.out (by (repeat with_reducible (first | exact Ext.refl _ | exact ext_alloc _ _ | refine Ext.drewN ?_ _ | refine Ext.drew1 ?_ | refine Ext.set ?_ (by dsimp only; omega) _ | refine Ext.alloc ?_ _)))) HN.out hA).mono ?_; rintro e w' ⟨rfl, m1, rfl⟩))
  go_loopw [4, 5] (fun s i wr => ∃ t : Nat, t ≤ n - 1 ∧ i = .int .i64 ((t + 1 : Nat) : Int) ∧ s = .int .i64 ((crossN zs t : Nat) : Int) ∧ Hid (Ext w wr)) (fun _ i _ => n + 1 - (intOf i).toNat)
  case atStart => exact ⟨0, Nat.zero_le _, rfl, rfl, hid (by (repeat with_reducible (first | exact Ext.refl _ | exact ext_alloc _ _ | refine Ext.drewN ?_ _ | refine Ext.drew1 ?_ | refine Ext.set ?_ (by dsimp only; omega) _ | refine Ext.alloc ?_ _)))⟩
  case round =>
    obtain ⟨t, ht, rfl, rfl, he⟩ := hrel
    have hn2 : n ≤ 1048576 := HN.out
    by_cases hlt : t + 1 < n
    · have hb := HB.out t
      have hs : Hid (crossN zs (t + 1) = crossN zs t + (if negC zs (t + 1) != negC zs t then 1 else 0)) := rfl
      have f1 := HF.out (t + 1) hlt
      have f2 := HF.out t (by omega)
      obtain ⟨b, off, rfl, e1⟩ := cell_at H1.out he.out (t + 1) hlt
      obtain ⟨b2, off2, ha, e2⟩ := cell_at H1.out he.out t (by omega)
      obtain ⟨rfl, rfl⟩ : b2 = b ∧ off2 = off := by simpa [eq_comm] using ha
      clear ha
      have g1 := geq_zero f1
      have g2 := geq_zero f2
      have hp : Hid (negC zs (t + 1) = fcmp .lss (ford .f32 (cls .f32 (zs.getD (t + 1) 0)) (some 0))) := rfl
      have hq : Hid (negC zs t = fcmp .lss (ford .f32 (cls .f32 (zs.getD t 0)) (some 0))) := rfl
      rw [hp.out, hq.out] at hs
      generalize zs.getD (t + 1) 0 = x at e1 g1 hs
      generalize zs.getD t 0 = y at e2 g2 hs
      clear hp hq f1 f2
      generalize hs0 : crossN zs t = s0 at hs hb
      have hi0 : (0 : Int) ≤ ((t + 1 : Nat) : Int) := by omega
      have hi1 : ((t + 1 : Nat) : Int) < (n : Int) := by omega
      have hi2 : ((t + 1 : Nat) : Int).toNat = t + 1 := rfl
      have hi3 : (0 : Int) ≤ (t : Int) := by omega
      have hi4 : (t : Int) < (n : Int) := by omega
      have hi5 : ((t + 1 : Nat) : Int) - 1 = (t : Int) := by omega
      generalize hk : t + 1 = k at *
      cases hx : fcmp .lss (ford .f32 (cls .f32 x) (some 0)) <;> cases hy : fcmp .lss (ford .f32 (cls .f32 y) (some 0))
      all_goals
        rw [hx] at g1
        rw [hy] at g2
        rw [hx, hy] at hs
        go_wp2_with fail
        refine wp_region_many (by kernel_rfl) (by kernel_rfl) (by kernel_rfl) ?_
        repeat (with_reducible refine wpM_cons ?_; first
          | (refine wpM_fcmp rfl rfl rfl rfl rfl (is_self .f32 x) (is_const (by decide)) ?_; first | rw [hx] | rw [g1])
          | (refine wpM_fcmp rfl rfl rfl rfl rfl (is_self .f32 y) (is_const (by decide)) ?_; first | rw [hy] | rw [g2])
          | (refine wpM_mult0 rfl rfl ?_; refine mult_isub (t : Int) rfl rfl rfl (by omega) (by omega) (by omega) ?_; simp only [Act.put, List.setIfInBounds_toArray, List.set_cons_zero, List.set_cons_succ])
          | (refine wpM_quiet rfl (fun K hK => ?_); go_simp; refine hK _ ?_; clear hK K))
        with_reducible refine wpM_nil ?_
        intro w3 hw3
        obtain ⟨nq, hw3⟩ := hw3
        subst hw3
        go_wp2
        go_roundw
        case rel => exact ⟨t + 1, by omega, by rw [hk]; go_num, by (rw [hk]; have := hs.out; simp at this; rw [this]; try go_num), hid (Ext.drewN he.out _)⟩
        case measure => simp [intOf]; omega
    · have htn : t = n - 1 := by omega
      subst htn
      have hi1 : ¬ (((n - 1 + 1 : Nat) : Int) < (n : Int)) := by omega
      go_wp2_with fail
      go_returns
      exact ⟨rfl, he.out⟩

end Go.Proofs.Ytpmjiabllmomjaa
