/- Powers, and their centre. -/
import Derived.Test.YtpmjiabllmomjaaM1
import Derived.Test.YtpmjiabllmomjaaM3
import Derived.Test.YtpmjiabllmomjaaV1
namespace Go.Proofs.Ytpmjiabllmomjaa
open Go.RowKit Flt
set_option linter.unusedVariables false

/-- powers of a spectrum -/
def powB (cs : List (Option Nat)) : Bool := decide (cs.length ≤ 64) && cs.all leastC
theorem pow_len {cs : List (Option Nat)} (h : powB cs = true) : cs.length ≤ 64 := by
  unfold powB at h; simp only [Bool.and_eq_true, decide_eq_true_eq] at h; exact h.1
theorem pow_fin {zs : List Nat} (h : powB (zs.map (cls .f32)) = true) (k : Nat) (hk : k < zs.length) : fin32 (cls .f32 (zs.getD k 0)) = true := by
  unfold powB at h
  simp only [Bool.and_eq_true] at h
  have := List.all_eq_true.1 h.2 (cls .f32 (zs.getD k 0)) (by simp only [List.mem_map]; exact ⟨zs.getD k 0, by simp [List.getD, hk], rfl⟩)
  unfold leastC at this
  simp only [Bool.and_eq_true] at this
  first | exact this.1 | exact this.2
theorem least_of {b : Nat} (h : fin32 (cls .f32 b) = true) : leastC (cls .f32 b) = !fcmp .lss (ford .f32 (cls .f32 b) (some 0)) := by
  unfold leastC
  rw [h, geq_zero h]
  cases fcmp .lss (ford .f32 (cls .f32 b) (some 0)) <;> rfl
def momC (zs : List Nat) (k : Nat) : Option Nat := fop .mul .f32 (some (floatOfInt .f32 (k : Int))) (cls .f32 (zs.getD k 0))
def centreR (zs : List Nat) : Option Nat × Bool :=
  if powB (zs.map (cls .f32)) then
    (if fcmp .gtr (ford .f32 (sumK (fun k => cls .f32 (zs.getD k 0)) zs.length) (some 0)) then
      (finR (fop .quo .f32 (sumK (momC zs) zs.length) (sumK (fun k => cls .f32 (zs.getD k 0)) zs.length)), fin32 (fop .quo .f32 (sumK (momC zs) zs.length) (sumK (fun k => cls .f32 (zs.getD k 0)) zs.length)))
     else (some 0, false))
  else (some 0, false)

set_option maxHeartbeats 4000000 in
set_option maxRecDepth 100000 in
theorem arePow_drew (a : Option Addr) (n c : Nat) (zs : List Nat) (V : Bool) (w : World) (h : Holds .f32 w a n zs) (hn : n ≤ 1048576) (hV : powB (zs.map (cls .f32)) = V) :
    Calls Try.prog 66 #[.slice a n c] w fun e w' => e = .returned (.bool V) ∧ ∃ m, w' = w.drewN m := by
  have H1 := hid h
  have HN := hid hn
  have HL := hid h.1
  have HV := hid hV
  clear h hn hV
  by_cases hlen : 64 < n
  · have e : V = false := by have := HV.out; unfold powB at this; rw [← this]; simp [HL.out]; omega
    subst e
    go_enter Try.func66, Try.ntmps66
    go_wp2_with fail
    go_ret
    exact ⟨rfl, 0, rfl⟩
  cases hF : finsC (zs.map (cls .f32))
  · have e : V = false := by
      cases hV2 : V
      · rfl
      · exfalso
        have h2 := HV.out
        rw [hV2] at h2
        have : finsC (zs.map (cls .f32)) = true := all_good (fun j hj => pow_fin h2 j hj)
        rw [hF] at this; cases this
    subst e
    go_enter Try.func66, Try.ntmps66
    go_wp2_with (go_at_call 82; refine (areFinite_drew a n c zs _ _ (Holds.ext H1.out (by (repeat with_reducible (first | exact Ext.refl _ | exact ext_alloc _ _ | refine Ext.drewN ?_ _ | refine Ext.drew1 ?_ | refine Ext.set ?_ (by dsimp only; omega) _ | refine Ext.alloc ?_ _)))) HN.out hF).mono ?_; rintro e w' ⟨rfl, m1, rfl⟩)
    go_ret
    exact ⟨rfl, _, rfl⟩
  have HFF := hid (fun k (hk : k < n) => (show fin32 (cls .f32 (zs.getD k 0)) = true from by
    have h2 := hF
    unfold finsC at h2
    exact List.all_eq_true.1 h2 _ (by simp only [List.mem_map]; exact ⟨zs.getD k 0, by simp [List.getD, HL.out, hk], rfl⟩)))
  go_enter Try.func66, Try.ntmps66
  go_wp2_with (go_at_call 82; refine (areFinite_drew a n c zs _ _ (Holds.ext H1.out (by (repeat with_reducible (first | exact Ext.refl _ | exact ext_alloc _ _ | refine Ext.drewN ?_ _ | refine Ext.drew1 ?_ | refine Ext.set ?_ (by dsimp only; omega) _ | refine Ext.alloc ?_ _)))) HN.out hF).mono ?_; rintro e w' ⟨rfl, m1, rfl⟩)
  go_loopw [15] (fun i wr => ∃ k : Nat, k ≤ n ∧ i = .int .i64 k ∧ Hid (∀ q, q < k → leastC (cls .f32 (zs.getD q 0)) = true) ∧ Hid (∃ m, wr = w.drewN m)) (fun i _ => n - (intOf i).toNat)
  case atStart => exact ⟨0, Nat.zero_le _, rfl, hid (fun q hq => by omega), hid ⟨_, rfl⟩⟩
  case round =>
    obtain ⟨k, hk, rfl, hr, hw⟩ := hrel
    have hn2 : n ≤ 1048576 := HN.out
    by_cases hlt : k < n
    · have E0 : Ext w wr := by obtain ⟨q, hq⟩ := hw.out; rw [hq]; exact Ext.drewN (Ext.refl _) _
      obtain ⟨b, off, rfl, e1⟩ := cell_at H1.out E0 k hlt
      have hl := least_of (HFF.out k hlt)
      have hi0 : (0 : Int) ≤ (k : Int) := by omega
      have hi1 : (k : Int) < (n : Int) := by omega
      clear E0
      cases hx : fcmp .lss (ford .f32 (cls .f32 (zs.getD k 0)) (some 0))
      · have HG := hid (upto_succ (P := fun q => leastC (cls .f32 (zs.getD q 0)) = true) hr.out (by rw [hl, hx]; rfl))
        generalize zs.getD k 0 = x at e1 hl hx
        go_wp2_with (refine wpList_fcmp rfl rfl rfl rfl rfl (is_self _ _) (is_const (by decide)) ?_; rw [hx])
        go_roundw
        case rel => exact ⟨k + 1, by omega, by go_num, HG, hw⟩
        case measure => simp [intOf]; omega
      · have HB := hid (show V = false from by rw [← HV.out]; unfold powB; rw [all_bad (f := leastC) (by rw [HL.out]; exact hlt) (by rw [hl, hx]; rfl)]; simp)
        generalize zs.getD k 0 = x at e1 hl hx
        go_wp2_with (refine wpList_fcmp rfl rfl rfl rfl rfl (is_self _ _) (is_const (by decide)) ?_; rw [hx])
        go_ret
        exact ⟨by rw [HB.out]; rfl, hw.out⟩
    · have hkn : k = n := by omega
      subst hkn
      have HG := hid (show V = true from by rw [← HV.out]; unfold powB; rw [all_good (f := leastC) (fun j hj => hr.out j (by rw [HL.out] at hj; exact hj))]; simp [HL.out]; omega)
      go_wp2_with fail
      go_ret
      exact ⟨by rw [HG.out]; rfl, hw.out⟩

set_option maxHeartbeats 4000000 in
set_option maxRecDepth 100000 in
theorem l05Pow_drew (a : Option Addr) (n c : Nat) (zs : List Nat) (V : Bool) (w : World) (h : Holds .f32 w a n zs) (hn : n ≤ 1048576) (hV : powB (zs.map (cls .f32)) = V) :
    Calls Try.prog 64 #[.slice a n c] w fun e w' => e = .returned (.bool V) ∧ ∃ m, w' = w.drewN m := by
  have H1 := hid h
  have HN := hid hn
  have HL := hid h.1
  have HV := hid hV
  clear h hn hV
  go_enter Try.func64, Try.ntmps64
  go_wp2_with fail
  go_loopw [6] (fun i wr => ∃ k : Nat, k ≤ n ∧ i = .int .i64 k ∧ Hid (∀ q, q < k → leastC (cls .f32 (zs.getD q 0)) = true) ∧ Hid (∃ m, wr = w.drewN m)) (fun i _ => n - (intOf i).toNat)
  case atStart => exact ⟨0, Nat.zero_le _, rfl, hid (fun q hq => by omega), hid ⟨0, rfl⟩⟩
  case round =>
    obtain ⟨k, hk, rfl, hr, hw⟩ := hrel
    have hn2 : n ≤ 1048576 := HN.out
    by_cases hlt : k < n
    · have E0 : Ext w wr := by obtain ⟨q, hq⟩ := hw.out; rw [hq]; exact Ext.drewN (Ext.refl _) _
      obtain ⟨b, off, rfl, e1⟩ := cell_at H1.out E0 k hlt
      have hi0 : (0 : Int) ≤ (k : Int) := by omega
      have hi1 : (k : Int) < (n : Int) := by omega
      clear E0
      cases hl : leastC (cls .f32 (zs.getD k 0))
      · have HB := hid (show V = false from by rw [← HV.out]; unfold powB; rw [all_bad (f := leastC) (by rw [HL.out]; exact hlt) hl]; simp)
        generalize zs.getD k 0 = x at e1 hl
        go_wp2_with (go_at_call 84; refine (l02Least_is x _ _ hl).mono ?_; rintro e w' ⟨rfl, m1, rfl⟩)
        go_ret
        obtain ⟨q, hq⟩ := hw.out
        exact ⟨by rw [HB.out]; rfl, q + m1, by rw [hq, World.drewN_drewN]⟩
      · have HG := hid (upto_succ (P := fun q => leastC (cls .f32 (zs.getD q 0)) = true) hr.out hl)
        generalize zs.getD k 0 = x at e1 hl
        go_wp2_with (go_at_call 84; refine (l02Least_is x _ _ hl).mono ?_; rintro e w' ⟨rfl, m1, rfl⟩)
        go_roundw
        case rel => exact ⟨k + 1, by omega, by go_num, HG, by obtain ⟨q, hq⟩ := hw.out; exact hid ⟨q + m1, by rw [hq, World.drewN_drewN]⟩⟩
        case measure => simp [intOf]; omega
    · have hkn : k = n := by omega
      subst hkn
      have hA := all_good (f := leastC) (zs := zs) (fun j hj => hr.out j (by rw [HL.out] at hj; exact hj))
      by_cases hlen : k ≤ 64
      · have HG := hid (show V = true from by rw [← HV.out]; unfold powB; rw [hA]; simp [HL.out]; omega)
        go_wp2_with fail
        go_ret
        exact ⟨by rw [HG.out]; show Ending.returned (.bool (decide ((k : Int) ≤ 64))) = _; rw [decide_eq_true (by omega)], hw.out⟩
      · have HG := hid (show V = false from by rw [← HV.out]; unfold powB; rw [hA]; simp [HL.out]; omega)
        go_wp2_with fail
        go_ret
        exact ⟨by rw [HG.out]; show Ending.returned (.bool (decide ((k : Int) ≤ 64))) = _; rw [decide_eq_false (by omega)], hw.out⟩

theorem mom_clo (k x : Nat) (w : World) : Calls Try.prog 67 #[.int .i64 (k : Int), .float .f32 x] w fun e w' => ∃ r, e = .returned (.float .f32 r) ∧ cls .f32 r = fop .mul .f32 (some (floatOfInt .f32 (k : Int))) (cls .f32 x) ∧ ∃ q, w' = w.drewN q := by
  go_enter Try.func67, Try.ntmps67
  go_wp2_with (refine wpList_fa rfl rfl rfl rfl rfl (is_int _) (is_self _ _) ?_; intro r n hr hrw)
  go_ret
  exact ⟨_, rfl, hr.out, _, rfl⟩
theorem sumMom_any (a : Option Addr) (n c : Nat) (zs : List Nat) (w : World) (h : Holds .f32 w a n zs) (hn : n ≤ 1048576) :
    Calls Try.prog 62 #[.slice a n c, .func (.func 67) #[] #[]] w fun e w' => ∃ r, e = .returned (.float .f32 r) ∧ Is .f32 r (sumK (momC zs) n) ∧ ∃ q, w' = w.drewN q :=
  sumOver_any a n c 67 #[] zs _ w h hn (fun _ _ => by simp [go_sem]) fun k hk wr => mom_clo k _ wr

set_option maxHeartbeats 4000000 in
set_option maxRecDepth 100000 in
theorem centre_any (a : Option Addr) (n c : Nat) (zs : List Nat) (R : Option Nat) (O : Bool) (w : World) (h : Holds .f32 w a n zs) (hn : n ≤ 1048576) (hR : centreR zs = (R, O)) :
    Calls Try.prog 32 #[.slice a n c] w fun e w' => ∃ r, e = .returned (.tuple #[.float .f32 r, .bool O]) ∧ Is .f32 r R ∧ Ext w w' := by
  have H1 := hid h
  have HN := hid hn
  have HL := hid h.1
  have HR := hid hR
  clear h hn hR
  cases hA : powB (zs.map (cls .f32))
  · have e : O = false ∧ R = some 0 := by have := HR.out; unfold centreR at this; rw [hA] at this; simpa [eq_comm, and_comm] using this
    obtain ⟨rfl, rfl⟩ := e
    go_enter Try.func32, Try.ntmps32
    go_wp2_with (first | (go_at_call 66; refine (arePow_drew a n c zs _ _ (Holds.ext H1.out (by (repeat with_reducible (first | exact Ext.refl _ | exact ext_alloc _ _ | refine Ext.drewN ?_ _ | refine Ext.drew1 ?_ | refine Ext.set ?_ (by dsimp only; omega) _ | refine Ext.alloc ?_ _)))) HN.out hA).mono ?_; rintro e w' ⟨rfl, m1, rfl⟩))
    go_returns
    refine ⟨_, rfl, cls0, ?_⟩
    (repeat with_reducible (first | exact Ext.refl _ | exact ext_alloc _ _ | refine Ext.drewN ?_ _ | refine Ext.drew1 ?_ | refine Ext.set ?_ (by dsimp only; omega) _ | refine Ext.alloc ?_ _))
  obtain ⟨SA, hSA⟩ : ∃ SA, sumK (fun k => cls .f32 (zs.getD k 0)) n = SA := ⟨_, rfl⟩
  obtain ⟨SM, hSM⟩ : ∃ SM, sumK (momC zs) n = SM := ⟨_, rfl⟩
  have HSA := hid hSA
  have HSM := hid hSM
  clear hSA hSM
  have HR2 : Hid ((if fcmp .gtr (ford .f32 SA (some 0)) then (finR (fop .quo .f32 SM SA), fin32 (fop .quo .f32 SM SA)) else (some 0, false)) = (R, O)) := by
    have := HR.out
    unfold centreR at this
    rw [hA, HL.out, HSA.out, HSM.out] at this
    exact hid (by simpa using this)
  clear HR
  cases hg : fcmp .gtr (ford .f32 SA (some 0))
  · have e : O = false ∧ R = some 0 := by have := HR2.out; rw [hg] at this; simpa [eq_comm, and_comm] using this
    obtain ⟨rfl, rfl⟩ := e
    go_enter Try.func32, Try.ntmps32
    go_wp2_with (first | (go_at_call 66; refine (arePow_drew a n c zs _ _ (Holds.ext H1.out (by (repeat with_reducible (first | exact Ext.refl _ | exact ext_alloc _ _ | refine Ext.drewN ?_ _ | refine Ext.drew1 ?_ | refine Ext.set ?_ (by dsimp only; omega) _ | refine Ext.alloc ?_ _)))) HN.out hA).mono ?_; rintro e w' ⟨rfl, m1, rfl⟩) | (go_at_call 62; with_reducible refine (sumAll_any a n c zs _ (Holds.ext H1.out (by (repeat with_reducible (first | exact Ext.refl _ | exact ext_alloc _ _ | refine Ext.drewN ?_ _ | refine Ext.drew1 ?_ | refine Ext.set ?_ (by dsimp only; omega) _ | refine Ext.alloc ?_ _)))) HN.out).mono ?_; rintro e w' ⟨r1, rfl, hr1, m2, rfl⟩; rw [HSA.out] at hr1) | (refine wpList_fcmp rfl rfl rfl rfl rfl hr1 (is_const (by decide)) ?_; rw [hg]))
    go_returns
    refine ⟨_, rfl, cls0, ?_⟩
    (repeat with_reducible (first | exact Ext.refl _ | exact ext_alloc _ _ | refine Ext.drewN ?_ _ | refine Ext.drew1 ?_ | refine Ext.set ?_ (by dsimp only; omega) _ | refine Ext.alloc ?_ _))
  · have e : O = fin32 (fop .quo .f32 SM SA) ∧ R = finR (fop .quo .f32 SM SA) := by have := HR2.out; rw [hg] at this; simpa [eq_comm, and_comm] using this
    obtain ⟨rfl, rfl⟩ := e
    go_enter Try.func32, Try.ntmps32
    go_wp2_with (first | (go_at_call 66; refine (arePow_drew a n c zs _ _ (Holds.ext H1.out (by (repeat with_reducible (first | exact Ext.refl _ | exact ext_alloc _ _ | refine Ext.drewN ?_ _ | refine Ext.drew1 ?_ | refine Ext.set ?_ (by dsimp only; omega) _ | refine Ext.alloc ?_ _)))) HN.out hA).mono ?_; rintro e w' ⟨rfl, m1, rfl⟩) | (go_at_call 62; with_reducible refine (sumAll_any a n c zs _ (Holds.ext H1.out (by (repeat with_reducible (first | exact Ext.refl _ | exact ext_alloc _ _ | refine Ext.drewN ?_ _ | refine Ext.drew1 ?_ | refine Ext.set ?_ (by dsimp only; omega) _ | refine Ext.alloc ?_ _)))) HN.out).mono ?_; rintro e w' ⟨r1, rfl, hr1, m2, rfl⟩; rw [HSA.out] at hr1) | (go_at_call 62; with_reducible refine (sumMom_any a n c zs _ (Holds.ext H1.out (by (repeat with_reducible (first | exact Ext.refl _ | exact ext_alloc _ _ | refine Ext.drewN ?_ _ | refine Ext.drew1 ?_ | refine Ext.set ?_ (by dsimp only; omega) _ | refine Ext.alloc ?_ _)))) HN.out).mono ?_; rintro e w' ⟨r2, rfl, hr2, m3, rfl⟩; rw [HSM.out] at hr2) | (refine wpList_fcmp rfl rfl rfl rfl rfl hr1 (is_const (by decide)) ?_; rw [hg]) | (refine wpList_fa rfl rfl rfl rfl rfl hr2 hr1 ?_; intro r3 m4 hr3 hrw3) | (go_at_call 68; refine (finiteOnly_any _ _ hr3 _).mono ?_; rintro e w' ⟨r4, rfl, hr4, m5, rfl⟩))
    go_returns
    refine ⟨_, rfl, hr4, ?_⟩
    (repeat with_reducible (first | exact Ext.refl _ | exact ext_alloc _ _ | refine Ext.drewN ?_ _ | refine Ext.drew1 ?_ | refine Ext.set ?_ (by dsimp only; omega) _ | refine Ext.alloc ?_ _))

set_option maxHeartbeats 4000000 in
set_option maxRecDepth 100000 in
theorem sCentre_any (a : Option Addr) (n c : Nat) (zs : List Nat) (R : Option Nat) (O : Bool) (w : World) (h : Holds .f32 w a n zs) (hn : n ≤ 1048576) (hR : centreR zs = (R, O)) :
    Calls Try.prog 31 #[.slice a n c] w fun e w' => ∃ r, e = .returned (.tuple #[.float .f32 r, .bool O]) ∧ Is .f32 r R ∧ Ext w w' := by
  have H1 := hid h
  have HN := hid hn
  have HL := hid h.1
  have HR := hid hR
  clear h hn hR
  cases hA : powB (zs.map (cls .f32))
  · have e : O = false ∧ R = some 0 := by have := HR.out; unfold centreR at this; rw [hA] at this; simpa [eq_comm, and_comm] using this
    obtain ⟨rfl, rfl⟩ := e
    go_enter Try.func31, Try.ntmps31
    go_wp2_with (first | (go_at_call 64; refine (l05Pow_drew a n c zs _ _ (Holds.ext H1.out (by (repeat with_reducible (first | exact Ext.refl _ | exact ext_alloc _ _ | refine Ext.drewN ?_ _ | refine Ext.drew1 ?_ | refine Ext.set ?_ (by dsimp only; omega) _ | refine Ext.alloc ?_ _)))) HN.out hA).mono ?_; rintro e w' ⟨rfl, m1, rfl⟩))
    go_returns
    refine ⟨_, rfl, cls0, ?_⟩
    (repeat with_reducible (first | exact Ext.refl _ | exact ext_alloc _ _ | refine Ext.drewN ?_ _ | refine Ext.drew1 ?_ | refine Ext.set ?_ (by dsimp only; omega) _ | refine Ext.alloc ?_ _))
  obtain ⟨SA, hSA⟩ : ∃ SA, sumK (fun k => cls .f32 (zs.getD k 0)) n = SA := ⟨_, rfl⟩
  obtain ⟨SM, hSM⟩ : ∃ SM, sumK (momC zs) n = SM := ⟨_, rfl⟩
  have HSA := hid hSA
  have HSM := hid hSM
  clear hSA hSM
  have HR2 : Hid ((if fcmp .gtr (ford .f32 SA (some 0)) then (finR (fop .quo .f32 SM SA), fin32 (fop .quo .f32 SM SA)) else (some 0, false)) = (R, O)) := by
    have := HR.out
    unfold centreR at this
    rw [hA, HL.out, HSA.out, HSM.out] at this
    exact hid (by simpa using this)
  clear HR
  go_enter Try.func31, Try.ntmps31
  go_wp2_with (first | (go_at_call 64; refine (l05Pow_drew a n c zs _ _ (Holds.ext H1.out (by (repeat with_reducible (first | exact Ext.refl _ | exact ext_alloc _ _ | refine Ext.drewN ?_ _ | refine Ext.drew1 ?_ | refine Ext.set ?_ (by dsimp only; omega) _ | refine Ext.alloc ?_ _)))) HN.out hA).mono ?_; rintro e w' ⟨rfl, m1, rfl⟩))
  go_loopw [4, 5, 12] (fun s1 s2 i wr => ∃ (k u v : Nat), k ≤ n ∧ i = .int .i64 k ∧ s1 = .float .f32 u ∧ s2 = .float .f32 v ∧ Is .f32 u (sumK (momC zs) k) ∧ Is .f32 v (sumK (fun k => cls .f32 (zs.getD k 0)) k) ∧ Hid (Ext w wr)) (fun _ _ i _ => n - (intOf i).toNat)
  case atStart => exact ⟨0, 0, 0, Nat.zero_le _, rfl, rfl, rfl, cls0, cls0, hid (by (repeat with_reducible (first | exact Ext.refl _ | exact ext_alloc _ _ | refine Ext.drewN ?_ _ | refine Ext.drew1 ?_ | refine Ext.set ?_ (by dsimp only; omega) _ | refine Ext.alloc ?_ _)))⟩
  case round =>
    obtain ⟨k, u, v, hk, rfl, rfl, rfl, hu, hv, he⟩ := hrel
    have hn2 : n ≤ 1048576 := HN.out
    by_cases hlt : k < n
    · obtain ⟨b, off, rfl, e1⟩ := cell_at H1.out he.out k hlt
      have hs1 : Hid (sumK (momC zs) (k + 1) = fop .add .f32 (sumK (momC zs) k) (fop .mul .f32 (some (floatOfInt .f32 (k : Int))) (cls .f32 (zs.getD k 0)))) := rfl
      have hs2 : Hid (sumK (fun k => cls .f32 (zs.getD k 0)) (k + 1) = fop .add .f32 (sumK (fun k => cls .f32 (zs.getD k 0)) k) (cls .f32 (zs.getD k 0))) := rfl
      generalize sumK (momC zs) k = U at hu hs1
      generalize sumK (fun k => cls .f32 (zs.getD k 0)) k = V at hv hs2
      generalize zs.getD k 0 = x at e1 hs1 hs2
      have hi0 : (0 : Int) ≤ (k : Int) := by omega
      have hi1 : (k : Int) < (n : Int) := by omega
      go_wp2_with (first | (refine wpList_fa rfl rfl rfl rfl rfl (by first | assumption | exact is_const (by decide) | exact is_int _ | exact is_self _ _) (by first | assumption | exact is_const (by decide) | exact is_int _ | exact is_self _ _) ?_; intro r m9 hr hrw))
      go_roundw
      case rel => exact ⟨k + 1, _, _, by omega, by go_num, rfl, rfl, by rw [hs1.out]; assumption, by rw [hs2.out]; assumption, hid (Ext.trans he.out (by (repeat with_reducible (first | exact Ext.refl _ | exact ext_alloc _ _ | refine Ext.drewN ?_ _ | refine Ext.drew1 ?_ | refine Ext.set ?_ (by dsimp only; omega) _ | refine Ext.alloc ?_ _))))⟩
      case measure => simp [intOf]; omega
    · have hkn : k = n := by omega
      subst hkn
      have hr1 : Is .f32 v SA := by rw [← HSA.out]; exact hv
      have hr2 : Is .f32 u SM := by rw [← HSM.out]; exact hu
      clear hu hv
      cases hg : fcmp .gtr (ford .f32 SA (some 0))
      · have e : O = false ∧ R = some 0 := by have := HR2.out; rw [hg] at this; simpa [eq_comm, and_comm] using this
        obtain ⟨rfl, rfl⟩ := e
        go_wp2_with (first | (refine wpList_fcmp rfl rfl rfl rfl rfl hr1 (is_const (by decide)) ?_; rw [hg]))
        go_returns
        exact ⟨_, rfl, cls0, Ext.trans he.out (by (repeat with_reducible (first | exact Ext.refl _ | exact ext_alloc _ _ | refine Ext.drewN ?_ _ | refine Ext.drew1 ?_ | refine Ext.set ?_ (by dsimp only; omega) _ | refine Ext.alloc ?_ _)))⟩
      · have e : O = fin32 (fop .quo .f32 SM SA) ∧ R = finR (fop .quo .f32 SM SA) := by have := HR2.out; rw [hg] at this; simpa [eq_comm, and_comm] using this
        obtain ⟨rfl, rfl⟩ := e
        go_wp2_with (first | (refine wpList_fcmp rfl rfl rfl rfl rfl hr1 (is_const (by decide)) ?_; rw [hg]) | (refine wpList_fa rfl rfl rfl rfl rfl hr2 hr1 ?_; intro r3 m4 hr3 hrw3) | (go_at_call 65; refine (l02Number_any _ _ hr3 _).mono ?_; rintro e w' ⟨r4, rfl, hr4, m5, rfl⟩))
        go_returns
        exact ⟨_, rfl, hr4, Ext.trans he.out (by (repeat with_reducible (first | exact Ext.refl _ | exact ext_alloc _ _ | refine Ext.drewN ?_ _ | refine Ext.drew1 ?_ | refine Ext.set ?_ (by dsimp only; omega) _ | refine Ext.alloc ?_ _)))⟩

end Go.Proofs.Ytpmjiabllmomjaa
