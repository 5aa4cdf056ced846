/- How often a sound crosses nothing. -/
import Derived.Test.YtpmjiabllmomjaaV17
import Derived.Test.YtpmjiabllmomjaaFinOp
import Derived.Test.YtpmjiabllmomjaaV1
import Derived.Test.YtpmjiabllmomjaaW13
import Derived.Test.YtpmjiabllmomjaaShare
import Derived.Test.YtpmjiabllmomjaaI1
namespace Go.Proofs.Ytpmjiabllmomjaa
open Go.RowKit Flt
set_option linter.unusedVariables false


/-- is this number less than nothing? -/
def negC (zs : List Nat) (k : Nat) : Bool := fcmp .lss (ford .f32 (cls .f32 (zs.getD k 0)) (some 0))
def crossN (zs : List Nat) : Nat → Nat
  | 0 => 0
  | t + 1 => crossN zs t + (if negC zs (t + 1) != negC zs t then 1 else 0)
theorem crossN_le (zs : List Nat) : ∀ t, crossN zs t ≤ t
  | 0 => Nat.le_refl _
  | t + 1 => by
    unfold crossN
    have := crossN_le zs t
    split <;> omega
def crossR (zs : List Nat) : Int × Bool := if soundB (zs.map (cls .f32)) then (((crossN zs (zs.length - 1) : Nat) : Int), true) else (0, false)
theorem sound_fin {zs : List Nat} (h : soundB (zs.map (cls .f32)) = true) (k : Nat) (hk : k < zs.length) : fin32 (cls .f32 (zs.getD k 0)) = true := by
  unfold soundB finsC at h
  simp only [Bool.and_eq_true] at h
  refine List.all_eq_true.1 h.2 _ ?_
  simp only [List.mem_map]
  exact ⟨zs.getD k 0, by simp [List.getD, hk], rfl⟩
theorem geq_zero {b : Nat} (h : fin32 (cls .f32 b) = true) : fcmp .geq (ford .f32 (cls .f32 b) (some 0)) = !fcmp .lss (ford .f32 (cls .f32 b) (some 0)) := by
  obtain ⟨hc, s, m, e, hr, h1, h2, h3⟩ := fin_read h
  have ho : ∃ o, FloatKind.f32.format.order b 0 = some o := by
    unfold Ieee.Format.order
    rw [hr, show FloatKind.f32.format.read 0 = .number false 0 (-149) from by decide]
    exact ⟨_, order_num s false m 0 e (-149) (-149) h2 (by omega)⟩
  obtain ⟨o, ho⟩ := ho
  rw [hc, show ford .f32 (some b) (some 0) = FloatKind.f32.format.order b 0 from rfl, ho]
  cases o <;> rfl

set_option maxHeartbeats 4000000 in
set_option maxRecDepth 100000 in
theorem cross_any (a : Option Addr) (n c : Nat) (zs : List Nat) (I : Int) (O : Bool) (w : World) (h : Holds .f32 w a n zs) (hn : n ≤ 1048576) (hR : crossR zs = (I, O)) :
    Calls Try.prog 24 #[.slice a n c] w fun e w' => e = .returned (.tuple #[.int .i64 I, .bool O]) ∧ Ext w w' := by
  have H1 := hid h
  have HN := hid hn
  have HL := hid h.1
  have HR := hid hR
  clear h hn hR
  cases hA : soundB (zs.map (cls .f32))
  · have e : O = false ∧ I = 0 := by have := HR.out; unfold crossR at this; rw [hA] at this; simpa [eq_comm, and_comm] using this
    obtain ⟨rfl, rfl⟩ := e
    go_enter Try.func24, Try.ntmps24
    go_wp2_with (first | (go_at_call 55; with_reducible refine (isSound_drew a n c zs _ _ (Holds.ext H1.out (by (repeat with_reducible (first | exact Ext.refl _ | exact ext_alloc _ _ | refine Ext.drewN ?_ _ | refine Ext.drew1 ?_ | refine Ext.set ?_ (by dsimp only; omega) _ | refine Ext.alloc ?_ _)))) HN.out hA).mono ?_; rintro e w' ⟨rfl, m1, rfl⟩))
    go_returns
    refine ⟨rfl, ?_⟩
    (repeat with_reducible (first | exact Ext.refl _ | exact ext_alloc _ _ | refine Ext.drewN ?_ _ | refine Ext.drew1 ?_ | refine Ext.set ?_ (by dsimp only; omega) _ | refine Ext.alloc ?_ _))
  have e : O = true ∧ I = ((crossN zs (n - 1) : Nat) : Int) := by have := HR.out; unfold crossR at this; rw [hA, HL.out] at this; simpa [eq_comm, and_comm] using this
  obtain ⟨rfl, rfl⟩ := e
  have HF := hid (fun k (hk : k < n) => sound_fin hA k (by rw [HL.out]; exact hk))
  have HB := hid (crossN_le zs)
  clear HR
  go_enter Try.func24, Try.ntmps24
  go_wp2_with (first | (go_at_call 55; with_reducible refine (isSound_drew a n c zs _ _ (Holds.ext H1.out (by (repeat with_reducible (first | exact Ext.refl _ | exact ext_alloc _ _ | refine Ext.drewN ?_ _ | refine Ext.drew1 ?_ | refine Ext.set ?_ (by dsimp only; omega) _ | refine Ext.alloc ?_ _)))) HN.out hA).mono ?_; rintro e w' ⟨rfl, m1, rfl⟩))
  go_loopw [4, 5] (fun s i wr => ∃ t : Nat, t ≤ n - 1 ∧ i = .int .i64 ((t + 1 : Nat) : Int) ∧ s = .int .i64 ((crossN zs t : Nat) : Int) ∧ Hid (Ext w wr)) (fun _ i _ => n + 1 - (intOf i).toNat)
  case atStart => exact ⟨0, Nat.zero_le _, rfl, rfl, hid (by (repeat with_reducible (first | exact Ext.refl _ | exact ext_alloc _ _ | refine Ext.drewN ?_ _ | refine Ext.drew1 ?_ | refine Ext.set ?_ (by dsimp only; omega) _ | refine Ext.alloc ?_ _)))⟩
  case round =>
    obtain ⟨t, ht, rfl, rfl, he⟩ := hrel
    have hn2 : n ≤ 1048576 := HN.out
    by_cases hlt : t + 1 < n
    · have hb := HB.out t
      have hs : Hid (crossN zs (t + 1) = crossN zs t + (if negC zs (t + 1) != negC zs t then 1 else 0)) := rfl
      have f1 := HF.out (t + 1) hlt
      have f2 := HF.out t (by omega)
      obtain ⟨b, off, rfl, e1⟩ := cell_at H1.out he.out (t + 1) hlt
      obtain ⟨b2, off2, ha, e2⟩ := cell_at H1.out he.out t (by omega)
      obtain ⟨rfl, rfl⟩ : b2 = b ∧ off2 = off := by simpa [eq_comm] using ha
      clear ha
      have g1 := geq_zero f1
      have g2 := geq_zero f2
      have hp : Hid (negC zs (t + 1) = fcmp .lss (ford .f32 (cls .f32 (zs.getD (t + 1) 0)) (some 0))) := rfl
      have hq : Hid (negC zs t = fcmp .lss (ford .f32 (cls .f32 (zs.getD t 0)) (some 0))) := rfl
      rw [hp.out, hq.out] at hs
      generalize zs.getD (t + 1) 0 = x at e1 g1 hs
      generalize zs.getD t 0 = y at e2 g2 hs
      clear hp hq f1 f2
      generalize hs0 : crossN zs t = s0 at hs hb
      have hi0 : (0 : Int) ≤ ((t + 1 : Nat) : Int) := by omega
      have hi1 : ((t + 1 : Nat) : Int) < (n : Int) := by omega
      have hi2 : ((t + 1 : Nat) : Int).toNat = t + 1 := rfl
      have hi3 : (0 : Int) ≤ (t : Int) := by omega
      have hi4 : (t : Int) < (n : Int) := by omega
      have hi5 : ((t + 1 : Nat) : Int) - 1 = (t : Int) := by omega
      generalize hk : t + 1 = k at *
      cases hx : fcmp .lss (ford .f32 (cls .f32 x) (some 0)) <;> cases hy : fcmp .lss (ford .f32 (cls .f32 y) (some 0))
      all_goals
        rw [hx] at g1
        rw [hy] at g2
        rw [hx, hy] at hs
        go_wp2_with fail
        refine wp_region_many (by kernel_rfl) (by kernel_rfl) (by kernel_rfl) ?_
        repeat (with_reducible refine wpM_cons ?_; first
          | (refine wpM_fcmp rfl rfl rfl rfl rfl (is_self .f32 x) (is_const (by decide)) ?_; first | rw [hx] | rw [g1])
          | (refine wpM_fcmp rfl rfl rfl rfl rfl (is_self .f32 y) (is_const (by decide)) ?_; first | rw [hy] | rw [g2])
          | (refine wpM_mult0 rfl rfl ?_; refine mult_isub (t : Int) rfl rfl rfl (by omega) (by omega) (by omega) ?_; simp only [Act.put, List.setIfInBounds_toArray, List.set_cons_zero, List.set_cons_succ])
          | (refine wpM_quiet rfl (fun K hK => ?_); go_simp; refine hK _ ?_; clear hK K))
        with_reducible refine wpM_nil ?_
        intro w3 hw3
        obtain ⟨nq, hw3⟩ := hw3
        subst hw3
        go_wp2
        go_roundw
        case rel => exact ⟨t + 1, by omega, by rw [hk]; go_num, by (rw [hk]; have := hs.out; simp at this; rw [this]; try go_num), hid (Ext.drewN he.out _)⟩
        case measure => simp [intOf]; omega
    · have htn : t = n - 1 := by omega
      subst htn
      have hi1 : ¬ (((n - 1 + 1 : Nat) : Int) < (n : Int)) := by omega
      go_wp2_with fail
      go_returns
      exact ⟨rfl, he.out⟩

set_option maxHeartbeats 4000000 in
set_option maxRecDepth 100000 in
theorem sCross_any (a : Option Addr) (n c : Nat) (zs : List Nat) (I : Int) (O : Bool) (w : World) (h : Holds .f32 w a n zs) (hn : n ≤ 1048576) (hR : crossR zs = (I, O)) :
    Calls Try.prog 23 #[.slice a n c] w fun e w' => e = .returned (.tuple #[.int .i64 I, .bool O]) ∧ Ext w w' := by
  have H1 := hid h
  have HN := hid hn
  have HL := hid h.1
  have HR := hid hR
  clear h hn hR
  cases hA : soundB (zs.map (cls .f32))
  · have e : O = false ∧ I = 0 := by have := HR.out; unfold crossR at this; rw [hA] at this; simpa [eq_comm, and_comm] using this
    obtain ⟨rfl, rfl⟩ := e
    go_enter Try.func23, Try.ntmps23
    go_wp2_with (first | (go_at_call 53; with_reducible refine (l03Sound_drew a n c zs _ _ (Holds.ext H1.out (by (repeat with_reducible (first | exact Ext.refl _ | exact ext_alloc _ _ | refine Ext.drewN ?_ _ | refine Ext.drew1 ?_ | refine Ext.set ?_ (by dsimp only; omega) _ | refine Ext.alloc ?_ _)))) HN.out hA).mono ?_; rintro e w' ⟨rfl, m1, rfl⟩))
    go_returns
    refine ⟨rfl, ?_⟩
    (repeat with_reducible (first | exact Ext.refl _ | exact ext_alloc _ _ | refine Ext.drewN ?_ _ | refine Ext.drew1 ?_ | refine Ext.set ?_ (by dsimp only; omega) _ | refine Ext.alloc ?_ _))
  have e : O = true ∧ I = ((crossN zs (n - 1) : Nat) : Int) := by have := HR.out; unfold crossR at this; rw [hA, HL.out] at this; simpa [eq_comm, and_comm] using this
  obtain ⟨rfl, rfl⟩ := e
  have HF := hid (fun k (hk : k < n) => sound_fin hA k (by rw [HL.out]; exact hk))
  have HB := hid (crossN_le zs)
  clear HR
  go_enter Try.func23, Try.ntmps23
  go_wp2_with (first | (go_at_call 53; with_reducible refine (l03Sound_drew a n c zs _ _ (Holds.ext H1.out (by (repeat with_reducible (first | exact Ext.refl _ | exact ext_alloc _ _ | refine Ext.drewN ?_ _ | refine Ext.drew1 ?_ | refine Ext.set ?_ (by dsimp only; omega) _ | refine Ext.alloc ?_ _)))) HN.out hA).mono ?_; rintro e w' ⟨rfl, m1, rfl⟩))
  go_loopw [4, 5] (fun s i wr => ∃ t : Nat, t ≤ n - 1 ∧ i = .int .i64 ((t + 1 : Nat) : Int) ∧ s = .int .i64 ((crossN zs t : Nat) : Int) ∧ Hid (Ext w wr)) (fun _ i _ => n + 1 - (intOf i).toNat)
  case atStart => exact ⟨0, Nat.zero_le _, rfl, rfl, hid (by (repeat with_reducible (first | exact Ext.refl _ | exact ext_alloc _ _ | refine Ext.drewN ?_ _ | refine Ext.drew1 ?_ | refine Ext.set ?_ (by dsimp only; omega) _ | refine Ext.alloc ?_ _)))⟩
  case round =>
    obtain ⟨t, ht, rfl, rfl, he⟩ := hrel
    have hn2 : n ≤ 1048576 := HN.out
    by_cases hlt : t + 1 < n
    · have hb := HB.out t
      have hs : Hid (crossN zs (t + 1) = crossN zs t + (if negC zs (t + 1) != negC zs t then 1 else 0)) := rfl
      have f1 := HF.out (t + 1) hlt
      have f2 := HF.out t (by omega)
      obtain ⟨b, off, rfl, e1⟩ := cell_at H1.out he.out (t + 1) hlt
      obtain ⟨b2, off2, ha, e2⟩ := cell_at H1.out he.out t (by omega)
      obtain ⟨rfl, rfl⟩ : b2 = b ∧ off2 = off := by simpa [eq_comm] using ha
      clear ha
      have g1 := geq_zero f1
      have g2 := geq_zero f2
      have hp : Hid (negC zs (t + 1) = fcmp .lss (ford .f32 (cls .f32 (zs.getD (t + 1) 0)) (some 0))) := rfl
      have hq : Hid (negC zs t = fcmp .lss (ford .f32 (cls .f32 (zs.getD t 0)) (some 0))) := rfl
      rw [hp.out, hq.out] at hs
      generalize zs.getD (t + 1) 0 = x at e1 g1 hs
      generalize zs.getD t 0 = y at e2 g2 hs
      clear hp hq f1 f2
      generalize hs0 : crossN zs t = s0 at hs hb
      have hi0 : (0 : Int) ≤ ((t + 1 : Nat) : Int) := by omega
      have hi1 : ((t + 1 : Nat) : Int) < (n : Int) := by omega
      have hi2 : ((t + 1 : Nat) : Int).toNat = t + 1 := rfl
      have hi3 : (0 : Int) ≤ (t : Int) := by omega
      have hi4 : (t : Int) < (n : Int) := by omega
      have hi5 : ((t + 1 : Nat) : Int) - 1 = (t : Int) := by omega
      generalize hk : t + 1 = k at *
      cases hx : fcmp .lss (ford .f32 (cls .f32 x) (some 0)) <;> cases hy : fcmp .lss (ford .f32 (cls .f32 y) (some 0))
      all_goals
        rw [hx] at g1
        rw [hy] at g2
        rw [hx, hy] at hs
        go_wp2_with fail
        refine wp_region_many (by kernel_rfl) (by kernel_rfl) (by kernel_rfl) ?_
        repeat (with_reducible refine wpM_cons ?_; first
          | (refine wpM_fcmp rfl rfl rfl rfl rfl (is_self .f32 x) (is_const (by decide)) ?_; first | rw [hx] | rw [g1])
          | (refine wpM_fcmp rfl rfl rfl rfl rfl (is_self .f32 y) (is_const (by decide)) ?_; first | rw [hy] | rw [g2])
          | (refine wpM_mult0 rfl rfl ?_; refine mult_isub (t : Int) rfl rfl rfl (by omega) (by omega) (by omega) ?_; simp only [Act.put, List.setIfInBounds_toArray, List.set_cons_zero, List.set_cons_succ])
          | (refine wpM_quiet rfl (fun K hK => ?_); go_simp; refine hK _ ?_; clear hK K))
        with_reducible refine wpM_nil ?_
        intro w3 hw3
        obtain ⟨nq, hw3⟩ := hw3
        subst hw3
        go_wp2
        go_roundw
        case rel => exact ⟨t + 1, by omega, by rw [hk]; go_num, by (rw [hk]; have := hs.out; simp at this; rw [this]; try go_num), hid (Ext.drewN he.out _)⟩
        case measure => simp [intOf]; omega
    · have htn : t = n - 1 := by omega
      subst htn
      have hi1 : ¬ (((n - 1 + 1 : Nat) : Int) < (n : Int)) := by omega
      go_wp2_with fail
      go_returns
      exact ⟨rfl, he.out⟩



/-- a sum, number by number -/
def sumK (C : Nat → Option Nat) : Nat → Option Nat
  | 0 => some 0
  | k + 1 => fop .add .f32 (sumK C k) (C k)
theorem sumK_congr {C D : Nat → Option Nat} : ∀ {n : Nat}, (∀ k, k < n → C k = D k) → sumK C n = sumK D n
  | 0, _ => rfl
  | n + 1, h => by unfold sumK; rw [sumK_congr (fun k hk => h k (by omega)), h n (Nat.lt_succ_self _)]
/-- a number, or an infinity, and a finite one make no not-a-number -/
theorem add_some {X Y : Option Nat} (hX : ∃ b, X = some b ∧ nanW .f32 b = false) (hY : fin32 Y = true) (hN : ∀ b, Y = some b → nanW .f32 b = false) : ∃ b, fop .add .f32 X Y = some b ∧ nanW .f32 b = false := by
  obtain ⟨x, rfl, hx⟩ := hX
  cases Y with
  | none => simp [fin32] at hY
  | some y =>
    have hy : (FloatKind.f32.format.read y).isInfinity = false := by simpa [fin32] using hY
    have hyn := hN y rfl
    rw [← read_nan] at hx hyn
    have key : ∃ d, (FloatKind.f32.format.read x).sum (FloatKind.f32.format.read y) = some d := by
      generalize FloatKind.f32.format.read x = p at hx
      generalize FloatKind.f32.format.read y = q at hy hyn
      cases q with
      | nan s t => simp [Ieee.Datum.isNaN] at hyn
      | infinity s => simp [Ieee.Datum.isInfinity] at hy
      | number s m e =>
        cases p with
        | nan s t => simp [Ieee.Datum.isNaN] at hx
        | infinity s => exact ⟨_, rfl⟩
        | number s m e => exact ⟨_, rfl⟩
    obtain ⟨d, hd⟩ := key
    have hb : floatBits .add .f32 x y = some (FloatKind.f32.format.write d) := by
      simp only [floatBits, Ieee.Format.add, hd]; rfl
    exact ⟨_, hb, floatBits_num hb⟩
theorem sumK_some {C : Nat → Option Nat} (hC : ∀ k b, C k = some b → nanW .f32 b = false) : ∀ {n : Nat}, (∀ k, k < n → fin32 (C k) = true) → ∃ b, sumK C n = some b ∧ nanW .f32 b = false
  | 0, _ => ⟨0, rfl, by decide⟩
  | n + 1, h => add_some (sumK_some hC fun k hk => h k (by omega)) (h n (Nat.lt_succ_self _)) (hC n)

theorem isCount_yes (n : Int) (h : 1 ≤ n ∧ n ≤ 256) (w : World) : Calls Try.prog 49 #[.int .i64 n] w fun e w' => e = .returned (.bool true) ∧ w = w' := by
  obtain ⟨h1, h2⟩ := h
  go_enter Try.func49, Try.ntmps49
  go_wp2
  go_ret
  exact ⟨by first | rfl | (simp; done) | (simp; omega), rfl⟩
theorem isCount_no (n : Int) (h : ¬ (1 ≤ n ∧ n ≤ 256)) (w : World) : Calls Try.prog 49 #[.int .i64 n] w fun e w' => e = .returned (.bool false) ∧ w = w' := by
  by_cases h1 : 1 ≤ n
  · have h2 : ¬ n ≤ 256 := by omega
    go_enter Try.func49, Try.ntmps49
    go_wp2
    go_ret
    exact ⟨by first | rfl | (simp; done) | (simp; omega), rfl⟩
  · go_enter Try.func49, Try.ntmps49
    go_wp2
    go_ret
    exact ⟨by first | rfl | (simp; done) | (simp; omega), rfl⟩

set_option maxHeartbeats 4000000 in
set_option maxRecDepth 100000 in
theorem sumOver_any (a : Option Addr) (n c : Nat) (fid : FuncId) (caps : Array Value) (zs : List Nat) (C : Nat → Option Nat) (w : World) (h : Holds .f32 w a n zs) (hn : n ≤ 1048576)
    (he : ∀ args w, (callFunc fid args).run Try.prog w = .ok (.enter fid args) w)
    (hf : ∀ k, k < n → ∀ wr, Calls Try.prog fid (#[.int .i64 (k : Int), .float .f32 (zs.getD k 0)] ++ caps) wr fun e w' => ∃ r, e = .returned (.float .f32 r) ∧ cls .f32 r = C k ∧ ∃ q, w' = wr.drewN q) :
    Calls Try.prog 62 #[.slice a n c, .func (.func fid) #[] caps] w fun e w' => ∃ r, e = .returned (.float .f32 r) ∧ Is .f32 r (sumK C n) ∧ ∃ q, w' = w.drewN q := by
  have H1 := hid h
  have HN := hid hn
  have HF := hid hf
  clear h hn hf
  go_enter Try.func62, Try.ntmps62
  go_wp2_with fail
  go_loopw [5, 11] (fun s i wr => ∃ (k r : Nat), k ≤ n ∧ i = .int .i64 k ∧ s = .float .f32 r ∧ Is .f32 r (sumK C k) ∧ Hid (∃ q, wr = w.drewN q)) (fun _ i _ => n - (intOf i).toNat)
  case atStart => exact ⟨0, _, Nat.zero_le _, rfl, rfl, show cls .f32 (floatOfInt .f32 0) = some 0 from by decide, hid ⟨0, rfl⟩⟩
  case round =>
    obtain ⟨k, r0, hk, rfl, rfl, hr0, hw⟩ := hrel
    have hn2 : n ≤ 1048576 := HN.out
    by_cases hlt : k < n
    · have E0 : Ext w wr := by obtain ⟨q, hq⟩ := hw.out; rw [hq]; exact Ext.drewN (Ext.refl _) _
      obtain ⟨b, off, rfl, e1⟩ := cell_at H1.out E0 k hlt
      have hs : Hid (sumK C (k + 1) = fop .add .f32 (sumK C k) (C k)) := rfl
      have HC := HF.out k hlt
      generalize zs.getD k 0 = x at e1 HC
      generalize C k = Ck at hs HC
      have hi0 : (0 : Int) ≤ (k : Int) := by omega
      have hi1 : (k : Int) < (n : Int) := by omega
      clear E0
      go_wp2_with fail
      refine (HC _).mono ?_
      rintro e w1 ⟨r1, rfl, hr1, q1, rfl⟩
      go_wp2_with (refine wpList_fa rfl rfl rfl rfl rfl hr0 (show Is .f32 r1 Ck from hr1) ?_; intro r2 m2 hr2 hrw2)
      go_roundw
      case rel => exact ⟨k + 1, r2, by omega, by go_num, rfl, by rw [hs.out]; exact hr2, by obtain ⟨q, hq⟩ := hw.out; exact hid ⟨q + (q1 + m2), by rw [hq]; simp only [World.drewN_drewN]⟩⟩
      case measure => simp [intOf]; omega
    · have hkn : k = n := by omega
      subst hkn
      go_wp2_with fail
      go_ret
      exact ⟨_, rfl, hr0, hw.out⟩
theorem itself_any (k : Int) (x : Nat) (w : World) : Calls Try.prog 63 #[.int .i64 k, .float .f32 x] w fun e w' => e = .returned (.float .f32 x) ∧ w = w' := by
  go_enter Try.func63, Try.ntmps63
  go_wp2
  go_ret
  exact ⟨rfl, rfl⟩
theorem sumAll_any (a : Option Addr) (n c : Nat) (zs : List Nat) (w : World) (h : Holds .f32 w a n zs) (hn : n ≤ 1048576) :
    Calls Try.prog 62 #[.slice a n c, .func (.func 63) #[] #[]] w fun e w' => ∃ r, e = .returned (.float .f32 r) ∧ Is .f32 r (sumK (fun k => cls .f32 (zs.getD k 0)) n) ∧ ∃ q, w' = w.drewN q :=
  sumOver_any a n c 63 #[] zs _ w h hn (fun _ _ => by simp [go_sem]) fun k hk wr => by
    refine (itself_any _ _ _).mono ?_
    rintro e w' ⟨rfl, rfl⟩
    exact ⟨_, rfl, rfl, 0, rfl⟩



/-- powers of a spectrum -/
def powB (cs : List (Option Nat)) : Bool := decide (cs.length ≤ 64) && cs.all leastC
theorem pow_len {cs : List (Option Nat)} (h : powB cs = true) : cs.length ≤ 64 := by
  unfold powB at h; simp only [Bool.and_eq_true, decide_eq_true_eq] at h; exact h.1
theorem pow_fin {zs : List Nat} (h : powB (zs.map (cls .f32)) = true) (k : Nat) (hk : k < zs.length) : fin32 (cls .f32 (zs.getD k 0)) = true := by
  unfold powB at h
  simp only [Bool.and_eq_true] at h
  have := List.all_eq_true.1 h.2 (cls .f32 (zs.getD k 0)) (by simp only [List.mem_map]; exact ⟨zs.getD k 0, by simp [List.getD, hk], rfl⟩)
  unfold leastC at this
  simp only [Bool.and_eq_true] at this
  first | exact this.1 | exact this.2
theorem least_of {b : Nat} (h : fin32 (cls .f32 b) = true) : leastC (cls .f32 b) = !fcmp .lss (ford .f32 (cls .f32 b) (some 0)) := by
  unfold leastC
  rw [h, geq_zero h]
  cases fcmp .lss (ford .f32 (cls .f32 b) (some 0)) <;> rfl
def momC (zs : List Nat) (k : Nat) : Option Nat := fop .mul .f32 (some (floatOfInt .f32 (k : Int))) (cls .f32 (zs.getD k 0))
def centreR (zs : List Nat) : Option Nat × Bool :=
  if powB (zs.map (cls .f32)) then
    (if fcmp .gtr (ford .f32 (sumK (fun k => cls .f32 (zs.getD k 0)) zs.length) (some 0)) then
      (finR (fop .quo .f32 (sumK (momC zs) zs.length) (sumK (fun k => cls .f32 (zs.getD k 0)) zs.length)), fin32 (fop .quo .f32 (sumK (momC zs) zs.length) (sumK (fun k => cls .f32 (zs.getD k 0)) zs.length)))
     else (some 0, false))
  else (some 0, false)

set_option maxHeartbeats 4000000 in
set_option maxRecDepth 100000 in
theorem arePow_drew (a : Option Addr) (n c : Nat) (zs : List Nat) (V : Bool) (w : World) (h : Holds .f32 w a n zs) (hn : n ≤ 1048576) (hV : powB (zs.map (cls .f32)) = V) :
    Calls Try.prog 66 #[.slice a n c] w fun e w' => e = .returned (.bool V) ∧ ∃ m, w' = w.drewN m := by
  have H1 := hid h
  have HN := hid hn
  have HL := hid h.1
  have HV := hid hV
  clear h hn hV
  by_cases hlen : 64 < n
  · have e : V = false := by have := HV.out; unfold powB at this; rw [← this]; simp [HL.out]; omega
    subst e
    go_enter Try.func66, Try.ntmps66
    go_wp2_with fail
    go_ret
    exact ⟨rfl, 0, rfl⟩
  cases hF : finsC (zs.map (cls .f32))
  · have e : V = false := by
      cases hV2 : V
      · rfl
      · exfalso
        have h2 := HV.out
        rw [hV2] at h2
        have : finsC (zs.map (cls .f32)) = true := all_good (fun j hj => pow_fin h2 j hj)
        rw [hF] at this; cases this
    subst e
    go_enter Try.func66, Try.ntmps66
    go_wp2_with (go_at_call 82; refine (areFinite_drew a n c zs _ _ (Holds.ext H1.out (by (repeat with_reducible (first | exact Ext.refl _ | exact ext_alloc _ _ | refine Ext.drewN ?_ _ | refine Ext.drew1 ?_ | refine Ext.set ?_ (by dsimp only; omega) _ | refine Ext.alloc ?_ _)))) HN.out hF).mono ?_; rintro e w' ⟨rfl, m1, rfl⟩)
    go_ret
    exact ⟨rfl, _, rfl⟩
  have HFF := hid (fun k (hk : k < n) => (show fin32 (cls .f32 (zs.getD k 0)) = true from by
    have h2 := hF
    unfold finsC at h2
    exact List.all_eq_true.1 h2 _ (by simp only [List.mem_map]; exact ⟨zs.getD k 0, by simp [List.getD, HL.out, hk], rfl⟩)))
  go_enter Try.func66, Try.ntmps66
  go_wp2_with (go_at_call 82; refine (areFinite_drew a n c zs _ _ (Holds.ext H1.out (by (repeat with_reducible (first | exact Ext.refl _ | exact ext_alloc _ _ | refine Ext.drewN ?_ _ | refine Ext.drew1 ?_ | refine Ext.set ?_ (by dsimp only; omega) _ | refine Ext.alloc ?_ _)))) HN.out hF).mono ?_; rintro e w' ⟨rfl, m1, rfl⟩)
  go_loopw [15] (fun i wr => ∃ k : Nat, k ≤ n ∧ i = .int .i64 k ∧ Hid (∀ q, q < k → leastC (cls .f32 (zs.getD q 0)) = true) ∧ Hid (∃ m, wr = w.drewN m)) (fun i _ => n - (intOf i).toNat)
  case atStart => exact ⟨0, Nat.zero_le _, rfl, hid (fun q hq => by omega), hid ⟨_, rfl⟩⟩
  case round =>
    obtain ⟨k, hk, rfl, hr, hw⟩ := hrel
    have hn2 : n ≤ 1048576 := HN.out
    by_cases hlt : k < n
    · have E0 : Ext w wr := by obtain ⟨q, hq⟩ := hw.out; rw [hq]; exact Ext.drewN (Ext.refl _) _
      obtain ⟨b, off, rfl, e1⟩ := cell_at H1.out E0 k hlt
      have hl := least_of (HFF.out k hlt)
      have hi0 : (0 : Int) ≤ (k : Int) := by omega
      have hi1 : (k : Int) < (n : Int) := by omega
      clear E0
      cases hx : fcmp .lss (ford .f32 (cls .f32 (zs.getD k 0)) (some 0))
      · have HG := hid (upto_succ (P := fun q => leastC (cls .f32 (zs.getD q 0)) = true) hr.out (by rw [hl, hx]; rfl))
        generalize zs.getD k 0 = x at e1 hl hx
        go_wp2_with (refine wpList_fcmp rfl rfl rfl rfl rfl (is_self _ _) (is_const (by decide)) ?_; rw [hx])
        go_roundw
        case rel => exact ⟨k + 1, by omega, by go_num, HG, hw⟩
        case measure => simp [intOf]; omega
      · have HB := hid (show V = false from by rw [← HV.out]; unfold powB; rw [all_bad (f := leastC) (by rw [HL.out]; exact hlt) (by rw [hl, hx]; rfl)]; simp)
        generalize zs.getD k 0 = x at e1 hl hx
        go_wp2_with (refine wpList_fcmp rfl rfl rfl rfl rfl (is_self _ _) (is_const (by decide)) ?_; rw [hx])
        go_ret
        exact ⟨by rw [HB.out]; rfl, hw.out⟩
    · have hkn : k = n := by omega
      subst hkn
      have HG := hid (show V = true from by rw [← HV.out]; unfold powB; rw [all_good (f := leastC) (fun j hj => hr.out j (by rw [HL.out] at hj; exact hj))]; simp [HL.out]; omega)
      go_wp2_with fail
      go_ret
      exact ⟨by rw [HG.out]; rfl, hw.out⟩

set_option maxHeartbeats 4000000 in
set_option maxRecDepth 100000 in
theorem l05Pow_drew (a : Option Addr) (n c : Nat) (zs : List Nat) (V : Bool) (w : World) (h : Holds .f32 w a n zs) (hn : n ≤ 1048576) (hV : powB (zs.map (cls .f32)) = V) :
    Calls Try.prog 64 #[.slice a n c] w fun e w' => e = .returned (.bool V) ∧ ∃ m, w' = w.drewN m := by
  have H1 := hid h
  have HN := hid hn
  have HL := hid h.1
  have HV := hid hV
  clear h hn hV
  go_enter Try.func64, Try.ntmps64
  go_wp2_with fail
  go_loopw [6] (fun i wr => ∃ k : Nat, k ≤ n ∧ i = .int .i64 k ∧ Hid (∀ q, q < k → leastC (cls .f32 (zs.getD q 0)) = true) ∧ Hid (∃ m, wr = w.drewN m)) (fun i _ => n - (intOf i).toNat)
  case atStart => exact ⟨0, Nat.zero_le _, rfl, hid (fun q hq => by omega), hid ⟨0, rfl⟩⟩
  case round =>
    obtain ⟨k, hk, rfl, hr, hw⟩ := hrel
    have hn2 : n ≤ 1048576 := HN.out
    by_cases hlt : k < n
    · have E0 : Ext w wr := by obtain ⟨q, hq⟩ := hw.out; rw [hq]; exact Ext.drewN (Ext.refl _) _
      obtain ⟨b, off, rfl, e1⟩ := cell_at H1.out E0 k hlt
      have hi0 : (0 : Int) ≤ (k : Int) := by omega
      have hi1 : (k : Int) < (n : Int) := by omega
      clear E0
      cases hl : leastC (cls .f32 (zs.getD k 0))
      · have HB := hid (show V = false from by rw [← HV.out]; unfold powB; rw [all_bad (f := leastC) (by rw [HL.out]; exact hlt) hl]; simp)
        generalize zs.getD k 0 = x at e1 hl
        go_wp2_with (go_at_call 84; refine (l02Least_is x _ _ hl).mono ?_; rintro e w' ⟨rfl, m1, rfl⟩)
        go_ret
        obtain ⟨q, hq⟩ := hw.out
        exact ⟨by rw [HB.out]; rfl, q + m1, by rw [hq, World.drewN_drewN]⟩
      · have HG := hid (upto_succ (P := fun q => leastC (cls .f32 (zs.getD q 0)) = true) hr.out hl)
        generalize zs.getD k 0 = x at e1 hl
        go_wp2_with (go_at_call 84; refine (l02Least_is x _ _ hl).mono ?_; rintro e w' ⟨rfl, m1, rfl⟩)
        go_roundw
        case rel => exact ⟨k + 1, by omega, by go_num, HG, by obtain ⟨q, hq⟩ := hw.out; exact hid ⟨q + m1, by rw [hq, World.drewN_drewN]⟩⟩
        case measure => simp [intOf]; omega
    · have hkn : k = n := by omega
      subst hkn
      have hA := all_good (f := leastC) (zs := zs) (fun j hj => hr.out j (by rw [HL.out] at hj; exact hj))
      by_cases hlen : k ≤ 64
      · have HG := hid (show V = true from by rw [← HV.out]; unfold powB; rw [hA]; simp [HL.out]; omega)
        go_wp2_with fail
        go_ret
        exact ⟨by rw [HG.out]; show Ending.returned (.bool (decide ((k : Int) ≤ 64))) = _; rw [decide_eq_true (by omega)], hw.out⟩
      · have HG := hid (show V = false from by rw [← HV.out]; unfold powB; rw [hA]; simp [HL.out]; omega)
        go_wp2_with fail
        go_ret
        exact ⟨by rw [HG.out]; show Ending.returned (.bool (decide ((k : Int) ≤ 64))) = _; rw [decide_eq_false (by omega)], hw.out⟩

theorem mom_clo (k x : Nat) (w : World) : Calls Try.prog 67 #[.int .i64 (k : Int), .float .f32 x] w fun e w' => ∃ r, e = .returned (.float .f32 r) ∧ cls .f32 r = fop .mul .f32 (some (floatOfInt .f32 (k : Int))) (cls .f32 x) ∧ ∃ q, w' = w.drewN q := by
  go_enter Try.func67, Try.ntmps67
  go_wp2_with (refine wpList_fa rfl rfl rfl rfl rfl (is_int _) (is_self _ _) ?_; intro r n hr hrw)
  go_ret
  exact ⟨_, rfl, hr.out, _, rfl⟩
theorem sumMom_any (a : Option Addr) (n c : Nat) (zs : List Nat) (w : World) (h : Holds .f32 w a n zs) (hn : n ≤ 1048576) :
    Calls Try.prog 62 #[.slice a n c, .func (.func 67) #[] #[]] w fun e w' => ∃ r, e = .returned (.float .f32 r) ∧ Is .f32 r (sumK (momC zs) n) ∧ ∃ q, w' = w.drewN q :=
  sumOver_any a n c 67 #[] zs _ w h hn (fun _ _ => by simp [go_sem]) fun k hk wr => mom_clo k _ wr

set_option maxHeartbeats 4000000 in
set_option maxRecDepth 100000 in
theorem centre_any (a : Option Addr) (n c : Nat) (zs : List Nat) (R : Option Nat) (O : Bool) (w : World) (h : Holds .f32 w a n zs) (hn : n ≤ 1048576) (hR : centreR zs = (R, O)) :
    Calls Try.prog 32 #[.slice a n c] w fun e w' => ∃ r, e = .returned (.tuple #[.float .f32 r, .bool O]) ∧ Is .f32 r R ∧ Ext w w' := by
  have H1 := hid h
  have HN := hid hn
  have HL := hid h.1
  have HR := hid hR
  clear h hn hR
  cases hA : powB (zs.map (cls .f32))
  · have e : O = false ∧ R = some 0 := by have := HR.out; unfold centreR at this; rw [hA] at this; simpa [eq_comm, and_comm] using this
    obtain ⟨rfl, rfl⟩ := e
    go_enter Try.func32, Try.ntmps32
    go_wp2_with (first | (go_at_call 66; refine (arePow_drew a n c zs _ _ (Holds.ext H1.out (by (repeat with_reducible (first | exact Ext.refl _ | exact ext_alloc _ _ | refine Ext.drewN ?_ _ | refine Ext.drew1 ?_ | refine Ext.set ?_ (by dsimp only; omega) _ | refine Ext.alloc ?_ _)))) HN.out hA).mono ?_; rintro e w' ⟨rfl, m1, rfl⟩))
    go_returns
    refine ⟨_, rfl, cls0, ?_⟩
    (repeat with_reducible (first | exact Ext.refl _ | exact ext_alloc _ _ | refine Ext.drewN ?_ _ | refine Ext.drew1 ?_ | refine Ext.set ?_ (by dsimp only; omega) _ | refine Ext.alloc ?_ _))
  obtain ⟨SA, hSA⟩ : ∃ SA, sumK (fun k => cls .f32 (zs.getD k 0)) n = SA := ⟨_, rfl⟩
  obtain ⟨SM, hSM⟩ : ∃ SM, sumK (momC zs) n = SM := ⟨_, rfl⟩
  have HSA := hid hSA
  have HSM := hid hSM
  clear hSA hSM
  have HR2 : Hid ((if fcmp .gtr (ford .f32 SA (some 0)) then (finR (fop .quo .f32 SM SA), fin32 (fop .quo .f32 SM SA)) else (some 0, false)) = (R, O)) := by
    have := HR.out
    unfold centreR at this
    rw [hA, HL.out, HSA.out, HSM.out] at this
    exact hid (by simpa using this)
  clear HR
  cases hg : fcmp .gtr (ford .f32 SA (some 0))
  · have e : O = false ∧ R = some 0 := by have := HR2.out; rw [hg] at this; simpa [eq_comm, and_comm] using this
    obtain ⟨rfl, rfl⟩ := e
    go_enter Try.func32, Try.ntmps32
    go_wp2_with (first | (go_at_call 66; refine (arePow_drew a n c zs _ _ (Holds.ext H1.out (by (repeat with_reducible (first | exact Ext.refl _ | exact ext_alloc _ _ | refine Ext.drewN ?_ _ | refine Ext.drew1 ?_ | refine Ext.set ?_ (by dsimp only; omega) _ | refine Ext.alloc ?_ _)))) HN.out hA).mono ?_; rintro e w' ⟨rfl, m1, rfl⟩) | (go_at_call 62; with_reducible refine (sumAll_any a n c zs _ (Holds.ext H1.out (by (repeat with_reducible (first | exact Ext.refl _ | exact ext_alloc _ _ | refine Ext.drewN ?_ _ | refine Ext.drew1 ?_ | refine Ext.set ?_ (by dsimp only; omega) _ | refine Ext.alloc ?_ _)))) HN.out).mono ?_; rintro e w' ⟨r1, rfl, hr1, m2, rfl⟩; rw [HSA.out] at hr1) | (refine wpList_fcmp rfl rfl rfl rfl rfl hr1 (is_const (by decide)) ?_; rw [hg]))
    go_returns
    refine ⟨_, rfl, cls0, ?_⟩
    (repeat with_reducible (first | exact Ext.refl _ | exact ext_alloc _ _ | refine Ext.drewN ?_ _ | refine Ext.drew1 ?_ | refine Ext.set ?_ (by dsimp only; omega) _ | refine Ext.alloc ?_ _))
  · have e : O = fin32 (fop .quo .f32 SM SA) ∧ R = finR (fop .quo .f32 SM SA) := by have := HR2.out; rw [hg] at this; simpa [eq_comm, and_comm] using this
    obtain ⟨rfl, rfl⟩ := e
    go_enter Try.func32, Try.ntmps32
    go_wp2_with (first | (go_at_call 66; refine (arePow_drew a n c zs _ _ (Holds.ext H1.out (by (repeat with_reducible (first | exact Ext.refl _ | exact ext_alloc _ _ | refine Ext.drewN ?_ _ | refine Ext.drew1 ?_ | refine Ext.set ?_ (by dsimp only; omega) _ | refine Ext.alloc ?_ _)))) HN.out hA).mono ?_; rintro e w' ⟨rfl, m1, rfl⟩) | (go_at_call 62; with_reducible refine (sumAll_any a n c zs _ (Holds.ext H1.out (by (repeat with_reducible (first | exact Ext.refl _ | exact ext_alloc _ _ | refine Ext.drewN ?_ _ | refine Ext.drew1 ?_ | refine Ext.set ?_ (by dsimp only; omega) _ | refine Ext.alloc ?_ _)))) HN.out).mono ?_; rintro e w' ⟨r1, rfl, hr1, m2, rfl⟩; rw [HSA.out] at hr1) | (go_at_call 62; with_reducible refine (sumMom_any a n c zs _ (Holds.ext H1.out (by (repeat with_reducible (first | exact Ext.refl _ | exact ext_alloc _ _ | refine Ext.drewN ?_ _ | refine Ext.drew1 ?_ | refine Ext.set ?_ (by dsimp only; omega) _ | refine Ext.alloc ?_ _)))) HN.out).mono ?_; rintro e w' ⟨r2, rfl, hr2, m3, rfl⟩; rw [HSM.out] at hr2) | (refine wpList_fcmp rfl rfl rfl rfl rfl hr1 (is_const (by decide)) ?_; rw [hg]) | (refine wpList_fa rfl rfl rfl rfl rfl hr2 hr1 ?_; intro r3 m4 hr3 hrw3) | (go_at_call 68; refine (finiteOnly_any _ _ hr3 _).mono ?_; rintro e w' ⟨r4, rfl, hr4, m5, rfl⟩))
    go_returns
    refine ⟨_, rfl, hr4, ?_⟩
    (repeat with_reducible (first | exact Ext.refl _ | exact ext_alloc _ _ | refine Ext.drewN ?_ _ | refine Ext.drew1 ?_ | refine Ext.set ?_ (by dsimp only; omega) _ | refine Ext.alloc ?_ _))

set_option maxHeartbeats 4000000 in
set_option maxRecDepth 100000 in
theorem sCentre_any (a : Option Addr) (n c : Nat) (zs : List Nat) (R : Option Nat) (O : Bool) (w : World) (h : Holds .f32 w a n zs) (hn : n ≤ 1048576) (hR : centreR zs = (R, O)) :
    Calls Try.prog 31 #[.slice a n c] w fun e w' => ∃ r, e = .returned (.tuple #[.float .f32 r, .bool O]) ∧ Is .f32 r R ∧ Ext w w' := by
  have H1 := hid h
  have HN := hid hn
  have HL := hid h.1
  have HR := hid hR
  clear h hn hR
  cases hA : powB (zs.map (cls .f32))
  · have e : O = false ∧ R = some 0 := by have := HR.out; unfold centreR at this; rw [hA] at this; simpa [eq_comm, and_comm] using this
    obtain ⟨rfl, rfl⟩ := e
    go_enter Try.func31, Try.ntmps31
    go_wp2_with (first | (go_at_call 64; refine (l05Pow_drew a n c zs _ _ (Holds.ext H1.out (by (repeat with_reducible (first | exact Ext.refl _ | exact ext_alloc _ _ | refine Ext.drewN ?_ _ | refine Ext.drew1 ?_ | refine Ext.set ?_ (by dsimp only; omega) _ | refine Ext.alloc ?_ _)))) HN.out hA).mono ?_; rintro e w' ⟨rfl, m1, rfl⟩))
    go_returns
    refine ⟨_, rfl, cls0, ?_⟩
    (repeat with_reducible (first | exact Ext.refl _ | exact ext_alloc _ _ | refine Ext.drewN ?_ _ | refine Ext.drew1 ?_ | refine Ext.set ?_ (by dsimp only; omega) _ | refine Ext.alloc ?_ _))
  obtain ⟨SA, hSA⟩ : ∃ SA, sumK (fun k => cls .f32 (zs.getD k 0)) n = SA := ⟨_, rfl⟩
  obtain ⟨SM, hSM⟩ : ∃ SM, sumK (momC zs) n = SM := ⟨_, rfl⟩
  have HSA := hid hSA
  have HSM := hid hSM
  clear hSA hSM
  have HR2 : Hid ((if fcmp .gtr (ford .f32 SA (some 0)) then (finR (fop .quo .f32 SM SA), fin32 (fop .quo .f32 SM SA)) else (some 0, false)) = (R, O)) := by
    have := HR.out
    unfold centreR at this
    rw [hA, HL.out, HSA.out, HSM.out] at this
    exact hid (by simpa using this)
  clear HR
  go_enter Try.func31, Try.ntmps31
  go_wp2_with (first | (go_at_call 64; refine (l05Pow_drew a n c zs _ _ (Holds.ext H1.out (by (repeat with_reducible (first | exact Ext.refl _ | exact ext_alloc _ _ | refine Ext.drewN ?_ _ | refine Ext.drew1 ?_ | refine Ext.set ?_ (by dsimp only; omega) _ | refine Ext.alloc ?_ _)))) HN.out hA).mono ?_; rintro e w' ⟨rfl, m1, rfl⟩))
  go_loopw [4, 5, 12] (fun s1 s2 i wr => ∃ (k u v : Nat), k ≤ n ∧ i = .int .i64 k ∧ s1 = .float .f32 u ∧ s2 = .float .f32 v ∧ Is .f32 u (sumK (momC zs) k) ∧ Is .f32 v (sumK (fun k => cls .f32 (zs.getD k 0)) k) ∧ Hid (Ext w wr)) (fun _ _ i _ => n - (intOf i).toNat)
  case atStart => exact ⟨0, 0, 0, Nat.zero_le _, rfl, rfl, rfl, cls0, cls0, hid (by (repeat with_reducible (first | exact Ext.refl _ | exact ext_alloc _ _ | refine Ext.drewN ?_ _ | refine Ext.drew1 ?_ | refine Ext.set ?_ (by dsimp only; omega) _ | refine Ext.alloc ?_ _)))⟩
  case round =>
    obtain ⟨k, u, v, hk, rfl, rfl, rfl, hu, hv, he⟩ := hrel
    have hn2 : n ≤ 1048576 := HN.out
    by_cases hlt : k < n
    · obtain ⟨b, off, rfl, e1⟩ := cell_at H1.out he.out k hlt
      have hs1 : Hid (sumK (momC zs) (k + 1) = fop .add .f32 (sumK (momC zs) k) (fop .mul .f32 (some (floatOfInt .f32 (k : Int))) (cls .f32 (zs.getD k 0)))) := rfl
      have hs2 : Hid (sumK (fun k => cls .f32 (zs.getD k 0)) (k + 1) = fop .add .f32 (sumK (fun k => cls .f32 (zs.getD k 0)) k) (cls .f32 (zs.getD k 0))) := rfl
      generalize sumK (momC zs) k = U at hu hs1
      generalize sumK (fun k => cls .f32 (zs.getD k 0)) k = V at hv hs2
      generalize zs.getD k 0 = x at e1 hs1 hs2
      have hi0 : (0 : Int) ≤ (k : Int) := by omega
      have hi1 : (k : Int) < (n : Int) := by omega
      go_wp2_with (first | (refine wpList_fa rfl rfl rfl rfl rfl (by first | assumption | exact is_const (by decide) | exact is_int _ | exact is_self _ _) (by first | assumption | exact is_const (by decide) | exact is_int _ | exact is_self _ _) ?_; intro r m9 hr hrw))
      go_roundw
      case rel => exact ⟨k + 1, _, _, by omega, by go_num, rfl, rfl, by rw [hs1.out]; assumption, by rw [hs2.out]; assumption, hid (Ext.trans he.out (by (repeat with_reducible (first | exact Ext.refl _ | exact ext_alloc _ _ | refine Ext.drewN ?_ _ | refine Ext.drew1 ?_ | refine Ext.set ?_ (by dsimp only; omega) _ | refine Ext.alloc ?_ _))))⟩
      case measure => simp [intOf]; omega
    · have hkn : k = n := by omega
      subst hkn
      have hr1 : Is .f32 v SA := by rw [← HSA.out]; exact hv
      have hr2 : Is .f32 u SM := by rw [← HSM.out]; exact hu
      clear hu hv
      cases hg : fcmp .gtr (ford .f32 SA (some 0))
      · have e : O = false ∧ R = some 0 := by have := HR2.out; rw [hg] at this; simpa [eq_comm, and_comm] using this
        obtain ⟨rfl, rfl⟩ := e
        go_wp2_with (first | (refine wpList_fcmp rfl rfl rfl rfl rfl hr1 (is_const (by decide)) ?_; rw [hg]))
        go_returns
        exact ⟨_, rfl, cls0, Ext.trans he.out (by (repeat with_reducible (first | exact Ext.refl _ | exact ext_alloc _ _ | refine Ext.drewN ?_ _ | refine Ext.drew1 ?_ | refine Ext.set ?_ (by dsimp only; omega) _ | refine Ext.alloc ?_ _)))⟩
      · have e : O = fin32 (fop .quo .f32 SM SA) ∧ R = finR (fop .quo .f32 SM SA) := by have := HR2.out; rw [hg] at this; simpa [eq_comm, and_comm] using this
        obtain ⟨rfl, rfl⟩ := e
        go_wp2_with (first | (refine wpList_fcmp rfl rfl rfl rfl rfl hr1 (is_const (by decide)) ?_; rw [hg]) | (refine wpList_fa rfl rfl rfl rfl rfl hr2 hr1 ?_; intro r3 m4 hr3 hrw3) | (go_at_call 65; refine (l02Number_any _ _ hr3 _).mono ?_; rintro e w' ⟨r4, rfl, hr4, m5, rfl⟩))
        go_returns
        exact ⟨_, rfl, hr4, Ext.trans he.out (by (repeat with_reducible (first | exact Ext.refl _ | exact ext_alloc _ _ | refine Ext.drewN ?_ _ | refine Ext.drew1 ?_ | refine Ext.set ?_ (by dsimp only; omega) _ | refine Ext.alloc ?_ _)))⟩



/-- a sound with itself later -/
def selfC (zs : List Nat) (k : Nat) : Option Nat := dotK zs (zs.drop k) (zs.length - k)
def selfR (zs : List Nat) (m : Int) : List (Option Nat) × Bool := if soundB (zs.map (cls .f32)) && (decide (1 ≤ m) && decide (m ≤ 256)) then soundR (selfC zs) m.toNat else ([], false)
theorem self_len (zs : List Nat) (m : Int) : (selfR zs m).1.length ≤ 256 := by
  unfold selfR
  split
  · rename_i h
    simp only [Bool.and_eq_true, decide_eq_true_eq] at h
    have h2 := soundR_len (selfC zs) m.toNat
    omega
  · exact Nat.zero_le _
theorem drop_get (zs : List Nat) (k i : Nat) : (zs.drop k).getD i 0 = zs.getD (i + k) 0 := by
  simp [List.getD, List.getElem?_drop, Nat.add_comm]
theorem hold_drop {w : World} {b off n k : Nat} {zs : List Nat} (h : Holds .f32 w (some ⟨b, off, none⟩) n zs) (hk : k ≤ n) : Holds .f32 w (some ⟨b, off + k, none⟩) (n - k) (zs.drop k) := by
  obtain ⟨hl, hc⟩ := h
  refine ⟨by simp [hl], ?_⟩
  by_cases h0 : n - k = 0
  · exact .inl h0
  · right
    rcases hc with hc | ⟨b2, off2, e, hb, hc⟩
    · omega
    · cases e
      refine ⟨b, off + k, rfl, hb, fun i hi => ?_⟩
      have := hc (k + i) (by omega)
      rw [← Nat.add_assoc] at this
      rw [this, drop_get, Nat.add_comm k i]
theorem hold_none {w : World} {a : Option Addr} : Holds .f32 w a 0 [] := ⟨rfl, .inl rfl⟩
section
variable {P : Program} {ops : Array Oper} {C : World → Prop}
theorem wpC_imin {Q : Act → Prop} {a : Act} {o o2 : Oper} {rest : List Oper} {x y : Operand} {t1 t2 : TypeId} (ho : o.op = .call { callee := .builtin .min, args := #[x, y], argTypes := #[t1, t2] }) (hg : o.guard = none) {p q : Int} (hx : a.eval x = .int .i64 p) (hy : a.eval y = .int .i64 q)
    (h : wpC P ops C Q (o2 :: rest) (a.put o.dst (.int .i64 (min p q)))) : wpC P ops C Q (o :: o2 :: rest) a := by
  refine wpC_quiet fun K hK' => ?_
  rw [if_pos (by simp [Region.wanted, hg])]
  refine ⟨_, fun w hw => ?_, hK' _ h⟩
  have hrun : ∀ ts ty, (Builtin.min_ ts ty #[.int .i64 p, .int .i64 q]).run P w = .ok (.int .i64 (min p q)) w := by
    intro ts ty
    have e : (if q < p then q else p) = min p q := by split <;> omega
    simp [Builtin.min_, Builtin.min2, e]
  have hr : (execOp a.eval o).run P w = .ok (.value (.int .i64 (min p q))) w := by
    simp [execOp, ho, resolve, invoke, builtin, hx, hy, hrun, Result.andThen]
  unfold Oper.quietAt
  rw [hr]
  exact ⟨rfl, rfl⟩
end

set_option maxHeartbeats 4000000 in
set_option maxRecDepth 100000 in
theorem self_clo (k b1 n c : Nat) (a : Option Addr) (zs : List Nat) (w : World) (hk : k ≤ 1048576) (hn : n ≤ 1048576) (hcap : n ≤ c) (h1 : Box w b1 #[.slice a n c]) (g1 : Holds .f32 w a n zs) :
    Calls Try.prog 72 #[.int .i64 (k : Int), .pointer (some ⟨b1, 0, none⟩)] w fun e w' => ∃ r, e = .returned (.float .f32 r) ∧ cls .f32 r = selfC zs k ∧ Ext w w' := by
  obtain ⟨d1, l1⟩ := Box.cells1 h1
  have F1 := grown_cell (p := ⟨b1, 0, none⟩) l1 d1
  have G1 := hid g1
  have HL := hid g1.1
  clear h1 g1
  by_cases hlt : k < n
  · rcases G1.out.2 with h0 | ⟨b, off, rfl, hb, hc⟩
    · omega
    have hm : min (k : Int) (n : Int) = (k : Int) := by omega
    have hi0 : (0 : Int) ≤ (k : Int) := by omega
    have hi1 : (k : Int) ≤ (n : Int) := by omega
    have hi2 : (n : Int) ≤ (c : Int) := by omega
    have hi3 : ¬ c = k := by omega
    have HRES : Hid (∀ r, Is .f32 r (dotK zs (zs.drop k) (min n (n - k))) → cls .f32 r = selfC zs k) := by
      intro r hr
      rw [show min n (n - k) = n - k by omega] at hr
      unfold selfC
      rw [HL.out]
      exact Is.out hr
    clear hb hc
    go_enter Try.func72, Try.ntmps72
    go_wp2_with fail
    refine wp_region_call_tail 7 (by kernel_rfl) (by kernel_rfl) ?_
    simp only [List.take_succ_cons, List.take_zero, List.drop_succ_cons, List.drop_zero]
    repeat (first | (with_reducible refine wpC_imin rfl rfl rfl rfl ?_; rw [hm]; simp only [Act.put, List.setIfInBounds_toArray, List.set_cons_zero, List.set_cons_succ]) | (with_reducible refine wpC_quiet (fun K hK => ?_); go_simp; refine hK _ ?_; clear hK K))
    refine wpC_call (f := 73) (args := #[.slice (some ⟨b, off, none⟩) n c, .slice (some ⟨b, off + k, none⟩) (n - k) (c - k)]) ?_ ?_ ?_
    · rfl
    · intro w9; go_simp
    intro w1 E1
    refine (sumP_any _ _ _ _ _ _ zs (zs.drop k) w1 (Holds.ext G1.out E1) (Holds.ext (hold_drop G1.out (by omega)) E1) hn (by omega)).mono ?_
    rintro e w2 ⟨r, rfl, hr, q, rfl⟩
    refine ⟨_, rfl, Ext.drewN E1 _, ?_⟩
    intro w3 E3
    go_wp2_with fail
    go_ret
    exact ⟨_, rfl, HRES.out r hr, E3⟩
  · have hm : min (k : Int) (n : Int) = (n : Int) := by omega
    have hi0 : (0 : Int) ≤ (n : Int) := by omega
    have hi2 : (n : Int) ≤ (c : Int) := by omega
    have HRES : Hid (∀ r, Is .f32 r (dotK zs [] (min n 0)) → cls .f32 r = selfC zs k) := by
      intro r hr
      rw [Nat.min_zero] at hr
      unfold selfC
      rw [HL.out, show n - k = 0 by omega]
      exact Is.out hr
    cases a with
    | none =>
      go_enter Try.func72, Try.ntmps72
      go_wp2_with fail
      refine wp_region_call_tail 7 (by kernel_rfl) (by kernel_rfl) ?_
      simp only [List.take_succ_cons, List.take_zero, List.drop_succ_cons, List.drop_zero]
      repeat (first | (with_reducible refine wpC_imin rfl rfl rfl rfl ?_; rw [hm]; simp only [Act.put, List.setIfInBounds_toArray, List.set_cons_zero, List.set_cons_succ]) | (with_reducible refine wpC_quiet (fun K hK => ?_); go_simp; refine hK _ ?_; clear hK K))
      refine wpC_call (f := 73) (args := #[.slice none n c, .slice none 0 (c - n)]) ?_ ?_ ?_
      · rfl
      · intro w9; go_simp
      intro w1 E1
      refine (sumP_any _ _ _ _ _ _ zs [] w1 (Holds.ext G1.out E1) hold_none hn (by omega)).mono ?_
      rintro e w2 ⟨r, rfl, hr, q, rfl⟩
      refine ⟨_, rfl, Ext.drewN E1 _, ?_⟩
      intro w3 E3
      go_wp2_with fail
      go_ret
      exact ⟨_, rfl, HRES.out r hr, E3⟩
    | some ad =>
      by_cases hcn : c = n
      · subst hcn
        go_enter Try.func72, Try.ntmps72
        go_wp2_with fail
        refine wp_region_call_tail 7 (by kernel_rfl) (by kernel_rfl) ?_
        simp only [List.take_succ_cons, List.take_zero, List.drop_succ_cons, List.drop_zero]
        repeat (first | (with_reducible refine wpC_imin rfl rfl rfl rfl ?_; rw [hm]; simp only [Act.put, List.setIfInBounds_toArray, List.set_cons_zero, List.set_cons_succ]) | (with_reducible refine wpC_quiet (fun K hK => ?_); go_simp; refine hK _ ?_; clear hK K))
        refine wpC_call (f := 73) (args := #[.slice (some ad) c c, .slice (some ad) 0 0]) ?_ ?_ ?_
        · rfl
        · intro w9; go_simp
        intro w1 E1
        refine (sumP_any _ _ _ _ _ _ zs [] w1 (Holds.ext G1.out E1) hold_none hn (by omega)).mono ?_
        rintro e w2 ⟨r, rfl, hr, q, rfl⟩
        refine ⟨_, rfl, Ext.drewN E1 _, ?_⟩
        intro w3 E3
        go_wp2_with fail
        go_ret
        exact ⟨_, rfl, HRES.out r hr, E3⟩
      · skip
        go_enter Try.func72, Try.ntmps72
        go_wp2_with fail
        refine wp_region_call_tail 7 (by kernel_rfl) (by kernel_rfl) ?_
        simp only [List.take_succ_cons, List.take_zero, List.drop_succ_cons, List.drop_zero]
        repeat (first | (with_reducible refine wpC_imin rfl rfl rfl rfl ?_; rw [hm]; simp only [Act.put, List.setIfInBounds_toArray, List.set_cons_zero, List.set_cons_succ]) | (with_reducible refine wpC_quiet (fun K hK => ?_); go_simp; refine hK _ ?_; clear hK K))
        refine wpC_call (f := 73) (args := #[.slice (some ad) n c, .slice (some (ad.add n)) 0 (c - n)]) ?_ ?_ ?_
        · rfl
        · intro w9; go_simp
        intro w1 E1
        refine (sumP_any _ _ _ _ _ _ zs [] w1 (Holds.ext G1.out E1) hold_none hn (by omega)).mono ?_
        rintro e w2 ⟨r, rfl, hr, q, rfl⟩
        refine ⟨_, rfl, Ext.drewN E1 _, ?_⟩
        intro w3 E3
        go_wp2_with fail
        go_ret
        exact ⟨_, rfl, HRES.out r hr, E3⟩

set_option maxHeartbeats 4000000 in
set_option maxRecDepth 100000 in
theorem l05Self_any (a : Option Addr) (n c m : Nat) (zs : List Nat) (w : World) (h : Holds .f32 w a n zs) (hn : n ≤ 1048576) (hm : m ≤ 1048576) :
    Calls Try.prog 71 #[.slice a n c, .int .i64 (m : Int)] w fun e w' => ∃ v ys, e = .returned v ∧ Own w' w.heap.size m v ys ∧ ys.map (cls .f32) = listK (selfC zs) m ∧ Ext w w' := by
  have H1 := hid h
  have HN := hid hn
  have HM := hid hm
  have HL := hid h.1
  clear h hn hm
  obtain ⟨i0, hif, hz0, hz1, hz2⟩ := info_parts infoF
  have HI := hid (And.intro hif (And.intro hz0 (And.intro hz1 hz2)))
  clear hif hz0 hz1 hz2
  go_enter Try.func71, Try.ntmps71
  go_wp2_with fail
  go_loopw [5, 6] (fun v i wr => ∃ (k : Nat) (ys : List Nat), k ≤ m ∧ i = .int .i64 k ∧ Hid (Own wr w.heap.size k v ys) ∧ Hid (ys.map (cls .f32) = listK (selfC zs) k) ∧ Hid (Ext w wr)) (fun _ i _ => m - (intOf i).toNat)
  case atStart => exact ⟨0, [], Nat.zero_le _, rfl, hid (own_fresh (cs := #[]) (zs := []) (hid rfl) rfl (by simp) (by simp) (Nat.zero_le _)), rfl, hid (by (repeat with_reducible (first | exact Ext.refl _ | exact ext_alloc _ _ | refine Ext.drewN ?_ _ | refine Ext.drew1 ?_ | refine Ext.set ?_ (by dsimp only; omega) _ | refine Ext.alloc ?_ _)))⟩
  case round =>
    obtain ⟨k, ys, hk, rfl, ho, hyy, he⟩ := hrel
    have hm2 : m ≤ 1048576 := HM.out
    have hn2 : n ≤ 1048576 := HN.out
    by_cases hlt : k < m
    · have hi0 : (0 : Int) ≤ (k : Int) := by omega
      have hi1 : (k : Int) < (m : Int) := by omega
      have hs := hid (listK_succ (selfC zs) k)
      have HSZ := hid (Ext.size he.out)
      rename World => wo
      go_wp2_with fail
      go_loopw [7, 8] (fun s i wi => ∃ (t r : Nat), t ≤ n - k ∧ i = .int .i64 t ∧ s = .float .f32 r ∧ Is .f32 r (dotK zs (zs.drop k) t) ∧ Hid (∃ q, wi = wo.drewN q)) (fun _ i _ => n + 1 - (intOf i).toNat)
      case atStart => exact ⟨0, 0, Nat.zero_le _, rfl, rfl, cls0, hid ⟨0, rfl⟩⟩
      case round =>
        obtain ⟨t, r0, ht, rfl, rfl, hr0, hw⟩ := hrel
        by_cases hlt2 : t + k < n
        · have E0 : Ext w wr := by obtain ⟨q, hq⟩ := hw.out; rw [hq]; exact Ext.drewN he.out _
          obtain ⟨b, off, rfl, e1⟩ := cell_at H1.out E0 t (by omega)
          obtain ⟨b2, off2, ha, e2⟩ := cell_at H1.out E0 (t + k) hlt2
          obtain ⟨rfl, rfl⟩ : b = b2 ∧ off = off2 := by simpa [eq_comm] using ha
          have hd : Hid (dotK zs (zs.drop k) (t + 1) = fop .add .f32 (dotK zs (zs.drop k) t) (fop .mul .f32 (cls .f32 (zs.getD t 0)) (cls .f32 (zs.getD (t + k) 0)))) := by
            show fop .add .f32 _ (fop .mul .f32 _ (cls .f32 ((zs.drop k).getD t 0))) = _
            rw [drop_get]
          generalize dotK zs (zs.drop k) t = D at hr0 hd
          generalize zs.getD t 0 = x at e1 hd
          generalize zs.getD (t + k) 0 = y at e2 hd
          have hj0 : (0 : Int) ≤ (t : Int) := by omega
          have hj1 : (t : Int) < (n : Int) := by omega
          have hj2 : (t : Int) + (k : Int) = ((t + k : Nat) : Int) := by omega
          have hj3 : (0 : Int) ≤ ((t + k : Nat) : Int) := by omega
          have hj4 : ((t + k : Nat) : Int) < (n : Int) := by omega
          generalize hP : t + k = P at *
          clear E0 ha
          go_wp2_with fail
          refine wp_region_many (by kernel_rfl) (by kernel_rfl) (by kernel_rfl) ?_
          repeat (with_reducible refine wpM_cons ?_; first
            | (refine wpM_fa rfl rfl rfl rfl rfl (by first | assumption | exact is_self _ _) (by first | assumption | exact is_self _ _) ?_; intro r hr hrw)
            | (refine wpM_mult0 rfl rfl ?_; refine mult_iadd rfl rfl rfl (by omega) (by omega) ?_; rw [hj2]; simp only [Act.put, List.setIfInBounds_toArray, List.set_cons_zero, List.set_cons_succ])
            | (refine wpM_quiet rfl (fun K hK => ?_); go_simp; refine hK _ ?_; clear hK K))
          with_reducible refine wpM_nil ?_
          intro w3 hw3
          obtain ⟨nq, hw3⟩ := hw3
          subst hw3
          go_wp2
          go_roundw
          case rel => exact ⟨t + 1, _, by omega, by go_num, rfl, by rw [hd.out]; assumption, by obtain ⟨q, hq⟩ := hw.out; exact hid ⟨q + nq, by rw [hq, World.drewN_drewN]⟩⟩
          case measure => simp [intOf]; omega
        · have htn : t = n - k := by omega
          have hj4 : ¬ ((t : Int) + (k : Int) < (n : Int)) := by omega
          obtain ⟨q, hq⟩ := hw.out
          subst hq
          have hC : Is .f32 r0 (selfC zs k) := by unfold selfC; rw [HL.out, ← htn]; exact hr0
          go_wp2_with (first | (at_builtin; refine wpList_append_lies _ rfl _ _ 22 rfl w.heap.size 33 i0 (.float .f32 0) 1 4 Try.underlying22 HI.out.1 HI.out.2.1 HI.out.2.2.1 HI.out.2.2.2 rfl (by decide) _ _ _ rfl (Own.ext ho.out (by (repeat with_reducible (first | exact Ext.refl _ | exact ext_alloc _ _ | refine Ext.drewN ?_ _ | refine Ext.drew1 ?_ | refine Ext.set ?_ (by dsimp only; omega) _ | refine Ext.alloc ?_ _)))) ⟨wo.heap.size, 0, none⟩ 1 1 [.float .f32 r0] rfl rfl (World.news_of_block (heap_alloc_new _ _)) (by intro u hu; simp at hu; subst hu; rfl) (by omega) (by have h9 := HM.out; unfold maxLen; omega) (by have h9 := HM.out; omega) (by have h8 := HSZ.out; simp; omega) _ rfl ?_; intro g cap w1 hown hgrow hat hlt2))
          have h1 := hid (own_snoc hown)
          have h2 := hid (show Ext w w1 from But.below hgrow (Ext.trans he.out (by (repeat with_reducible (first | exact Ext.refl _ | exact ext_alloc _ _ | refine Ext.drewN ?_ _ | refine Ext.drew1 ?_ | refine Ext.set ?_ (by dsimp only; omega) _ | refine Ext.alloc ?_ _)))) (fun k2 hk2 => (Own.block ho.out k2 hk2).1))
          have h3 := hid (show (ys ++ [r0]).map (cls .f32) = listK (selfC zs) (k + 1) from by rw [List.map_append, hyy.out, hs.out, ← Is.out hC]; rfl)
          clear hown hgrow hat hlt2
          go_wp2
          go_roundw
          case rel => exact ⟨k + 1, ys ++ [r0], by omega, by go_num, h1, h3, h2⟩
          case measure => simp [intOf]; omega
    · have hkn : k = m := by omega
      subst hkn
      go_wp2_with fail
      go_returns
      exact ⟨_, ys, rfl, ho.out, hyy.out, he.out⟩

set_option maxHeartbeats 4000000 in
set_option maxRecDepth 100000 in
theorem selfS_any (a : Option Addr) (n c : Nat) (m : Int) (zs : List Nat) (R : List (Option Nat)) (O : Bool) (w : World) (h : Holds .f32 w a n zs) (hn : n ≤ 1048576) (hcap : n ≤ c) (hR : selfR zs m = (R, O)) :
    Calls Try.prog 40 #[.slice a n c, .int .i64 m] w fun e w' => ∃ v, e = .returned (.tuple #[v, .bool O]) ∧ ListIs w' w.heap.size R v ∧ Ext w w' := by
  have H1 := hid h
  have HN := hid hn
  have HL := hid h.1
  have HR := hid hR
  clear h hn hR
  cases hA : soundB (zs.map (cls .f32))
  · have e : O = false ∧ R = [] := by have := HR.out; unfold selfR at this; rw [hA] at this; simpa [eq_comm, and_comm] using this
    obtain ⟨rfl, rfl⟩ := e
    go_enter Try.func40, Try.ntmps40
    go_wp2_with (first | (go_at_call 55; with_reducible refine (isSound_drew a n c zs _ _ (Holds.ext H1.out (by (repeat with_reducible (first | exact Ext.refl _ | exact ext_alloc _ _ | refine Ext.drewN ?_ _ | refine Ext.drew1 ?_ | refine Ext.set ?_ (by dsimp only; omega) _ | refine Ext.alloc ?_ _)))) HN.out hA).mono ?_; rintro e w' ⟨rfl, m1, rfl⟩))
    go_returns
    refine ⟨_, rfl, nil_is _ _, ?_⟩
    (repeat with_reducible (first | exact Ext.refl _ | exact ext_alloc _ _ | refine Ext.drewN ?_ _ | refine Ext.drew1 ?_ | refine Ext.set ?_ (by dsimp only; omega) _ | refine Ext.alloc ?_ _))
  by_cases hm : ¬ (1 ≤ m ∧ m ≤ 256)
  · have e : O = false ∧ R = [] := by have := HR.out; unfold selfR at this; rw [if_neg (by rw [hA]; simp; omega)] at this; simpa [eq_comm, and_comm] using this
    obtain ⟨rfl, rfl⟩ := e
    go_enter Try.func40, Try.ntmps40
    go_wp2_with (first | (go_at_call 55; with_reducible refine (isSound_drew a n c zs _ _ (Holds.ext H1.out (by (repeat with_reducible (first | exact Ext.refl _ | exact ext_alloc _ _ | refine Ext.drewN ?_ _ | refine Ext.drew1 ?_ | refine Ext.set ?_ (by dsimp only; omega) _ | refine Ext.alloc ?_ _)))) HN.out hA).mono ?_; rintro e w' ⟨rfl, m1, rfl⟩) | (go_at_call 49; with_reducible refine (isCount_no m hm _).mono ?_; rintro e w' ⟨rfl, rfl⟩))
    go_returns
    refine ⟨_, rfl, nil_is _ _, ?_⟩
    (repeat with_reducible (first | exact Ext.refl _ | exact ext_alloc _ _ | refine Ext.drewN ?_ _ | refine Ext.drew1 ?_ | refine Ext.set ?_ (by dsimp only; omega) _ | refine Ext.alloc ?_ _))
  replace hm := Decidable.not_not.1 hm
  have HS := hid (show soundR (selfC zs) m.toNat = (R, O) from by have := HR.out; unfold selfR at this; rw [if_pos (by rw [hA]; simp; omega)] at this; exact this)
  obtain ⟨m, rfl⟩ : ∃ q : Nat, m = (q : Int) := ⟨m.toNat, by omega⟩
  have HS2 := hid (show soundR (selfC zs) m = (R, O) from HS.out)
  have HMM := hid (show m ≤ 1048576 by omega)
  clear HR HS
  have HCAP := hid hcap
  clear hcap
  go_enter Try.func40, Try.ntmps40
  go_wp2_with (first | (go_at_call 55; with_reducible refine (isSound_drew a n c zs _ _ (Holds.ext H1.out (by (repeat with_reducible (first | exact Ext.refl _ | exact ext_alloc _ _ | refine Ext.drewN ?_ _ | refine Ext.drew1 ?_ | refine Ext.set ?_ (by dsimp only; omega) _ | refine Ext.alloc ?_ _)))) HN.out hA).mono ?_; rintro e w' ⟨rfl, m1, rfl⟩) | (go_at_call 49; with_reducible refine (isCount_yes (m : Int) hm _).mono ?_; rintro e w' ⟨rfl, rfl⟩))
  obtain ⟨w0, hw0⟩ : ∃ u, u = (w.alloc (.cells #[.slice a n c] 22)).drewN m1 := ⟨_, rfl⟩
  rw [← hw0]
  have EX := hid (show Ext w w0 from by rw [hw0]; (repeat with_reducible (first | exact Ext.refl _ | exact ext_alloc _ _ | refine Ext.drewN ?_ _ | refine Ext.drew1 ?_ | refine Ext.set ?_ (by dsimp only; omega) _ | refine Ext.alloc ?_ _)))
  have B0 : Hid (Box w0 w.heap.size #[.slice a n c]) := by rw [hw0]; exact hid (Box.drewN (box_new (w := w) #[.slice a n c] 22) _)
  clear hw0
  refine (soundOf_any m 72 #[.pointer (some ⟨w.heap.size, 0, none⟩)] (selfC zs) R O w0 HMM.out (fun _ _ => by simp [go_sem]) (fun k hk wr e => self_clo k _ n c a zs wr (by have := HMM.out; omega) HN.out HCAP.out (Box.ext B0.out e) (Holds.ext H1.out (Ext.trans EX.out e))) HS2.out).mono ?_
  rintro e w1 ⟨v, rfl, hv, E1⟩
  have HL2 := hid hv
  have EY := hid (Ext.trans EX.out E1)
  have HZ := hid (show w.heap.size ≤ w0.heap.size from Ext.size EX.out)
  clear hv E1
  go_wp2_with fail
  go_returns
  exact ⟨_, rfl, ListIs.base HL2.out HZ.out, EY.out⟩

set_option maxHeartbeats 4000000 in
set_option maxRecDepth 100000 in
theorem sSelfS_any (a : Option Addr) (n c : Nat) (m : Int) (zs : List Nat) (R : List (Option Nat)) (O : Bool) (w : World) (h : Holds .f32 w a n zs) (hn : n ≤ 1048576) (hR : selfR zs m = (R, O)) :
    Calls Try.prog 39 #[.slice a n c, .int .i64 m] w fun e w' => ∃ v, e = .returned (.tuple #[v, .bool O]) ∧ ListIs w' w.heap.size R v ∧ Ext w w' := by
  have H1 := hid h
  have HN := hid hn
  have HL := hid h.1
  have HR := hid hR
  clear h hn hR
  cases hA : soundB (zs.map (cls .f32))
  · have e : O = false ∧ R = [] := by have := HR.out; unfold selfR at this; rw [hA] at this; simpa [eq_comm, and_comm] using this
    obtain ⟨rfl, rfl⟩ := e
    go_enter Try.func39, Try.ntmps39
    go_wp2_with (first | (go_at_call 53; with_reducible refine (l03Sound_drew a n c zs _ _ (Holds.ext H1.out (by (repeat with_reducible (first | exact Ext.refl _ | exact ext_alloc _ _ | refine Ext.drewN ?_ _ | refine Ext.drew1 ?_ | refine Ext.set ?_ (by dsimp only; omega) _ | refine Ext.alloc ?_ _)))) HN.out hA).mono ?_; rintro e w' ⟨rfl, m1, rfl⟩))
    go_returns
    refine ⟨_, rfl, nil_is _ _, ?_⟩
    (repeat with_reducible (first | exact Ext.refl _ | exact ext_alloc _ _ | refine Ext.drewN ?_ _ | refine Ext.drew1 ?_ | refine Ext.set ?_ (by dsimp only; omega) _ | refine Ext.alloc ?_ _))
  by_cases hm : ¬ (1 ≤ m ∧ m ≤ 256)
  · have e : O = false ∧ R = [] := by have := HR.out; unfold selfR at this; rw [if_neg (by rw [hA]; simp; omega)] at this; simpa [eq_comm, and_comm] using this
    obtain ⟨rfl, rfl⟩ := e
    go_enter Try.func39, Try.ntmps39
    go_wp2_with (first | (go_at_call 53; with_reducible refine (l03Sound_drew a n c zs _ _ (Holds.ext H1.out (by (repeat with_reducible (first | exact Ext.refl _ | exact ext_alloc _ _ | refine Ext.drewN ?_ _ | refine Ext.drew1 ?_ | refine Ext.set ?_ (by dsimp only; omega) _ | refine Ext.alloc ?_ _)))) HN.out hA).mono ?_; rintro e w' ⟨rfl, m1, rfl⟩) | (go_at_call 47; with_reducible refine (l00In_no m 1 256 hm _).mono ?_; rintro e w' ⟨rfl, rfl⟩))
    go_returns
    refine ⟨_, rfl, nil_is _ _, ?_⟩
    (repeat with_reducible (first | exact Ext.refl _ | exact ext_alloc _ _ | refine Ext.drewN ?_ _ | refine Ext.drew1 ?_ | refine Ext.set ?_ (by dsimp only; omega) _ | refine Ext.alloc ?_ _))
  replace hm := Decidable.not_not.1 hm
  have HS := hid (show soundR (selfC zs) m.toNat = (R, O) from by have := HR.out; unfold selfR at this; rw [if_pos (by rw [hA]; simp; omega)] at this; exact this)
  obtain ⟨m, rfl⟩ : ∃ q : Nat, m = (q : Int) := ⟨m.toNat, by omega⟩
  have HS2 := hid (show soundR (selfC zs) m = (R, O) from HS.out)
  have HMM := hid (show m ≤ 1048576 by omega)
  clear HR HS
  go_enter Try.func39, Try.ntmps39
  go_wp2_with (first | (go_at_call 53; with_reducible refine (l03Sound_drew a n c zs _ _ (Holds.ext H1.out (by (repeat with_reducible (first | exact Ext.refl _ | exact ext_alloc _ _ | refine Ext.drewN ?_ _ | refine Ext.drew1 ?_ | refine Ext.set ?_ (by dsimp only; omega) _ | refine Ext.alloc ?_ _)))) HN.out hA).mono ?_; rintro e w' ⟨rfl, m1, rfl⟩) | (go_at_call 47; with_reducible refine (l00In_yes (m : Int) 1 256 hm.1 hm.2 _).mono ?_; rintro e w' ⟨rfl, rfl⟩))
  refine (l05Self_any a n c m zs _ (Holds.ext H1.out (by (repeat with_reducible (first | exact Ext.refl _ | exact ext_alloc _ _ | refine Ext.drewN ?_ _ | refine Ext.drew1 ?_ | refine Ext.set ?_ (by dsimp only; omega) _ | refine Ext.alloc ?_ _)))) HN.out HMM.out).mono ?_
  rintro e w1 ⟨v, ys, rfl, O1, hy, E1⟩
  have HO := hid (Own.base O1 (B' := w.heap.size) (by first | exact Nat.le_refl _ | (simp; done)))
  have HY := hid hy
  have EY := hid (show Ext w w1 from Ext.trans (by (repeat with_reducible (first | exact Ext.refl _ | exact ext_alloc _ _ | refine Ext.drewN ?_ _ | refine Ext.drew1 ?_ | refine Ext.set ?_ (by dsimp only; omega) _ | refine Ext.alloc ?_ _))) E1)
  clear O1 hy E1
  go_wp2_with fail
  refine (l03List_is _ _ w.heap.size ys R O _ HO.out HMM.out (by rw [HY.out]; exact HS2.out)).mono ?_
  rintro e w2 ⟨u, rfl, hu, E2⟩
  have hu1 := hid hu
  have hx1 := hid (Ext.trans EY.out E2)
  clear hu E2
  go_wp2
  go_ret2
  exact ⟨_, rfl, hu1.out, hx1.out⟩



/-- the sum of some numbers behind the first ones -/
def sumAt (zs : List Nat) (p m : Nat) : Option Nat := sumK (fun j => cls .f32 (zs.getD (p + j) 0)) m
theorem hold_part {w : World} {b off n p m : Nat} {zs : List Nat} (h : Holds .f32 w (some ⟨b, off, none⟩) n zs) (hp : p + m ≤ n) : Holds .f32 w (some ⟨b, off + p, none⟩) m ((zs.drop p).take m) := by
  obtain ⟨hl, hc⟩ := h
  refine ⟨by simp [hl]; omega, ?_⟩
  by_cases h0 : m = 0
  · exact .inl h0
  · right
    rcases hc with hc | ⟨b2, off2, e, hb, hc⟩
    · omega
    · cases e
      refine ⟨b, off + p, rfl, hb, fun i hi => ?_⟩
      have := hc (p + i) (by omega)
      rw [← Nat.add_assoc] at this
      rw [this]
      simp [List.getD, hi, List.getElem?_drop]
theorem sumAt_part (zs : List Nat) (p m : Nat) : sumK (fun j => cls .f32 (((zs.drop p).take m).getD j 0)) m = sumAt zs p m := by
  unfold sumAt
  refine sumK_congr fun k hk => ?_
  simp [List.getD, hk, List.getElem?_drop]
theorem sumAt_some {zs : List Nat} {n p m : Nat} (hF : ∀ k, k < n → fin32 (cls .f32 (zs.getD k 0)) = true) (hp : p + m ≤ n) : ∃ s, sumAt zs p m = some s ∧ nanW .f32 s = false :=
  sumK_some (fun k b h => cls_ok .f32 _ b h) (fun k hk => hF (p + k) (by omega))
theorem wrap_small {x : Int} (h0 : -9223372036854775808 ≤ x) (h1 : x < 9223372036854775808) : IntKind.i64.wrap x = x := by
  have hb : IntKind.i64.bits = 64 := rfl
  have hs : IntKind.i64.signed = true := rfl
  have e1 : (2 : Int) ^ 64 = 18446744073709551616 := by decide
  have e2 : (2 : Int) ^ (64 - 1) = 9223372036854775808 := by decide
  unfold IntKind.wrap
  simp only [hb, hs, e1, e2, Bool.true_and, decide_eq_true_eq]
  split <;> omega
theorem quo_some {s : Nat} (hs : nanW .f32 s = false) {d : Nat} (h0 : d ≠ 0) (h1 : d < 258) : ∃ q, floatBits .quo .f32 s (floatOfInt .f32 (d : Int)) = some q ∧ nanW .f32 q = false := by
  obtain ⟨m2, j, r2, _, _, _, k4⟩ := int_read (a := d) h1
  have n2 : m2 ≠ 0 := by rintro rfl; rw [Nat.zero_mul] at k4; have := Nat.two_pow_pos 149; have := Nat.mul_ne_zero h0 (Nat.ne_of_gt this); omega
  have key : ∃ x, (FloatKind.f32.format.read s).quotient (FloatKind.f32.format.fractionBits + 2) (FloatKind.f32.format.read (floatOfInt .f32 (d : Int))) = some x := by
    rw [r2]
    rw [← read_nan] at hs
    generalize FloatKind.f32.format.read s = p at hs
    cases p with
    | nan s t => simp [Ieee.Datum.isNaN] at hs
    | infinity s => exact ⟨_, rfl⟩
    | number s m e => simp only [Ieee.Datum.quotient]; rw [if_neg n2]; exact ⟨_, rfl⟩
  obtain ⟨x, hx⟩ := key
  have hb : floatBits .quo .f32 s (floatOfInt .f32 (d : Int)) = some (FloatKind.f32.format.write x) := by
    simp only [floatBits, Ieee.Format.div, hx]; rfl
  exact ⟨_, hb, floatBits_num hb⟩
def thinC (zs : List Nat) (d k : Nat) : Option Nat := fop .quo .f32 (sumAt zs (k * d) d) (some (floatOfInt .f32 (d : Int)))
def thinR (zs : List Nat) (d : Int) : List (Option Nat) × Bool := if soundB (zs.map (cls .f32)) && (decide (1 ≤ d) && decide (d ≤ 256)) then soundR (thinC zs d.toNat) (zs.length / d.toNat) else ([], false)
theorem thin_len (zs : List Nat) (d : Int) : (thinR zs d).1.length ≤ 256 := by
  unfold thinR
  split
  · rename_i h
    simp only [Bool.and_eq_true] at h
    have h1 := sound_len h.1
    have h2 := soundR_len (thinC zs d.toNat) (zs.length / d.toNat)
    have h3 := Nat.div_le_self zs.length d.toNat
    simp at h1
    omega
  · exact Nat.zero_le _

set_option maxHeartbeats 4000000 in
set_option maxRecDepth 100000 in
theorem thin_clo (k b1 b2 n c d : Nat) (a : Option Addr) (zs : List Nat) (w : World) (hk : (k + 1) * d ≤ n) (h0 : d ≠ 0) (hkb : k ≤ 1048576) (hd : d ≤ 256) (hn : n ≤ 1048576) (hcap : n ≤ c) (h1 : Box w b1 #[.slice a n c]) (h2 : Box w b2 #[.int .i64 (d : Int)]) (g1 : Holds .f32 w a n zs) (hF : ∀ k, k < n → fin32 (cls .f32 (zs.getD k 0)) = true) :
    Calls Try.prog 61 #[.int .i64 (k : Int), .pointer (some ⟨b1, 0, none⟩), .pointer (some ⟨b2, 0, none⟩)] w fun e w' => ∃ r, e = .returned (.float .f32 r) ∧ cls .f32 r = fop .quo .f32 (sumAt zs (k * d) d) (some (floatOfInt .f32 (d : Int))) ∧ Ext w w' := by
  obtain ⟨d1, l1⟩ := Box.cells1 h1
  obtain ⟨d2, l2⟩ := Box.cells1 h2
  have hpd : k * d + d = (k + 1) * d := by rw [Nat.add_mul, Nat.one_mul]
  have hP1 : ((k : Int)) * (d : Int) = ((k * d : Nat) : Int) := by simp
  obtain ⟨e2, he2⟩ : ∃ e2, e2 = k * d + d := ⟨_, rfl⟩
  obtain ⟨k1, hk1⟩ : ∃ k1, k1 = k + 1 := ⟨_, rfl⟩
  have hK1 : (k : Int) + 1 = (k1 : Int) := by omega
  have hP2 : (k1 : Int) * (d : Int) = (e2 : Int) := by rw [he2, hpd, hk1]; simp
  have hpn : k * d + d ≤ n := by omega
  generalize k * d = p at *
  obtain ⟨s, hs, hsn⟩ := sumAt_some hF hpn
  obtain ⟨q, hq, hqn⟩ := quo_some hsn h0 (by omega)
  rcases g1.2 with hz | ⟨b, off, rfl, hb, hc⟩
  · omega
  have SN : ∀ u, Ext w u → Calls Try.prog 62 #[.slice (some ⟨b, off + p, none⟩) (e2 - p) (c - p), .func (.func 63) #[] #[]] u fun e w' => e = .returned (.float .f32 s) ∧ ∃ q, w' = u.drewN q := fun u hu => by
    rw [show e2 - p = d by omega]
    refine (sumAll_any _ d (c - p) ((zs.drop p).take d) u (hold_part (Holds.ext g1 hu) hpn) (by omega)).mono ?_
    rintro e w' ⟨r, rfl, hr, q, rfl⟩
    rw [sumAt_part, hs] at hr
    exact ⟨by rw [cls_word (Is.out hr)], q, rfl⟩
  have W1 : IntKind.i64.wrap (p : Int) = (p : Int) := wrap_small (by omega) (by omega)
  have W2 : IntKind.i64.wrap (k1 : Int) = (k1 : Int) := wrap_small (by omega) (by omega)
  have W3 : IntKind.i64.wrap (e2 : Int) = (e2 : Int) := wrap_small (by omega) (by omega)
  have Q1 : ∀ w : World, (binOp .quo 33 (.float .f32 s) (.float .f32 (floatOfInt .f32 (d : Int)))).run Try.prog w = .ok (.float .f32 q) w := fun w => run_float_arith w .quo 33 .f32 _ _ _ hq
  have hi0 : (0 : Int) ≤ (p : Int) := by omega
  have hi1 : (p : Int) ≤ (e2 : Int) := by omega
  have hi2 : (e2 : Int) ≤ (c : Int) := by omega
  have hi3 : ¬ c = p := by omega
  have HSN := hid SN
  have HRES := hid (show cls .f32 q = fop .quo .f32 (sumAt zs p d) (some (floatOfInt .f32 (d : Int))) from by rw [hs, cls_num hqn]; exact hq.symm)
  clear SN h1 h2 g1 hF hb hc hq hs hk1 he2 hpd hk hpn
  go_enter Try.func61, Try.ntmps61
  go_wp2_with fail
  go_quiet (first | (go_at_call 62; refine Calls.quiet_of (v := .float .f32 s) ?_; with_reducible exact HSN.out _ (by (repeat with_reducible (first | exact Ext.refl _ | exact ext_alloc _ _ | refine Ext.drewN ?_ _ | refine Ext.drew1 ?_ | refine Ext.set ?_ (by dsimp only; omega) _ | refine Ext.alloc ?_ _)))))
  go_wp2
  go_ret
  exact ⟨_, rfl, HRES.out, by (repeat with_reducible (first | exact Ext.refl _ | exact ext_alloc _ _ | refine Ext.drewN ?_ _ | refine Ext.drew1 ?_ | refine Ext.set ?_ (by dsimp only; omega) _ | refine Ext.alloc ?_ _))⟩

set_option maxHeartbeats 4000000 in
set_option maxRecDepth 100000 in
theorem thin_any (a : Option Addr) (n c : Nat) (d : Int) (zs : List Nat) (R : List (Option Nat)) (O : Bool) (w : World) (h : Holds .f32 w a n zs) (hn : n ≤ 1048576) (hcap : n ≤ c) (hR : thinR zs d = (R, O)) :
    Calls Try.prog 30 #[.slice a n c, .int .i64 d] w fun e w' => ∃ v, e = .returned (.tuple #[v, .bool O]) ∧ ListIs w' w.heap.size R v ∧ Ext w w' := by
  have H1 := hid h
  have HN := hid hn
  have HL := hid h.1
  have HR := hid hR
  clear h hn hR
  cases hA : soundB (zs.map (cls .f32))
  · have e : O = false ∧ R = [] := by have := HR.out; unfold thinR at this; rw [hA] at this; simpa [eq_comm, and_comm] using this
    obtain ⟨rfl, rfl⟩ := e
    go_enter Try.func30, Try.ntmps30
    go_wp2_with (first | (go_at_call 55; with_reducible refine (isSound_drew a n c zs _ _ (Holds.ext H1.out (by (repeat with_reducible (first | exact Ext.refl _ | exact ext_alloc _ _ | refine Ext.drewN ?_ _ | refine Ext.drew1 ?_ | refine Ext.set ?_ (by dsimp only; omega) _ | refine Ext.alloc ?_ _)))) HN.out hA).mono ?_; rintro e w' ⟨rfl, m1, rfl⟩))
    go_returns
    refine ⟨_, rfl, nil_is _ _, ?_⟩
    (repeat with_reducible (first | exact Ext.refl _ | exact ext_alloc _ _ | refine Ext.drewN ?_ _ | refine Ext.drew1 ?_ | refine Ext.set ?_ (by dsimp only; omega) _ | refine Ext.alloc ?_ _))
  by_cases hm : ¬ (1 ≤ d ∧ d ≤ 256)
  · have e : O = false ∧ R = [] := by have := HR.out; unfold thinR at this; rw [if_neg (by rw [hA]; simp; omega)] at this; simpa [eq_comm, and_comm] using this
    obtain ⟨rfl, rfl⟩ := e
    go_enter Try.func30, Try.ntmps30
    go_wp2_with (first | (go_at_call 55; with_reducible refine (isSound_drew a n c zs _ _ (Holds.ext H1.out (by (repeat with_reducible (first | exact Ext.refl _ | exact ext_alloc _ _ | refine Ext.drewN ?_ _ | refine Ext.drew1 ?_ | refine Ext.set ?_ (by dsimp only; omega) _ | refine Ext.alloc ?_ _)))) HN.out hA).mono ?_; rintro e w' ⟨rfl, m1, rfl⟩) | (go_at_call 49; with_reducible refine (isCount_no d hm _).mono ?_; rintro e w' ⟨rfl, rfl⟩))
    go_returns
    refine ⟨_, rfl, nil_is _ _, ?_⟩
    (repeat with_reducible (first | exact Ext.refl _ | exact ext_alloc _ _ | refine Ext.drewN ?_ _ | refine Ext.drew1 ?_ | refine Ext.set ?_ (by dsimp only; omega) _ | refine Ext.alloc ?_ _))
  replace hm := Decidable.not_not.1 hm
  have HS := hid (show soundR (thinC zs d.toNat) (n / d.toNat) = (R, O) from by have := HR.out; unfold thinR at this; rw [if_pos (by rw [hA]; simp; omega), HL.out] at this; exact this)
  obtain ⟨d, rfl⟩ : ∃ q : Nat, d = (q : Int) := ⟨d.toNat, by omega⟩
  have HS2 := hid (show soundR (thinC zs d) (n / d) = (R, O) from HS.out)
  have HD := hid (show 1 ≤ d ∧ d ≤ 256 by omega)
  have HF := hid (fun k (hk : k < n) => sound_fin hA k (by rw [HL.out]; exact hk))
  have hnd : n / d ≤ n := Nat.div_le_self n d
  have HND := hid (show n / d ≤ 1048576 by have := HN.out; omega)
  have HMD := hid (show ∀ k, k < n / d ↔ (k + 1) * d ≤ n from fun k => by rw [← Nat.le_div_iff_mul_le (by omega : 0 < d)]; exact Iff.rfl)
  clear HR HS
  have HCAP := hid hcap
  have hdiv : (n : Int).tdiv (d : Int) = ((n / d : Nat) : Int) := by rfl
  have hd0 : ¬ ((d : Int) = 0) := by omega
  generalize n / d = m at *
  have W1 : IntKind.i64.wrap (m : Int) = (m : Int) := wrap_small (by omega) (by have := HND.out; omega)
  clear hcap hnd
  go_enter Try.func30, Try.ntmps30
  go_wp2_with (first | (go_at_call 55; with_reducible refine (isSound_drew a n c zs _ _ (Holds.ext H1.out (by (repeat with_reducible (first | exact Ext.refl _ | exact ext_alloc _ _ | refine Ext.drewN ?_ _ | refine Ext.drew1 ?_ | refine Ext.set ?_ (by dsimp only; omega) _ | refine Ext.alloc ?_ _)))) HN.out hA).mono ?_; rintro e w' ⟨rfl, m1, rfl⟩) | (go_at_call 49; with_reducible refine (isCount_yes (d : Int) hm _).mono ?_; rintro e w' ⟨rfl, rfl⟩))
  obtain ⟨w0, hw0⟩ : ∃ u, u = ((w.alloc (.cells #[.slice a n c] 22)).alloc (.cells #[.int .i64 (d : Int)] 2)).drewN m1 := ⟨_, rfl⟩
  rw [← hw0]
  have EX := hid (show Ext w w0 from by rw [hw0]; (repeat with_reducible (first | exact Ext.refl _ | exact ext_alloc _ _ | refine Ext.drewN ?_ _ | refine Ext.drew1 ?_ | refine Ext.set ?_ (by dsimp only; omega) _ | refine Ext.alloc ?_ _)))
  have B0 : Hid (Box w0 w.heap.size #[.slice a n c]) := by rw [hw0]; exact hid (Box.drewN (Box.alloc (box_new (w := w) #[.slice a n c] 22) _) _)
  have B1 : Hid (Box w0 (w.heap.size + 1) #[.int .i64 (d : Int)]) := by rw [hw0]; exact hid (Box.drewN (Box.cast' (box_new (w := w.alloc (.cells #[.slice a n c] 22)) #[.int .i64 (d : Int)] 2) (by simp)) _)
  clear hw0
  refine (soundOf_any m 61 #[.pointer (some ⟨w.heap.size, 0, none⟩), .pointer (some ⟨w.heap.size + 1, 0, none⟩)] (thinC zs d) R O w0 HND.out (fun _ _ => by simp [go_sem]) (fun k hk wr e => thin_clo k _ _ n c d a zs wr ((HMD.out k).1 hk) (by have := HD.out; omega) (by have := HND.out; omega) HD.out.2 HN.out HCAP.out (Box.ext B0.out e) (Box.ext B1.out e) (Holds.ext H1.out (Ext.trans EX.out e)) HF.out) HS2.out).mono ?_
  rintro e w1 ⟨v, rfl, hv, E1⟩
  have HL2 := hid hv
  have EY := hid (Ext.trans EX.out E1)
  have HZ := hid (show w.heap.size ≤ w0.heap.size from Ext.size EX.out)
  clear hv E1
  go_wp2_with fail
  go_returns
  exact ⟨_, rfl, ListIs.base HL2.out HZ.out, EY.out⟩

set_option maxHeartbeats 4000000 in
set_option maxRecDepth 100000 in
theorem sThin_any (a : Option Addr) (n c : Nat) (d : Int) (zs : List Nat) (R : List (Option Nat)) (O : Bool) (w : World) (h : Holds .f32 w a n zs) (hn : n ≤ 1048576) (hR : thinR zs d = (R, O)) :
    Calls Try.prog 29 #[.slice a n c, .int .i64 d] w fun e w' => ∃ v, e = .returned (.tuple #[v, .bool O]) ∧ ListIs w' w.heap.size R v ∧ Ext w w' := by
  have H1 := hid h
  have HN := hid hn
  have HL := hid h.1
  have HR := hid hR
  clear h hn hR
  cases hA : soundB (zs.map (cls .f32))
  · have e : O = false ∧ R = [] := by have := HR.out; unfold thinR at this; rw [hA] at this; simpa [eq_comm, and_comm] using this
    obtain ⟨rfl, rfl⟩ := e
    go_enter Try.func29, Try.ntmps29
    go_wp2_with (first | (go_at_call 53; with_reducible refine (l03Sound_drew a n c zs _ _ (Holds.ext H1.out (by (repeat with_reducible (first | exact Ext.refl _ | exact ext_alloc _ _ | refine Ext.drewN ?_ _ | refine Ext.drew1 ?_ | refine Ext.set ?_ (by dsimp only; omega) _ | refine Ext.alloc ?_ _)))) HN.out hA).mono ?_; rintro e w' ⟨rfl, m1, rfl⟩))
    go_returns
    refine ⟨_, rfl, nil_is _ _, ?_⟩
    (repeat with_reducible (first | exact Ext.refl _ | exact ext_alloc _ _ | refine Ext.drewN ?_ _ | refine Ext.drew1 ?_ | refine Ext.set ?_ (by dsimp only; omega) _ | refine Ext.alloc ?_ _))
  by_cases hm : ¬ (1 ≤ d ∧ d ≤ 256)
  · have e : O = false ∧ R = [] := by have := HR.out; unfold thinR at this; rw [if_neg (by rw [hA]; simp; omega)] at this; simpa [eq_comm, and_comm] using this
    obtain ⟨rfl, rfl⟩ := e
    go_enter Try.func29, Try.ntmps29
    go_wp2_with (first | (go_at_call 53; with_reducible refine (l03Sound_drew a n c zs _ _ (Holds.ext H1.out (by (repeat with_reducible (first | exact Ext.refl _ | exact ext_alloc _ _ | refine Ext.drewN ?_ _ | refine Ext.drew1 ?_ | refine Ext.set ?_ (by dsimp only; omega) _ | refine Ext.alloc ?_ _)))) HN.out hA).mono ?_; rintro e w' ⟨rfl, m1, rfl⟩) | (go_at_call 47; with_reducible refine (l00In_no d 1 256 hm _).mono ?_; rintro e w' ⟨rfl, rfl⟩))
    go_returns
    refine ⟨_, rfl, nil_is _ _, ?_⟩
    (repeat with_reducible (first | exact Ext.refl _ | exact ext_alloc _ _ | refine Ext.drewN ?_ _ | refine Ext.drew1 ?_ | refine Ext.set ?_ (by dsimp only; omega) _ | refine Ext.alloc ?_ _))
  replace hm := Decidable.not_not.1 hm
  have HS := hid (show soundR (thinC zs d.toNat) (n / d.toNat) = (R, O) from by have := HR.out; unfold thinR at this; rw [if_pos (by rw [hA]; simp; omega), HL.out] at this; exact this)
  obtain ⟨d, rfl⟩ : ∃ q : Nat, d = (q : Int) := ⟨d.toNat, by omega⟩
  have HS2 := hid (show soundR (thinC zs d) (n / d) = (R, O) from HS.out)
  have HD := hid (show 1 ≤ d ∧ d ≤ 256 by omega)
  have HF := hid (fun k (hk : k < n) => sound_fin hA k (by rw [HL.out]; exact hk))
  have hnd : n / d ≤ n := Nat.div_le_self n d
  have HND := hid (show n / d ≤ 1048576 by have := HN.out; omega)
  have HMD := hid (show ∀ k, k < n / d ↔ (k + 1) * d ≤ n from fun k => by rw [← Nat.le_div_iff_mul_le (by omega : 0 < d)]; exact Iff.rfl)
  clear HR HS
  generalize n / d = m at *
  clear hnd
  obtain ⟨i0, hif, hz0, hz1, hz2⟩ := info_parts infoF
  have HI := hid (And.intro hif (And.intro hz0 (And.intro hz1 hz2)))
  clear hif hz0 hz1 hz2
  go_enter Try.func29, Try.ntmps29
  go_wp2_with (first | (go_at_call 53; with_reducible refine (l03Sound_drew a n c zs _ _ (Holds.ext H1.out (by (repeat with_reducible (first | exact Ext.refl _ | exact ext_alloc _ _ | refine Ext.drewN ?_ _ | refine Ext.drew1 ?_ | refine Ext.set ?_ (by dsimp only; omega) _ | refine Ext.alloc ?_ _)))) HN.out hA).mono ?_; rintro e w' ⟨rfl, m1, rfl⟩) | (go_at_call 47; with_reducible refine (l00In_yes (d : Int) 1 256 hm.1 hm.2 _).mono ?_; rintro e w' ⟨rfl, rfl⟩))
  go_loopw [6, 7] (fun v i wr => ∃ (t p : Nat) (ys : List Nat), t ≤ m ∧ p = t * d ∧ i = .int .i64 p ∧ Hid (Own wr w.heap.size t v ys) ∧ Hid (ys.map (cls .f32) = listK (thinC zs d) t) ∧ Hid (Ext w wr)) (fun _ i _ => n + 1 - (intOf i).toNat)
  case atStart => exact ⟨0, 0, [], Nat.zero_le _, by simp, rfl, hid (own_fresh (cs := #[]) (zs := []) (hid rfl) rfl (by simp) (by simp) (Nat.zero_le _)), rfl, hid (by (repeat with_reducible (first | exact Ext.refl _ | exact ext_alloc _ _ | refine Ext.drewN ?_ _ | refine Ext.drew1 ?_ | refine Ext.set ?_ (by dsimp only; omega) _ | refine Ext.alloc ?_ _)))⟩
  case round =>
    obtain ⟨t, p, ys, ht, hp, rfl, ho, hyy, he⟩ := hrel
    have hn2 : n ≤ 1048576 := HN.out
    have hd2 : 1 ≤ d ∧ d ≤ 256 := HD.out
    have hm2 : m ≤ 1048576 := HND.out
    have hmd := HMD.out t
    have hs := hid (listK_succ (thinC zs d) t)
    have HCC : Hid (thinC zs d t = fop .quo .f32 (sumAt zs p d) (some (floatOfInt .f32 (d : Int)))) := by rw [hp]; exact hid rfl
    have hpd : (t + 1) * d = p + d := by rw [hp, Nat.add_mul, Nat.one_mul]
    have hpn : p ≤ n := by
      by_cases h0 : t = 0
      · subst h0; omega
      · have h1 := (HMD.out (t - 1)).1 (by omega)
        rw [show t - 1 + 1 = t by omega, ← hp] at h1
        exact h1
    rw [hpd] at hmd
    have HPD := hid hpd
    clear hp hpd
    by_cases hlt : p + d ≤ n
    · have htm : t < m := hmd.2 hlt
      have hi0 : (p : Int) + (d : Int) ≤ (n : Int) := by omega
      have HSZ := hid (Ext.size he.out)
      rename World => wo
      go_wp2_with fail
      go_loopw [8, 9] (fun s i wi => ∃ (j r : Nat), j ≤ d ∧ i = .int .i64 j ∧ s = .float .f32 r ∧ Is .f32 r (sumAt zs p j) ∧ Hid (∃ q, wi = wo.drewN q)) (fun _ i _ => d - (intOf i).toNat)
      case atStart => exact ⟨0, 0, Nat.zero_le _, rfl, rfl, cls0, hid ⟨0, rfl⟩⟩
      case round =>
        obtain ⟨j, r0, hj, rfl, rfl, hr0, hw⟩ := hrel
        by_cases hlt2 : j < d
        · have E0 : Ext w wr := by obtain ⟨q, hq⟩ := hw.out; rw [hq]; exact Ext.drewN he.out _
          obtain ⟨b, off, rfl, e1⟩ := cell_at H1.out E0 (p + j) (by omega)
          have hd : Hid (sumAt zs p (j + 1) = fop .add .f32 (sumAt zs p j) (cls .f32 (zs.getD (p + j) 0))) := rfl
          generalize sumAt zs p j = D at hr0 hd
          generalize zs.getD (p + j) 0 = x at e1 hd
          have hj1 : (j : Int) < (d : Int) := by omega
          have hj2 : (p : Int) + (j : Int) = ((p + j : Nat) : Int) := by omega
          have hj3 : (0 : Int) ≤ ((p + j : Nat) : Int) := by omega
          have hj4 : ((p + j : Nat) : Int) < (n : Int) := by omega
          generalize hP : p + j = P at *
          clear E0
          go_wp2_with (first | (refine wpList_fa rfl rfl rfl rfl rfl (by first | assumption | exact is_const (by decide) | exact is_int _ | exact is_self _ _) (by first | assumption | exact is_const (by decide) | exact is_int _ | exact is_self _ _) ?_; intro r m9 hr hrw))
          go_roundw
          case rel => exact ⟨j + 1, _, by omega, by go_num, rfl, by rw [hd.out]; assumption, by obtain ⟨q, hq⟩ := hw.out; exact hid ⟨q + m9, by rw [hq, World.drewN_drewN]⟩⟩
          case measure => simp [intOf]; omega
        · have hjd : j = d := by omega
          have hj1 : ¬ ((j : Int) < (d : Int)) := by omega
          subst hjd
          obtain ⟨q, hq⟩ := hw.out
          subst hq
          go_wp2_with (first | (refine wpList_fa rfl rfl rfl rfl rfl hr0 (is_int _) ?_; intro r2 m9 hr2 hrw2) | (at_builtin; refine wpList_append_lies _ rfl _ _ 22 rfl w.heap.size 33 i0 (.float .f32 0) 1 4 Try.underlying22 HI.out.1 HI.out.2.1 HI.out.2.2.1 HI.out.2.2.2 rfl (by decide) _ _ _ rfl (Own.ext ho.out (by (repeat with_reducible (first | exact Ext.refl _ | exact ext_alloc _ _ | refine Ext.drewN ?_ _ | refine Ext.drew1 ?_ | refine Ext.set ?_ (by dsimp only; omega) _ | refine Ext.alloc ?_ _)))) ⟨wo.heap.size, 0, none⟩ 1 1 [.float .f32 r2] rfl rfl (World.news_of_block (heap_alloc_new _ _)) (by intro u hu; simp at hu; subst hu; rfl) (by omega) (by have h9 := HND.out; unfold maxLen; omega) (by have h9 := HND.out; omega) (by have h8 := HSZ.out; simp; omega) _ rfl ?_; intro g cap w1 hown hgrow hat hlt2))
          have h1 := hid (own_snoc hown)
          have h2 := hid (show Ext w w1 from But.below hgrow (Ext.trans he.out (by (repeat with_reducible (first | exact Ext.refl _ | exact ext_alloc _ _ | refine Ext.drewN ?_ _ | refine Ext.drew1 ?_ | refine Ext.set ?_ (by dsimp only; omega) _ | refine Ext.alloc ?_ _)))) (fun k2 hk2 => (Own.block ho.out k2 hk2).1))
          have h3 := hid (show (ys ++ [r2]).map (cls .f32) = listK (thinC zs j) (t + 1) from by rw [List.map_append, hyy.out, hs.out, HCC.out, ← Is.out hr2]; rfl)
          clear hown hgrow hat hlt2
          go_wp2
          go_roundw
          case rel => exact ⟨t + 1, p + j, ys ++ [r2], by omega, HPD.out.symm, by go_num, h1, h3, h2⟩
          case measure => simp [intOf]; omega
    · have htm : ¬ t < m := fun h => hlt (hmd.1 h)
      have hi0 : ¬ ((p : Int) + (d : Int) ≤ (n : Int)) := by omega
      have hkn : t = m := by omega
      subst hkn
      go_wp2_with fail
      refine (l03List_is _ _ w.heap.size ys R O _ ho.out HND.out (by rw [hyy.out]; exact HS2.out)).mono ?_
      rintro e w1 ⟨u, rfl, hu, E1⟩
      have hu1 := hid hu
      have hx1 := hid (Ext.trans he.out E1)
      clear hu E1
      go_wp2
      go_ret2
      exact ⟨_, rfl, hu1.out, hx1.out⟩



theorem wrap_si {x : Int} (h0 : -9223372036854775808 ≤ x) (h1 : x < 9223372036854775808) : IntKind.i64.wrap x = x := by
  have hb : IntKind.i64.bits = 64 := rfl
  have hs : IntKind.i64.signed = true := rfl
  have e1 : (2 : Int) ^ 64 = 18446744073709551616 := by decide
  have e2 : (2 : Int) ^ (64 - 1) = 9223372036854775808 := by decide
  unfold IntKind.wrap
  simp only [hb, hs, e1, e2, Bool.true_and, decide_eq_true_eq]
  split <;> omega
theorem OwnI.stored {w : World} {B n g c : Nat} {zs : List Int} (h : OwnI w B n (.slice (some ⟨g, 0, none⟩) n c) zs) (j : Nat) (u : Int) :
    OwnI (w.setCell ⟨g, j, none⟩ (.int .i64 u)) B n (.slice (some ⟨g, 0, none⟩) n c) (zs.set j u) ∧ But (some g) w (w.setCell ⟨g, j, none⟩ (.int .i64 u)) := by
  obtain ⟨h1, h2⟩ := World.ownsRow.stored h j (.int .i64 u)
  refine ⟨?_, h2⟩
  unfold OwnI
  rw [List.map_set]
  exact h1
theorem OwnI.cellAt {w : World} {B n g c : Nat} {zs : List Int} (h : OwnI w B n (.slice (some ⟨g, 0, none⟩) n c) zs) (j : Nat) (hj : j < n) : w.cell? ⟨g, j, none⟩ = some (.int .i64 (zs.getD j 0)) := by
  have hl := h.len
  rw [World.ownsRow.cellAt h j (by omega)]
  simp [List.getD, show j < zs.length by omega]
theorem OwnI.frozenAt {w : World} {B n g c : Nat} {zs : List Int} (h : OwnI w B n (.slice (some ⟨g, 0, none⟩) n c) zs) (j : Nat) : w.frozen? ⟨g, j, none⟩ = false := World.ownsRow.frozenAt h j
theorem markI_any (a : Option Addr) (n c k B : Nat) (zs : List Int) (w : World) (h : OwnI w B n (.slice a n c) zs) (hn : n ≤ 1048576) (hk : k ≤ 1099511627776) :
    Calls Try.prog 38 #[.slice a n c, .int .i64 k] w fun e w' => e = .returned (.int .i64 ((k + n : Nat) : Int)) ∧ (∃ us, OwnI w' B n (.slice a n c) us) ∧ But (Value.slice a n c).ownBlock w w' := by
  have hl := h.len
  rcases id h.2 with ⟨hv, h0⟩ | ⟨g, cap, cur, hv, hb, hg, hnc, hm, hs, ht⟩
  · simp only [Value.slice.injEq] at hv
    obtain ⟨rfl, _, rfl⟩ := hv
    subst h0
    clear h hl
    go_enter Try.func38, Try.ntmps38
    go_wp2
    refine wp_loop_rounds 1 ?_
    rw [rounds_succ]
    go_wp2
    go_ret
    exact ⟨by simp, ⟨_, ownI_nil _ _⟩, But.refl _ _⟩
  · simp only [Value.slice.injEq] at hv
    obtain ⟨rfl, _, rfl⟩ := hv
    clear hb hg hs ht
    have HH := hid h
    have HL := hid hl
    clear h hl
    go_enter Try.func38, Try.ntmps38
    go_wp2
    go_loopw [1, 5] (fun q i wr => ∃ (j : Nat) (ys : List Int), j ≤ n ∧ i = .int .i64 j ∧ q = .int .i64 ((k + j : Nat) : Int) ∧ Hid (OwnI wr B n (.slice (some ⟨g, 0, none⟩) n c) ys) ∧ Hid (But (some g) w wr)) (fun _ i _ => n - (intOf i).toNat)
    case atStart => exact ⟨0, zs, Nat.zero_le _, rfl, by simp, HH.out, But.refl _ _⟩
    case round =>
      obtain ⟨j, ys, hj, rfl, rfl, ho, hbut⟩ := hrel
      by_cases hlt : j < n
      · have hcell := OwnI.cellAt ho.out j hlt
        have hfr := OwnI.frozenAt ho.out j
        have hW : IntKind.i64.wrap ((k + j : Nat) : Int) = ((k + j : Nat) : Int) := wrap_si (by omega) (by omega)
        go_wp2
        go_roundw
        case rel => exact ⟨j + 1, ys.set j ((k + j : Nat) : Int), by omega, by go_num, by go_num, (OwnI.stored ho.out j _).1, hbut.out.trans (OwnI.stored ho.out j _).2⟩
        case measure => simp [intOf]; omega
      · have : j = n := by omega
        subst this
        go_wp2
        go_ret
        exact ⟨by simp, ⟨_, ho.out⟩, hbut.out⟩



theorem isNaNI (x : Int) (w : World) : Calls Try.prog 99 #[.int .i64 x] w fun e w' => e = .returned (.bool false) ∧ w = w' := by
  go_enter Try.func99, Try.ntmps99
  go_wp2
  go_ret
  exact ⟨by first | rfl | (simp; done), rfl⟩
theorem lessI (x y : Int) (V : Bool) (hV : decide (x < y) = V) (w : World) : Calls Try.prog 93 #[.int .i64 x, .int .i64 y] w fun e w' => e = .returned (.bool V) ∧ ∃ q, w' = w.drewN q := by
  go_enter Try.func93, Try.ntmps93
  go_wp2_with (go_at_call 99; refine (isNaNI _ _).mono ?_; rintro e w' ⟨rfl, rfl⟩)
  go_ret
  exact ⟨by first | (rw [hV]; done) | (simp [hV]; done), 0, by first | rfl | (simp; done)⟩
def leAt (ys : List Int) (i : Nat) : Bool := decide (ys.getD i 0 ≤ ys.getD (i + 1) 0)
def sortedB (ys : List Int) : Bool := (List.range (ys.length - 1)).all (leAt ys)
def edgesB (ys : List Int) (n : Nat) : Bool := decide (2 ≤ ys.length) && (decide (ys.length ≤ 64) && (sortedB ys && (decide (0 ≤ ys.getD 0 0) && decide (ys.getD (ys.length - 1) 0 ≤ (n : Int)))))
theorem sorted_at {ys : List Int} (h : sortedB ys = true) (i : Nat) (hi : i + 1 < ys.length) : ys.getD i 0 ≤ ys.getD (i + 1) 0 := by
  have h1 := List.all_eq_true.1 h i (List.mem_range.2 (by omega))
  exact of_decide_eq_true h1
theorem sorted_le {ys : List Int} (h : sortedB ys = true) : ∀ d i, i + d < ys.length → ys.getD i 0 ≤ ys.getD (i + d) 0
  | 0, i, _ => Int.le_refl _
  | d + 1, i, hi => Int.le_trans (sorted_le h d i (by omega)) (sorted_at h (i + d) hi)
theorem edges_at {ys : List Int} {n : Nat} (h : edgesB ys n = true) : 2 ≤ ys.length ∧ ys.length ≤ 64 ∧ ∀ i, i < ys.length → ∃ p : Nat, ys.getD i 0 = (p : Int) ∧ p ≤ n ∧ (i + 1 < ys.length → (p : Int) ≤ ys.getD (i + 1) 0) := by
  unfold edgesB at h
  simp only [Bool.and_eq_true, decide_eq_true_eq] at h
  obtain ⟨h1, h2, h3, h4, h5⟩ := h
  refine ⟨h1, h2, fun i hi => ?_⟩
  have a1 := sorted_le h3 i 0 (by omega)
  have a2 := sorted_le h3 (ys.length - 1 - i) i (by omega)
  rw [Nat.zero_add] at a1
  rw [show i + (ys.length - 1 - i) = ys.length - 1 by omega] at a2
  refine ⟨(ys.getD i 0).toNat, by omega, by omega, fun h6 => ?_⟩
  have a3 := sorted_at h3 i h6
  omega


set_option maxHeartbeats 4000000 in
set_option maxRecDepth 100000 in
theorem sorted_yes (a : Option Addr) (n c : Nat) (ys : List Int) (w : World) (h : HoldsI w a n ys) (hn : 2 ≤ n) (hn2 : n ≤ 64) (hs : sortedB ys = true) :
    Calls Try.prog 85 #[.slice a n c] w fun e w' => e = .returned (.bool true) ∧ ∃ q, w' = w.drewN q := by
  have HL := hid h.1
  rcases h.2 with h0 | ⟨b, off, rfl, hb, hc⟩
  · omega
  have HC := hid hc
  have HB := hid hb
  clear hb hc h
  obtain ⟨n1, hn1⟩ : ∃ n1, n1 + 1 = n := ⟨n - 1, by omega⟩
  have hn1i : (n : Int) - 1 = (n1 : Int) := by omega
  have HS := hid hs
  have HN1 := hid hn1
  have W1 : IntKind.i64.wrap (n1 : Int) = (n1 : Int) := wrap_si (by omega) (by omega)
  clear hs hn1
  go_enter Try.func85, Try.ntmps85
  go_wp2_with fail
  go_loopw [3] (fun i wr => ∃ k : Nat, k ≤ n1 ∧ i = .int .i64 k ∧ Hid (∀ j, k ≤ j → j < n1 → leAt ys j = true) ∧ Hid (∃ q, wr = w.drewN q)) (fun i _ => (intOf i).toNat)
  case atStart => exact ⟨n1, Nat.le_refl _, rfl, hid (fun j h1 h2 => by omega), hid ⟨0, rfl⟩⟩
  case round =>
    obtain ⟨k, hk, rfl, hall, hw⟩ := hrel
    have hn1 := HN1.out
    by_cases hk0 : 0 < k
    · obtain ⟨k1, hk1⟩ : ∃ k1, k1 + 1 = k := ⟨k - 1, by omega⟩
      have hk1i : (k : Int) - 1 = (k1 : Int) := by omega
      have W2 : IntKind.i64.wrap (k1 : Int) = (k1 : Int) := wrap_si (by omega) (by omega)
      have e1 : wr.cell? ⟨b, off + k, none⟩ = some (.int .i64 (ys.getD k 0)) := by obtain ⟨q, rfl⟩ := hw.out; exact HC.out k (by omega)
      have e2 : wr.cell? ⟨b, off + k1, none⟩ = some (.int .i64 (ys.getD k1 0)) := by obtain ⟨q, rfl⟩ := hw.out; exact HC.out k1 (by omega)
      have hle : Hid (leAt ys k1 = decide (ys.getD k1 0 ≤ ys.getD k 0)) := by unfold leAt; rw [hk1]; exact hid rfl
      generalize ys.getD k 0 = x at e1 hle
      generalize ys.getD k1 0 = y at e2 hle
      have hi0 : (0 : Int) ≤ (k : Int) := by omega
      have hi1 : (k : Int) < (n : Int) := by omega
      have hi2 : (0 : Int) ≤ (k1 : Int) := by omega
      have hi3 : (k1 : Int) < (n : Int) := by omega
      have HK1 := hid hk1
      clear hk1
      by_cases hxy : x < y
      · have HF := hid (fun u : World => lessI x y true (decide_eq_true hxy) u)
        go_wp2_with fail
        go_quiet (first | (go_at_call 93; refine Calls.quiet_of (v := .bool true) ?_; with_reducible exact HF.out _))
        go_wp2_with fail
        exfalso
        have h1 := sorted_at HS.out k1 (by rw [HL.out]; have := HK1.out; omega)
        have h2 := hle.out
        have h3 : leAt ys k1 = true := by unfold leAt; exact decide_eq_true h1
        rw [h3] at h2
        have := of_decide_eq_true h2.symm
        omega
      · have HF := hid (fun u : World => lessI x y false (decide_eq_false hxy) u)
        go_wp2_with fail
        go_quiet (first | (go_at_call 93; refine Calls.quiet_of (v := .bool false) ?_; with_reducible exact HF.out _))
        go_wp2_with fail
        go_roundw
        case rel => exact ⟨k1, by have := HK1.out; omega, by go_num, hid (fun j h1 h2 => by
          by_cases hj : j = k1
          · subst hj; rw [hle.out]; exact decide_eq_true (by omega)
          · exact hall.out j (by have := HK1.out; omega) h2), by obtain ⟨q, hq⟩ := hw.out; exact hid ⟨_, by rw [hq, World.drewN_drewN]⟩⟩
        case measure => simp [intOf]; omega
    · have hk00 : k = 0 := by omega
      subst hk00
      go_wp2_with fail
      go_ret
      exact ⟨rfl, hw.out⟩


set_option maxHeartbeats 4000000 in
set_option maxRecDepth 100000 in
theorem sorted_no (a : Option Addr) (n c : Nat) (ys : List Int) (w : World) (h : HoldsI w a n ys) (hn : 2 ≤ n) (hn2 : n ≤ 64) (hs : sortedB ys = false) :
    Calls Try.prog 85 #[.slice a n c] w fun e w' => e = .returned (.bool false) ∧ ∃ q, w' = w.drewN q := by
  have HL := hid h.1
  rcases h.2 with h0 | ⟨b, off, rfl, hb, hc⟩
  · omega
  have HC := hid hc
  have HB := hid hb
  clear hb hc h
  obtain ⟨n1, hn1⟩ : ∃ n1, n1 + 1 = n := ⟨n - 1, by omega⟩
  have hn1i : (n : Int) - 1 = (n1 : Int) := by omega
  have HS := hid hs
  have HN1 := hid hn1
  have W1 : IntKind.i64.wrap (n1 : Int) = (n1 : Int) := wrap_si (by omega) (by omega)
  clear hs hn1
  go_enter Try.func85, Try.ntmps85
  go_wp2_with fail
  go_loopw [3] (fun i wr => ∃ k : Nat, k ≤ n1 ∧ i = .int .i64 k ∧ Hid (∀ j, k ≤ j → j < n1 → leAt ys j = true) ∧ Hid (∃ q, wr = w.drewN q)) (fun i _ => (intOf i).toNat)
  case atStart => exact ⟨n1, Nat.le_refl _, rfl, hid (fun j h1 h2 => by omega), hid ⟨0, rfl⟩⟩
  case round =>
    obtain ⟨k, hk, rfl, hall, hw⟩ := hrel
    have hn1 := HN1.out
    by_cases hk0 : 0 < k
    · obtain ⟨k1, hk1⟩ : ∃ k1, k1 + 1 = k := ⟨k - 1, by omega⟩
      have hk1i : (k : Int) - 1 = (k1 : Int) := by omega
      have W2 : IntKind.i64.wrap (k1 : Int) = (k1 : Int) := wrap_si (by omega) (by omega)
      have e1 : wr.cell? ⟨b, off + k, none⟩ = some (.int .i64 (ys.getD k 0)) := by obtain ⟨q, rfl⟩ := hw.out; exact HC.out k (by omega)
      have e2 : wr.cell? ⟨b, off + k1, none⟩ = some (.int .i64 (ys.getD k1 0)) := by obtain ⟨q, rfl⟩ := hw.out; exact HC.out k1 (by omega)
      have hle : Hid (leAt ys k1 = decide (ys.getD k1 0 ≤ ys.getD k 0)) := by unfold leAt; rw [hk1]; exact hid rfl
      generalize ys.getD k 0 = x at e1 hle
      generalize ys.getD k1 0 = y at e2 hle
      have hi0 : (0 : Int) ≤ (k : Int) := by omega
      have hi1 : (k : Int) < (n : Int) := by omega
      have hi2 : (0 : Int) ≤ (k1 : Int) := by omega
      have hi3 : (k1 : Int) < (n : Int) := by omega
      have HK1 := hid hk1
      clear hk1
      by_cases hxy : x < y
      · have HF := hid (fun u : World => lessI x y true (decide_eq_true hxy) u)
        go_wp2_with fail
        go_quiet (first | (go_at_call 93; refine Calls.quiet_of (v := .bool true) ?_; with_reducible exact HF.out _))
        go_wp2_with fail
        go_ret
        exact ⟨rfl, by obtain ⟨q, hq⟩ := hw.out; exact ⟨_, by rw [hq, World.drewN_drewN]⟩⟩
      · have HF := hid (fun u : World => lessI x y false (decide_eq_false hxy) u)
        go_wp2_with fail
        go_quiet (first | (go_at_call 93; refine Calls.quiet_of (v := .bool false) ?_; with_reducible exact HF.out _))
        go_wp2_with fail
        go_roundw
        case rel => exact ⟨k1, by have := HK1.out; omega, by go_num, hid (fun j h1 h2 => by
          by_cases hj : j = k1
          · subst hj; rw [hle.out]; exact decide_eq_true (by omega)
          · exact hall.out j (by have := HK1.out; omega) h2), by obtain ⟨q, hq⟩ := hw.out; exact hid ⟨_, by rw [hq, World.drewN_drewN]⟩⟩
        case measure => simp [intOf]; omega
    · have hk00 : k = 0 := by omega
      subst hk00
      exfalso
      have h1 : sortedB ys = true := by
        unfold sortedB
        rw [List.all_eq_true]
        intro j hj
        exact hall.out j (Nat.zero_le _) (by have := List.mem_range.1 hj; rw [HL.out] at this; omega)
      rw [HS.out] at h1
      cases h1



set_option maxHeartbeats 4000000 in
set_option maxRecDepth 100000 in
theorem areEdges_drew (a : Option Addr) (l c n : Nat) (ys : List Int) (V : Bool) (w : World) (h : HoldsI w a l ys) (hl : l ≤ 1048576) (hn : n ≤ 1048576) (hV : edgesB ys n = V) :
    Calls Try.prog 69 #[.slice a l c, .int .i64 (n : Int)] w fun e w' => e = .returned (.bool V) ∧ ∃ q, w' = w.drewN q := by
  have H := hid h
  have HL := hid h.1
  have HV := hid hV
  clear h hV
  by_cases h2 : l < 2
  · have e : V = false := by rw [← HV.out]; unfold edgesB; rw [HL.out]; simp; omega
    subst e
    have hi : (l : Int) < 2 := by omega
    go_enter Try.func69, Try.ntmps69
    go_wp2_with fail
    go_ret
    exact ⟨rfl, 0, by first | rfl | (simp; done)⟩
  by_cases h64 : 64 < l
  · have e : V = false := by rw [← HV.out]; unfold edgesB; rw [HL.out]; simp; omega
    subst e
    have hi : ¬ (l : Int) < 2 := by omega
    have hi2 : (64 : Int) < (l : Int) := by omega
    go_enter Try.func69, Try.ntmps69
    go_wp2_with fail
    go_ret
    exact ⟨rfl, 0, by first | rfl | (simp; done)⟩
  have hi : ¬ (l : Int) < 2 := by omega
  have hi2 : ¬ (64 : Int) < (l : Int) := by omega
  cases hs : sortedB ys
  · have e : V = false := by rw [← HV.out]; unfold edgesB; rw [HL.out]; simp; intro _ _; rw [hs]; intro h9; cases h9
    subst e
    go_enter Try.func69, Try.ntmps69
    go_wp2_with (first | (go_at_call 85; with_reducible refine (sorted_no _ l c ys _ (HoldsI.ext H.out (by (repeat with_reducible (first | exact Ext.refl _ | exact ext_alloc _ _ | refine Ext.drewN ?_ _ | refine Ext.drew1 ?_ | refine Ext.set ?_ (by dsimp only; omega) _ | refine Ext.alloc ?_ _)))) (by omega) (by omega) hs).mono ?_; rintro e w' ⟨rfl, m1, rfl⟩))
    go_ret
    exact ⟨rfl, _, rfl⟩
  have HVV : Hid ((decide (0 ≤ ys.getD 0 0) && decide (ys.getD (l - 1) 0 ≤ (n : Int))) = V) := by
    have := HV.out
    unfold edgesB at this
    rw [hs, HL.out, decide_eq_true (by omega), decide_eq_true (by omega)] at this
    exact hid (by simpa using this)
  rcases H.out.2 with h0 | ⟨b, off, rfl, hb, hc⟩
  · omega
  obtain ⟨l1, hl1⟩ : ∃ l1, l - 1 = l1 := ⟨_, rfl⟩
  have hl1i : (l : Int) - 1 = (l1 : Int) := by omega
  have W1 : IntKind.i64.wrap (l1 : Int) = (l1 : Int) := wrap_si (by omega) (by omega)
  have e1 : w.cell? ⟨b, off + 0, none⟩ = some (.int .i64 (ys.getD 0 0)) := hc 0 (by omega)
  have e2 : w.cell? ⟨b, off + l1, none⟩ = some (.int .i64 (ys.getD l1 0)) := hc l1 (by omega)
  rw [hl1] at HVV
  generalize ys.getD 0 0 = x at e1 HVV
  generalize ys.getD l1 0 = y at e2 HVV
  have e1' : w.cell? ⟨b, off, none⟩ = some (.int .i64 x) := e1
  have hj0 : (0 : Int) < (l : Int) := by omega
  have hj1 : 0 < l := by omega
  have hj2 : (0 : Int) ≤ (l1 : Int) := by omega
  have hj3 : (l1 : Int) < (l : Int) := by omega
  have hj4 : l1 < l := by omega
  by_cases hx : 0 ≤ x
  · by_cases hy : y ≤ (n : Int)
    · obtain rfl : V = true := by rw [← HVV.out, decide_eq_true hx, decide_eq_true hy]; rfl
      clear hl1 hc hb HVV
      go_enter Try.func69, Try.ntmps69
      go_wp2_with (first | (go_at_call 85; with_reducible refine (sorted_yes _ l c ys _ (HoldsI.ext H.out (by (repeat with_reducible (first | exact Ext.refl _ | exact ext_alloc _ _ | refine Ext.drewN ?_ _ | refine Ext.drew1 ?_ | refine Ext.set ?_ (by dsimp only; omega) _ | refine Ext.alloc ?_ _)))) (by omega) (by omega) hs).mono ?_; rintro e w' ⟨rfl, m1, rfl⟩))
      go_ret
      exact ⟨by first | rfl | (simp; done) | (simp; omega), _, rfl⟩
    · obtain rfl : V = false := by rw [← HVV.out, decide_eq_false hy]; simp
      clear hl1 hc hb HVV
      go_enter Try.func69, Try.ntmps69
      go_wp2_with (first | (go_at_call 85; with_reducible refine (sorted_yes _ l c ys _ (HoldsI.ext H.out (by (repeat with_reducible (first | exact Ext.refl _ | exact ext_alloc _ _ | refine Ext.drewN ?_ _ | refine Ext.drew1 ?_ | refine Ext.set ?_ (by dsimp only; omega) _ | refine Ext.alloc ?_ _)))) (by omega) (by omega) hs).mono ?_; rintro e w' ⟨rfl, m1, rfl⟩))
      go_ret
      exact ⟨by first | rfl | (simp; done) | (simp; omega), _, rfl⟩
  · obtain rfl : V = false := by rw [← HVV.out, decide_eq_false hx]; simp
    clear hl1 hc hb HVV
    go_enter Try.func69, Try.ntmps69
    go_wp2_with (first | (go_at_call 85; with_reducible refine (sorted_yes _ l c ys _ (HoldsI.ext H.out (by (repeat with_reducible (first | exact Ext.refl _ | exact ext_alloc _ _ | refine Ext.drewN ?_ _ | refine Ext.drew1 ?_ | refine Ext.set ?_ (by dsimp only; omega) _ | refine Ext.alloc ?_ _)))) (by omega) (by omega) hs).mono ?_; rintro e w' ⟨rfl, m1, rfl⟩))
    go_ret
    exact ⟨by first | rfl | (simp; done) | (simp; omega), _, rfl⟩



def edge (ys : List Int) (k : Nat) : Nat := (ys.getD k 0).toNat
def bandC (zs : List Nat) (ys : List Int) (k : Nat) : Option Nat := sumAt zs (edge ys k) (edge ys (k + 1) - edge ys k)
def bandsR (zs : List Nat) (ys : List Int) : List (Option Nat) × Bool := if powB (zs.map (cls .f32)) && edgesB ys zs.length then soundR (bandC zs ys) (ys.length - 1) else ([], false)
theorem bands_len (zs : List Nat) (ys : List Int) : (bandsR zs ys).1.length ≤ 256 := by
  unfold bandsR
  split
  · rename_i h
    simp only [Bool.and_eq_true] at h
    have h1 := edges_at h.2
    have h2 := soundR_len (bandC zs ys) (ys.length - 1)
    omega
  · exact Nat.zero_le _
theorem edge_at {ys : List Int} {n : Nat} (h : edgesB ys n = true) {k : Nat} (hk : k + 1 < ys.length) : ys.getD k 0 = (edge ys k : Int) ∧ ys.getD (k + 1) 0 = (edge ys (k + 1) : Int) ∧ edge ys k ≤ edge ys (k + 1) ∧ edge ys (k + 1) ≤ n := by
  obtain ⟨_, _, h3⟩ := edges_at h
  obtain ⟨p, hp, hp2, hp3⟩ := h3 k (by omega)
  obtain ⟨q, hq, hq2, _⟩ := h3 (k + 1) hk
  have := hp3 hk
  unfold edge
  omega

set_option maxHeartbeats 4000000 in
set_option maxRecDepth 100000 in
theorem band_clo (k b1 b2 n c l d b off : Nat) (a2 : Option Addr) (zs : List Nat) (ys : List Int) (w : World) (hk : k + 1 < l) (hl : l ≤ 64) (hn : n ≤ 1048576) (hcap : n ≤ c) (h1 : Box w b1 #[.slice (some ⟨b, off, none⟩) n c]) (h2 : Box w b2 #[.slice a2 l d]) (g1 : Holds .f32 w (some ⟨b, off, none⟩) n zs) (g2 : HoldsI w a2 l ys) (hE : edgesB ys n = true) (hF : ∀ k, k < n → fin32 (cls .f32 (zs.getD k 0)) = true) (hfull : edge ys k < c) :
    Calls Try.prog 70 #[.int .i64 (k : Int), .pointer (some ⟨b1, 0, none⟩), .pointer (some ⟨b2, 0, none⟩)] w fun e w' => ∃ r, e = .returned (.float .f32 r) ∧ cls .f32 r = bandC zs ys k ∧ Ext w w' := by
  obtain ⟨d1, l1⟩ := Box.cells1 h1
  obtain ⟨d2, l2⟩ := Box.cells1 h2
  rcases g2.2 with h0 | ⟨eb, eo, rfl, heb, hec⟩
  · omega
  have hyl : ys.length = l := g2.1
  obtain ⟨x1, x2, x3, x4⟩ := edge_at hE (k := k) (by omega)
  have e1 := hec k (by omega)
  have e2 := hec (k + 1) hk
  rw [x1] at e1
  rw [x2] at e2
  have HB := hid (show bandC zs ys k = sumAt zs (edge ys k) (edge ys (k + 1) - edge ys k) from rfl)
  generalize edge ys (k + 1) = q at *
  generalize edge ys k = p at *
  obtain ⟨k1, hk1⟩ : ∃ k1, k + 1 = k1 := ⟨_, rfl⟩
  have hK1 : (k : Int) + 1 = (k1 : Int) := by omega
  rw [hk1] at e2 hk
  have W1 : IntKind.i64.wrap (k1 : Int) = (k1 : Int) := wrap_si (by omega) (by omega)
  have hi0 : (0 : Int) ≤ (k : Int) := by omega
  have hi1 : (k : Int) < (l : Int) := by omega
  have hi2 : (0 : Int) ≤ (k1 : Int) := by omega
  have hi3 : (k1 : Int) < (l : Int) := by omega
  have hj0 : (0 : Int) ≤ (p : Int) := by omega
  have hj1 : (p : Int) ≤ (q : Int) := by omega
  have hj2 : (q : Int) ≤ (c : Int) := by omega
  obtain ⟨s, hs, hsn⟩ := sumAt_some hF (show p + (q - p) ≤ n by omega)
  have hj3 : ¬ c = p := by omega
  have SN : ∀ u, Ext w u → Calls Try.prog 62 #[.slice (some ⟨b, off + p, none⟩) (q - p) (c - p), .func (.func 63) #[] #[]] u fun e w' => e = .returned (.float .f32 s) ∧ ∃ q, w' = u.drewN q := fun u hu => by
    refine (sumAll_any _ (q - p) (c - p) ((zs.drop p).take (q - p)) u (hold_part (Holds.ext g1 hu) (by omega)) (by omega)).mono ?_
    rintro e w' ⟨r, rfl, hr, t, rfl⟩
    rw [sumAt_part, hs] at hr
    exact ⟨by rw [cls_word (Is.out hr)], t, rfl⟩
  have HSN := hid SN
  have HRES := hid (show cls .f32 s = bandC zs ys k from by rw [HB.out, hs, cls_num hsn])
  clear SN h1 h2 g1 g2 hE heb hec hk1 x1 x2 x3 x4 hyl hF hs
  go_enter Try.func70, Try.ntmps70
  go_wp2_with fail
  go_quiet (first | (go_at_call 62; refine Calls.quiet_of (v := .float .f32 s) ?_; with_reducible exact HSN.out _ (by (repeat with_reducible (first | exact Ext.refl _ | exact ext_alloc _ _ | refine Ext.drewN ?_ _ | refine Ext.drew1 ?_ | refine Ext.set ?_ (by dsimp only; omega) _ | refine Ext.alloc ?_ _)))))
  go_wp2
  go_ret
  exact ⟨_, rfl, HRES.out, by (repeat with_reducible (first | exact Ext.refl _ | exact ext_alloc _ _ | refine Ext.drewN ?_ _ | refine Ext.drew1 ?_ | refine Ext.set ?_ (by dsimp only; omega) _ | refine Ext.alloc ?_ _))⟩

set_option maxHeartbeats 4000000 in
set_option maxRecDepth 100000 in
theorem band_end (k b1 b2 n c l d b off : Nat) (a2 : Option Addr) (zs : List Nat) (ys : List Int) (w : World) (hk : k + 1 < l) (hl : l ≤ 64) (hn : n ≤ 1048576) (hcap : n ≤ c) (h1 : Box w b1 #[.slice (some ⟨b, off, none⟩) n c]) (h2 : Box w b2 #[.slice a2 l d]) (g1 : Holds .f32 w (some ⟨b, off, none⟩) n zs) (g2 : HoldsI w a2 l ys) (hE : edgesB ys n = true) (hF : ∀ k, k < n → fin32 (cls .f32 (zs.getD k 0)) = true) (hfull : edge ys k = c) :
    Calls Try.prog 70 #[.int .i64 (k : Int), .pointer (some ⟨b1, 0, none⟩), .pointer (some ⟨b2, 0, none⟩)] w fun e w' => ∃ r, e = .returned (.float .f32 r) ∧ cls .f32 r = bandC zs ys k ∧ Ext w w' := by
  obtain ⟨d1, l1⟩ := Box.cells1 h1
  obtain ⟨d2, l2⟩ := Box.cells1 h2
  rcases g2.2 with h0 | ⟨eb, eo, rfl, heb, hec⟩
  · omega
  have hyl : ys.length = l := g2.1
  obtain ⟨x1, x2, x3, x4⟩ := edge_at hE (k := k) (by omega)
  have e1 := hec k (by omega)
  have e2 := hec (k + 1) hk
  rw [x1] at e1
  rw [x2] at e2
  have HB := hid (show bandC zs ys k = sumAt zs (edge ys k) (edge ys (k + 1) - edge ys k) from rfl)
  generalize edge ys (k + 1) = q at *
  generalize edge ys k = p at *
  obtain ⟨k1, hk1⟩ : ∃ k1, k + 1 = k1 := ⟨_, rfl⟩
  have hK1 : (k : Int) + 1 = (k1 : Int) := by omega
  rw [hk1] at e2 hk
  have W1 : IntKind.i64.wrap (k1 : Int) = (k1 : Int) := wrap_si (by omega) (by omega)
  have hi0 : (0 : Int) ≤ (k : Int) := by omega
  have hi1 : (k : Int) < (l : Int) := by omega
  have hi2 : (0 : Int) ≤ (k1 : Int) := by omega
  have hi3 : (k1 : Int) < (l : Int) := by omega
  have hj0 : (0 : Int) ≤ (p : Int) := by omega
  have hj1 : (p : Int) ≤ (q : Int) := by omega
  have hj2 : (q : Int) ≤ (c : Int) := by omega
  obtain ⟨s, hs, hsn⟩ := sumAt_some hF (show p + (q - p) ≤ n by omega)
  obtain rfl : p = c := hfull
  obtain rfl : q = p := by omega
  have SN : ∀ u, Ext w u → Calls Try.prog 62 #[.slice (some ⟨b, off, none⟩) 0 0, .func (.func 63) #[] #[]] u fun e w' => e = .returned (.float .f32 s) ∧ ∃ q, w' = u.drewN q := fun u hu => by
    refine (sumAll_any _ 0 0 [] u ⟨rfl, .inl rfl⟩ (by omega)).mono ?_
    rintro e w' ⟨r, rfl, hr, t, rfl⟩
    rw [Nat.sub_self] at hs
    have hr2 : cls .f32 r = some s := (Is.out hr).trans hs
    exact ⟨by rw [cls_word hr2], t, rfl⟩
  have HSN := hid SN
  have HRES := hid (show cls .f32 s = bandC zs ys k from by rw [HB.out, hs, cls_num hsn])
  clear SN h1 h2 g1 g2 hE heb hec hk1 x1 x2 x3 x4 hyl hF hs
  go_enter Try.func70, Try.ntmps70
  go_wp2_with fail
  go_quiet (first | (go_at_call 62; refine Calls.quiet_of (v := .float .f32 s) ?_; with_reducible exact HSN.out _ (by (repeat with_reducible (first | exact Ext.refl _ | exact ext_alloc _ _ | refine Ext.drewN ?_ _ | refine Ext.drew1 ?_ | refine Ext.set ?_ (by dsimp only; omega) _ | refine Ext.alloc ?_ _)))))
  go_wp2
  go_ret
  exact ⟨_, rfl, HRES.out, by (repeat with_reducible (first | exact Ext.refl _ | exact ext_alloc _ _ | refine Ext.drewN ?_ _ | refine Ext.drew1 ?_ | refine Ext.set ?_ (by dsimp only; omega) _ | refine Ext.alloc ?_ _))⟩



set_option maxHeartbeats 4000000 in
set_option maxRecDepth 100000 in
theorem bands_any (b off n c l d : Nat) (a2 : Option Addr) (zs : List Nat) (ys : List Int) (R : List (Option Nat)) (O : Bool) (w : World) (h1 : Holds .f32 w (some ⟨b, off, none⟩) n zs) (h2 : HoldsI w a2 l ys) (hn : n ≤ 1048576) (hl : l ≤ 1048576) (hcap : n ≤ c) (hR : bandsR zs ys = (R, O)) :
    Calls Try.prog 36 #[.slice (some ⟨b, off, none⟩) n c, .slice a2 l d] w fun e w' => ∃ v, e = .returned (.tuple #[v, .bool O]) ∧ ListIs w' w.heap.size R v ∧ Ext w w' := by
  have H1 := hid h1
  have H2 := hid h2
  have HN := hid hn
  have HLL := hid hl
  have HCAP := hid hcap
  have HL := hid h1.1
  have HYL := hid h2.1
  have HR := hid hR
  clear h1 h2 hn hl hcap hR
  cases hP : powB (zs.map (cls .f32))
  · have e : O = false ∧ R = [] := by have := HR.out; unfold bandsR at this; rw [hP] at this; simpa [eq_comm, and_comm] using this
    obtain ⟨rfl, rfl⟩ := e
    go_enter Try.func36, Try.ntmps36
    go_wp2_with (first | (go_at_call 66; with_reducible refine (arePow_drew _ n c zs _ _ (Holds.ext H1.out (by (repeat with_reducible (first | exact Ext.refl _ | exact ext_alloc _ _ | refine Ext.drewN ?_ _ | refine Ext.drew1 ?_ | refine Ext.set ?_ (by dsimp only; omega) _ | refine Ext.alloc ?_ _)))) HN.out hP).mono ?_; rintro e w' ⟨rfl, m1, rfl⟩))
    go_returns
    refine ⟨_, rfl, nil_is _ _, ?_⟩
    (repeat with_reducible (first | exact Ext.refl _ | exact ext_alloc _ _ | refine Ext.drewN ?_ _ | refine Ext.drew1 ?_ | refine Ext.set ?_ (by dsimp only; omega) _ | refine Ext.alloc ?_ _))
  cases hE : edgesB ys n
  · have e : O = false ∧ R = [] := by have := HR.out; unfold bandsR at this; rw [hP, HL.out, hE] at this; simpa [eq_comm, and_comm] using this
    obtain ⟨rfl, rfl⟩ := e
    go_enter Try.func36, Try.ntmps36
    go_wp2_with (first | (go_at_call 66; with_reducible refine (arePow_drew _ n c zs _ _ (Holds.ext H1.out (by (repeat with_reducible (first | exact Ext.refl _ | exact ext_alloc _ _ | refine Ext.drewN ?_ _ | refine Ext.drew1 ?_ | refine Ext.set ?_ (by dsimp only; omega) _ | refine Ext.alloc ?_ _)))) HN.out hP).mono ?_; rintro e w' ⟨rfl, m1, rfl⟩) | (go_at_call 69; with_reducible refine (areEdges_drew _ l d n ys _ _ (HoldsI.ext H2.out (by (repeat with_reducible (first | exact Ext.refl _ | exact ext_alloc _ _ | refine Ext.drewN ?_ _ | refine Ext.drew1 ?_ | refine Ext.set ?_ (by dsimp only; omega) _ | refine Ext.alloc ?_ _)))) HLL.out HN.out hE).mono ?_; rintro e w' ⟨rfl, m2, rfl⟩))
    go_returns
    refine ⟨_, rfl, nil_is _ _, ?_⟩
    (repeat with_reducible (first | exact Ext.refl _ | exact ext_alloc _ _ | refine Ext.drewN ?_ _ | refine Ext.drew1 ?_ | refine Ext.set ?_ (by dsimp only; omega) _ | refine Ext.alloc ?_ _))
  have HS := hid (show soundR (bandC zs ys) (l - 1) = (R, O) from by have := HR.out; unfold bandsR at this; rw [hP, HL.out, hE, HYL.out] at this; exact this)
  have HE := hid hE
  have HF := hid (fun k (hk : k < n) => pow_fin hP k (by rw [HL.out]; exact hk))
  have HB := hid (show 2 ≤ l ∧ l ≤ 64 from by have := edges_at hE; rw [HYL.out] at this; exact ⟨this.1, this.2.1⟩)
  clear HR
  obtain ⟨m, hm⟩ : ∃ m, l - 1 = m := ⟨_, rfl⟩
  have HM := hid hm
  have hmi : (l : Int) - 1 = (m : Int) := by have := HB.out; omega
  have W1 : IntKind.i64.wrap (m : Int) = (m : Int) := wrap_si (by omega) (by have := HB.out; omega)
  rw [hm] at HS
  clear hm
  go_enter Try.func36, Try.ntmps36
  go_wp2_with (first | (go_at_call 66; with_reducible refine (arePow_drew _ n c zs _ _ (Holds.ext H1.out (by (repeat with_reducible (first | exact Ext.refl _ | exact ext_alloc _ _ | refine Ext.drewN ?_ _ | refine Ext.drew1 ?_ | refine Ext.set ?_ (by dsimp only; omega) _ | refine Ext.alloc ?_ _)))) HN.out hP).mono ?_; rintro e w' ⟨rfl, m1, rfl⟩) | (go_at_call 69; with_reducible refine (areEdges_drew _ l d n ys _ _ (HoldsI.ext H2.out (by (repeat with_reducible (first | exact Ext.refl _ | exact ext_alloc _ _ | refine Ext.drewN ?_ _ | refine Ext.drew1 ?_ | refine Ext.set ?_ (by dsimp only; omega) _ | refine Ext.alloc ?_ _)))) HLL.out HN.out hE).mono ?_; rintro e w' ⟨rfl, m2, rfl⟩))
  obtain ⟨w0, hw0⟩ : ∃ u, u = ((w.alloc (.cells #[.slice (some ⟨b, off, none⟩) n c] 22)).alloc (.cells #[.slice a2 l d] 42)).drewN (m1 + m2) := ⟨_, rfl⟩
  rw [← hw0]
  have EX := hid (show Ext w w0 from by rw [hw0]; (repeat with_reducible (first | exact Ext.refl _ | exact ext_alloc _ _ | refine Ext.drewN ?_ _ | refine Ext.drew1 ?_ | refine Ext.set ?_ (by dsimp only; omega) _ | refine Ext.alloc ?_ _)))
  have B0 : Hid (Box w0 w.heap.size #[.slice (some ⟨b, off, none⟩) n c]) := by rw [hw0]; exact hid (Box.drewN (Box.alloc (box_new (w := w) #[.slice (some ⟨b, off, none⟩) n c] 22) _) _)
  have B1 : Hid (Box w0 (w.heap.size + 1) #[.slice a2 l d]) := by rw [hw0]; exact hid (Box.drewN (Box.cast' (box_new (w := w.alloc (.cells #[.slice (some ⟨b, off, none⟩) n c] 22)) #[.slice a2 l d] 42) (by simp)) _)
  clear hw0
  refine (soundOf_any m 70 #[.pointer (some ⟨w.heap.size, 0, none⟩), .pointer (some ⟨w.heap.size + 1, 0, none⟩)] (bandC zs ys) R O w0 (by have := HB.out; have := HM.out; omega) (fun _ _ => by simp [go_sem]) (fun k hk wr e => by
    have hkl : k + 1 < l := by have := HM.out; omega
    have hx := edge_at HE.out (k := k) (by rw [HYL.out]; exact hkl)
    have hc9 := HCAP.out
    by_cases hf : edge ys k = c
    · exact band_end k _ _ n c l d b off a2 zs ys wr hkl HB.out.2 HN.out HCAP.out (Box.ext B0.out e) (Box.ext B1.out e) (Holds.ext H1.out (Ext.trans EX.out e)) (HoldsI.ext H2.out (Ext.trans EX.out e)) HE.out HF.out hf
    · exact band_clo k _ _ n c l d b off a2 zs ys wr hkl HB.out.2 HN.out HCAP.out (Box.ext B0.out e) (Box.ext B1.out e) (Holds.ext H1.out (Ext.trans EX.out e)) (HoldsI.ext H2.out (Ext.trans EX.out e)) HE.out HF.out (by omega)) HS.out).mono ?_
  rintro e w1 ⟨v, rfl, hv, E1⟩
  have HL2 := hid hv
  have EY := hid (Ext.trans EX.out E1)
  have HZ := hid (show w.heap.size ≤ w0.heap.size from Ext.size EX.out)
  clear hv E1
  go_wp2_with fail
  go_returns
  exact ⟨_, rfl, ListIs.base HL2.out HZ.out, EY.out⟩



def okAt (ys : List Int) (n i : Nat) : Bool := (decide (0 ≤ ys.getD i 0) && decide (ys.getD i 0 ≤ (n : Int))) && (decide (i = 0) || decide (ys.getD (i - 1) 0 ≤ ys.getD i 0))
theorem edges_ok {ys : List Int} {n : Nat} (h : edgesB ys n = true) (i : Nat) (hi : i < ys.length) : okAt ys n i = true := by
  obtain ⟨_, _, h3⟩ := edges_at h
  obtain ⟨p, hp, hp2, _⟩ := h3 i hi
  unfold okAt
  by_cases h0 : i = 0
  · simp [h0] at hp ⊢; omega
  · obtain ⟨q, hq, _, hq3⟩ := h3 (i - 1) (by omega)
    have := hq3 (by omega)
    rw [show i - 1 + 1 = i by omega] at this
    rw [decide_eq_true (show 0 ≤ ys.getD i 0 by omega), decide_eq_true (show ys.getD i 0 ≤ (n : Int) by omega), decide_eq_true (show ys.getD (i - 1) 0 ≤ ys.getD i 0 by omega)]
    simp
theorem ok_edges {ys : List Int} {n : Nat} (h2 : 2 ≤ ys.length) (h64 : ys.length ≤ 64) (h : ∀ i, i < ys.length → okAt ys n i = true) : edgesB ys n = true := by
  have hs : sortedB ys = true := by
    unfold sortedB
    rw [List.all_eq_true]
    intro j hj
    have hj2 := List.mem_range.1 hj
    have h1 := h (j + 1) (by omega)
    unfold okAt at h1
    simp only [Bool.and_eq_true, Bool.or_eq_true, decide_eq_true_eq] at h1
    unfold leAt
    apply decide_eq_true
    rcases h1.2 with h9 | h9
    · omega
    · exact h9
  have a0 := h 0 (by omega)
  have a1 := h (ys.length - 1) (by omega)
  unfold okAt at a0 a1
  simp only [Bool.and_eq_true, decide_eq_true_eq] at a0 a1
  unfold edgesB
  rw [hs]
  simp only [Bool.and_eq_true, decide_eq_true_eq]
  exact ⟨h2, h64, trivial, a0.1.1, a1.1.2⟩

set_option maxHeartbeats 4000000 in
set_option maxRecDepth 100000 in
theorem sBands_no (b off n c l d : Nat) (a2 : Option Addr) (zs : List Nat) (ys : List Int) (w : World) (h1 : Holds .f32 w (some ⟨b, off, none⟩) n zs) (h2 : HoldsI w a2 l ys) (hn : n ≤ 1048576) (hl : l ≤ 1048576) (hcap : n ≤ c) (hP : powB (zs.map (cls .f32)) = true) (hB : 2 ≤ l ∧ l ≤ 64) (hE : edgesB ys n = false) :
    Calls Try.prog 34 #[.slice (some ⟨b, off, none⟩) n c, .slice a2 l d] w fun e w' => ∃ v, e = .returned (.tuple #[v, .bool false]) ∧ ListIs w' w.heap.size [] v ∧ Ext w w' := by
  have H1 := hid h1
  have H2 := hid h2
  have HN := hid hn
  have HLL := hid hl
  have HCAP := hid hcap
  have HL := hid h1.1
  have HYL := hid h2.1
  have HB := hid hB
  clear h1 h2 hn hl hcap hB
  have HE := hid hE
  have hi2 : ¬ (l : Int) < 2 := by have := HB.out; omega
  have hi64 : ¬ (64 : Int) < (l : Int) := by have := HB.out; omega
  clear hE
  go_enter Try.func34, Try.ntmps34
  go_wp2_with (first | (go_at_call 64; with_reducible refine (l05Pow_drew _ n c zs _ _ (Holds.ext H1.out (by (repeat with_reducible (first | exact Ext.refl _ | exact ext_alloc _ _ | refine Ext.drewN ?_ _ | refine Ext.drew1 ?_ | refine Ext.set ?_ (by dsimp only; omega) _ | refine Ext.alloc ?_ _)))) HN.out hP).mono ?_; rintro e w' ⟨rfl, m1, rfl⟩))
  go_loopw [26] (fun i wr => ∃ t : Nat, t ≤ l ∧ i = .int .i64 t ∧ Hid (∀ j, j < t → okAt ys n j = true) ∧ Hid (∃ q, wr = w.drewN q)) (fun i _ => l - (intOf i).toNat)
  case atStart => exact ⟨0, Nat.zero_le _, rfl, hid (fun j hj => by omega), hid ⟨_, rfl⟩⟩
  case round =>
    obtain ⟨t, ht, rfl, hall, he⟩ := hrel
    have hl64 := HB.out
    by_cases hlt : t < l
    · have hti : (t : Int) < (l : Int) := by omega
      have hti0 : (0 : Int) ≤ (t : Int) := by omega
      have E0 : Ext w wr := by obtain ⟨q, rfl⟩ := he.out; (repeat with_reducible (first | exact Ext.refl _ | exact ext_alloc _ _ | refine Ext.drewN ?_ _ | refine Ext.drew1 ?_ | refine Ext.set ?_ (by dsimp only; omega) _ | refine Ext.alloc ?_ _))
      obtain ⟨eb, eo, rfl, e1⟩ := cellI_at H2.out E0 t hlt
      have hok9 : Hid (okAt ys n t = ((decide (0 ≤ ys.getD t 0) && decide (ys.getD t 0 ≤ (n : Int))) && (decide (t = 0) || decide (ys.getD (t - 1) 0 ≤ ys.getD t 0)))) := rfl
      by_cases ht0 : t = 0
      · subst ht0
        generalize ys.getD 0 0 = x at e1 hok9
        have e1' : wr.cell? ⟨eb, eo, none⟩ = some (.int .i64 x) := e1
        by_cases hx : 0 ≤ x ∧ x ≤ (n : Int)
        · have hok : okAt ys n 0 = true := by rw [hok9.out]; simp [hx]
          have HIN := hid (fun u : World => (l00In_yes x 0 (n : Int) hx.1 hx.2 u).mono (fun e w' h => (⟨h.1, 0, h.2.symm⟩ : e = .returned (.bool true) ∧ ∃ q, w' = u.drewN q)))
          clear E0
          go_wp2_with fail
          go_quiet (first | (go_at_call 47; refine Calls.quiet_of (v := .bool true) ?_; with_reducible exact HIN.out _))
          go_wp2_with fail
          go_roundw
          case rel => exact ⟨0 + 1, by omega, by go_num, hid (fun j hj => by
            by_cases hjt : j = 0
            · subst hjt; exact hok
            · exact hall.out j (by omega)), by obtain ⟨q, hq⟩ := he.out; exact hid ⟨_, by rw [hq, World.drewN_drewN]⟩⟩
          case measure => simp [intOf]; omega
        · have hok : okAt ys n 0 = false := by rw [hok9.out]; simp; omega
          have HIN := hid (fun u : World => (l00In_no x 0 (n : Int) hx u).mono (fun e w' h => (⟨h.1, 0, h.2.symm⟩ : e = .returned (.bool false) ∧ ∃ q, w' = u.drewN q)))
          clear E0
          go_wp2_with fail
          go_quiet (first | (go_at_call 47; refine Calls.quiet_of (v := .bool false) ?_; with_reducible exact HIN.out _))
          go_wp2_with fail
          go_returns
          refine ⟨_, rfl, nil_is _ _, ?_⟩
          obtain ⟨q, rfl⟩ := he.out
          (repeat with_reducible (first | exact Ext.refl _ | exact ext_alloc _ _ | refine Ext.drewN ?_ _ | refine Ext.drew1 ?_ | refine Ext.set ?_ (by dsimp only; omega) _ | refine Ext.alloc ?_ _))
      · obtain ⟨t1, ht1⟩ : ∃ t1, t1 + 1 = t := ⟨t - 1, by omega⟩
        have ht1i : (t : Int) - 1 = (t1 : Int) := by omega
        have htp : (0 : Int) < (t : Int) := by omega
        have htn : 0 < t := by omega
        have W1 : IntKind.i64.wrap (t1 : Int) = (t1 : Int) := wrap_si (by omega) (by omega)
        obtain ⟨eb', eo', hbb, e2⟩ := cellI_at H2.out E0 t1 (by omega)
        simp only [Option.some.injEq, Addr.mk.injEq] at hbb
        obtain ⟨rfl, rfl, _⟩ := hbb
        rw [show t - 1 = t1 by omega] at hok9
        generalize ys.getD t 0 = x at e1 hok9
        generalize ys.getD t1 0 = y at e2 hok9
        have hi2 : (0 : Int) ≤ (t1 : Int) := by omega
        have hi3 : (t1 : Int) < (l : Int) := by omega
        clear ht1
        by_cases hx : 0 ≤ x ∧ x ≤ (n : Int)
        · have HIN := hid (fun u : World => (l00In_yes x 0 (n : Int) hx.1 hx.2 u).mono (fun e w' h => (⟨h.1, 0, h.2.symm⟩ : e = .returned (.bool true) ∧ ∃ q, w' = u.drewN q)))
          clear E0
          by_cases hxy : x < y
          · have hok : okAt ys n t = false := by rw [hok9.out]; simp [ht0]; omega
            go_wp2_with fail
            go_quiet (first | (go_at_call 47; refine Calls.quiet_of (v := .bool true) ?_; with_reducible exact HIN.out _))
            go_wp2_with fail
            go_returns
            refine ⟨_, rfl, nil_is _ _, ?_⟩
            obtain ⟨q, rfl⟩ := he.out
            (repeat with_reducible (first | exact Ext.refl _ | exact ext_alloc _ _ | refine Ext.drewN ?_ _ | refine Ext.drew1 ?_ | refine Ext.set ?_ (by dsimp only; omega) _ | refine Ext.alloc ?_ _))
          · have hok : okAt ys n t = true := by rw [hok9.out]; simp [hx, ht0]; omega
            go_wp2_with fail
            go_quiet (first | (go_at_call 47; refine Calls.quiet_of (v := .bool true) ?_; with_reducible exact HIN.out _))
            go_wp2_with fail
            go_roundw
            case rel => exact ⟨t + 1, by omega, by go_num, hid (fun j hj => by
              by_cases hjt : j = t
              · subst hjt; exact hok
              · exact hall.out j (by omega)), by obtain ⟨q, hq⟩ := he.out; exact hid ⟨_, by rw [hq, World.drewN_drewN]⟩⟩
            case measure => simp [intOf]; omega
        · have hok : okAt ys n t = false := by rw [hok9.out]; simp; omega
          have HIN := hid (fun u : World => (l00In_no x 0 (n : Int) hx u).mono (fun e w' h => (⟨h.1, 0, h.2.symm⟩ : e = .returned (.bool false) ∧ ∃ q, w' = u.drewN q)))
          clear E0
          go_wp2_with fail
          go_quiet (first | (go_at_call 47; refine Calls.quiet_of (v := .bool false) ?_; with_reducible exact HIN.out _))
          go_wp2_with fail
          go_returns
          refine ⟨_, rfl, nil_is _ _, ?_⟩
          obtain ⟨q, rfl⟩ := he.out
          (repeat with_reducible (first | exact Ext.refl _ | exact ext_alloc _ _ | refine Ext.drewN ?_ _ | refine Ext.drew1 ?_ | refine Ext.set ?_ (by dsimp only; omega) _ | refine Ext.alloc ?_ _))
    · have htl : t = l := by omega
      subst htl
      have hti : ¬ ((t : Int) < (t : Int)) := by omega
      exfalso
      have := ok_edges (n := n) (by rw [HYL.out]; exact HB.out.1) (by rw [HYL.out]; exact HB.out.2) (fun j hj => hall.out j (by rw [HYL.out] at hj; exact hj))
      rw [HE.out] at this
      cases this



set_option maxHeartbeats 8000000 in
set_option maxRecDepth 100000 in
theorem sBands_yes (b off n c l d : Nat) (a2 : Option Addr) (zs : List Nat) (ys : List Int) (R : List (Option Nat)) (O : Bool) (w : World) (h1 : Holds .f32 w (some ⟨b, off, none⟩) n zs) (h2 : HoldsI w a2 l ys) (hn : n ≤ 1048576) (hl : l ≤ 1048576) (hcap : n ≤ c) (hP : powB (zs.map (cls .f32)) = true) (hE : edgesB ys n = true) (hS : soundR (bandC zs ys) (l - 1) = (R, O)) :
    Calls Try.prog 34 #[.slice (some ⟨b, off, none⟩) n c, .slice a2 l d] w fun e w' => ∃ v, e = .returned (.tuple #[v, .bool O]) ∧ ListIs w' w.heap.size R v ∧ Ext w w' := by
  have H1 := hid h1
  have H2 := hid h2
  have HN := hid hn
  have HLL := hid hl
  have HCAP := hid hcap
  have HL := hid h1.1
  have HYL := hid h2.1
  have HS := hid hS
  clear h1 h2 hn hl hcap hS
  have HE := hid hE
  have HB := hid (show 2 ≤ l ∧ l ≤ 64 from by have := edges_at hE; rw [HYL.out] at this; exact ⟨this.1, this.2.1⟩)
  have hi2 : ¬ (l : Int) < 2 := by have := HB.out; omega
  have hi64 : ¬ (64 : Int) < (l : Int) := by have := HB.out; omega
  obtain ⟨m, hm⟩ : ∃ m, l - 1 = m := ⟨_, rfl⟩
  have HM := hid (show m + 1 = l from by have := HB.out; omega)
  rw [hm] at HS
  clear hE hm
  obtain ⟨i0, hif, hz0, hz1, hz2⟩ := info_parts infoF
  have HI := hid (And.intro hif (And.intro hz0 (And.intro hz1 hz2)))
  clear hif hz0 hz1 hz2
  go_enter Try.func34, Try.ntmps34
  go_wp2_with (first | (go_at_call 64; with_reducible refine (l05Pow_drew _ n c zs _ _ (Holds.ext H1.out (by (repeat with_reducible (first | exact Ext.refl _ | exact ext_alloc _ _ | refine Ext.drewN ?_ _ | refine Ext.drew1 ?_ | refine Ext.set ?_ (by dsimp only; omega) _ | refine Ext.alloc ?_ _)))) HN.out hP).mono ?_; rintro e w' ⟨rfl, m1, rfl⟩))
  go_loopw [26] (fun i wr => ∃ t : Nat, t ≤ l ∧ i = .int .i64 t ∧ Hid (∀ j, j < t → okAt ys n j = true) ∧ Hid (∃ q, wr = w.drewN q)) (fun i _ => l - (intOf i).toNat)
  case atStart => exact ⟨0, Nat.zero_le _, rfl, hid (fun j hj => by omega), hid ⟨_, rfl⟩⟩
  case round =>
    obtain ⟨t, ht, rfl, hall, he⟩ := hrel
    have hl64 := HB.out
    by_cases hlt : t < l
    · have hti : (t : Int) < (l : Int) := by omega
      have hti0 : (0 : Int) ≤ (t : Int) := by omega
      have E0 : Ext w wr := by obtain ⟨q, rfl⟩ := he.out; (repeat with_reducible (first | exact Ext.refl _ | exact ext_alloc _ _ | refine Ext.drewN ?_ _ | refine Ext.drew1 ?_ | refine Ext.set ?_ (by dsimp only; omega) _ | refine Ext.alloc ?_ _))
      obtain ⟨eb, eo, rfl, e1⟩ := cellI_at H2.out E0 t hlt
      have hok9 : Hid (okAt ys n t = ((decide (0 ≤ ys.getD t 0) && decide (ys.getD t 0 ≤ (n : Int))) && (decide (t = 0) || decide (ys.getD (t - 1) 0 ≤ ys.getD t 0)))) := rfl
      by_cases ht0 : t = 0
      · subst ht0
        generalize ys.getD 0 0 = x at e1 hok9
        have e1' : wr.cell? ⟨eb, eo, none⟩ = some (.int .i64 x) := e1
        by_cases hx : 0 ≤ x ∧ x ≤ (n : Int)
        · have hok : okAt ys n 0 = true := by rw [hok9.out]; simp [hx]
          have HIN := hid (fun u : World => (l00In_yes x 0 (n : Int) hx.1 hx.2 u).mono (fun e w' h => (⟨h.1, 0, h.2.symm⟩ : e = .returned (.bool true) ∧ ∃ q, w' = u.drewN q)))
          clear E0
          go_wp2_with fail
          go_quiet (first | (go_at_call 47; refine Calls.quiet_of (v := .bool true) ?_; with_reducible exact HIN.out _))
          go_wp2_with fail
          go_roundw
          case rel => exact ⟨0 + 1, by omega, by go_num, hid (fun j hj => by
            by_cases hjt : j = 0
            · subst hjt; exact hok
            · exact hall.out j (by omega)), by obtain ⟨q, hq⟩ := he.out; exact hid ⟨_, by rw [hq, World.drewN_drewN]⟩⟩
          case measure => simp [intOf]; omega
        · have hok : okAt ys n 0 = false := by rw [hok9.out]; simp; omega
          have HIN := hid (fun u : World => (l00In_no x 0 (n : Int) hx u).mono (fun e w' h => (⟨h.1, 0, h.2.symm⟩ : e = .returned (.bool false) ∧ ∃ q, w' = u.drewN q)))
          clear E0
          exfalso
          have := edges_ok HE.out 0 (by rw [HYL.out]; exact hlt)
          rw [hok] at this
          cases this
      · obtain ⟨t1, ht1⟩ : ∃ t1, t1 + 1 = t := ⟨t - 1, by omega⟩
        have ht1i : (t : Int) - 1 = (t1 : Int) := by omega
        have htp : (0 : Int) < (t : Int) := by omega
        have htn : 0 < t := by omega
        have W1 : IntKind.i64.wrap (t1 : Int) = (t1 : Int) := wrap_si (by omega) (by omega)
        obtain ⟨eb', eo', hbb, e2⟩ := cellI_at H2.out E0 t1 (by omega)
        simp only [Option.some.injEq, Addr.mk.injEq] at hbb
        obtain ⟨rfl, rfl, _⟩ := hbb
        rw [show t - 1 = t1 by omega] at hok9
        generalize ys.getD t 0 = x at e1 hok9
        generalize ys.getD t1 0 = y at e2 hok9
        have hi2 : (0 : Int) ≤ (t1 : Int) := by omega
        have hi3 : (t1 : Int) < (l : Int) := by omega
        clear ht1
        by_cases hx : 0 ≤ x ∧ x ≤ (n : Int)
        · have HIN := hid (fun u : World => (l00In_yes x 0 (n : Int) hx.1 hx.2 u).mono (fun e w' h => (⟨h.1, 0, h.2.symm⟩ : e = .returned (.bool true) ∧ ∃ q, w' = u.drewN q)))
          clear E0
          by_cases hxy : x < y
          · have hok : okAt ys n t = false := by rw [hok9.out]; simp [ht0]; omega
            exfalso
            have := edges_ok HE.out t (by rw [HYL.out]; exact hlt)
            rw [hok] at this
            cases this
          · have hok : okAt ys n t = true := by rw [hok9.out]; simp [hx, ht0]; omega
            go_wp2_with fail
            go_quiet (first | (go_at_call 47; refine Calls.quiet_of (v := .bool true) ?_; with_reducible exact HIN.out _))
            go_wp2_with fail
            go_roundw
            case rel => exact ⟨t + 1, by omega, by go_num, hid (fun j hj => by
              by_cases hjt : j = t
              · subst hjt; exact hok
              · exact hall.out j (by omega)), by obtain ⟨q, hq⟩ := he.out; exact hid ⟨_, by rw [hq, World.drewN_drewN]⟩⟩
            case measure => simp [intOf]; omega
        · have hok : okAt ys n t = false := by rw [hok9.out]; simp; omega
          have HIN := hid (fun u : World => (l00In_no x 0 (n : Int) hx u).mono (fun e w' h => (⟨h.1, 0, h.2.symm⟩ : e = .returned (.bool false) ∧ ∃ q, w' = u.drewN q)))
          clear E0
          exfalso
          have := edges_ok HE.out t (by rw [HYL.out]; exact hlt)
          rw [hok] at this
          cases this
    · have htl : t = l := by omega
      subst htl
      have hti : ¬ ((t : Int) < (t : Int)) := by omega
      obtain ⟨q0, hq0⟩ := he.out
      have E0 := hid (show Ext w wr from by rw [hq0]; (repeat with_reducible (first | exact Ext.refl _ | exact ext_alloc _ _ | refine Ext.drewN ?_ _ | refine Ext.drew1 ?_ | refine Ext.set ?_ (by dsimp only; omega) _ | refine Ext.alloc ?_ _)))
      have hall2 := HE.out
      clear hall he hq0
      rename World => wz
      go_wp2_with fail
      go_loopw [7, 8] (fun v i wr => ∃ (k : Nat) (xs : List Nat), k ≤ m ∧ i = .int .i64 ((k + 1 : Nat) : Int) ∧ Hid (Own wr w.heap.size k v xs) ∧ Hid (xs.map (cls .f32) = listK (bandC zs ys) k) ∧ Hid (Ext w wr)) (fun _ i _ => t + 1 - (intOf i).toNat)
      case atStart => exact ⟨0, [], Nat.zero_le _, by simp, hid (own_fresh (cs := #[]) (zs := []) (hid rfl) (by simp) (by simp) (by have h9 := Ext.size E0.out; simp; omega) (Nat.zero_le _)), rfl, hid (by have h9 := E0.out; exact Ext.trans h9 (by (repeat with_reducible (first | exact Ext.refl _ | exact ext_alloc _ _ | refine Ext.drewN ?_ _ | refine Ext.drew1 ?_ | refine Ext.set ?_ (by dsimp only; omega) _ | refine Ext.alloc ?_ _))))⟩
      case round =>
        obtain ⟨k, xs, hk, rfl, ho, hyy, he⟩ := hrel
        have hb9 := HB.out
        have hm9 := HM.out
        have hn9 := HN.out
        have hcp9 := HCAP.out
        by_cases hlt : k < m
        · obtain ⟨x1, x2, x3, x4⟩ := edge_at hall2 (k := k) (by rw [HYL.out]; omega)
          have hs := hid (listK_succ (bandC zs ys) k)
          have HBC := hid (show bandC zs ys k = sumAt zs (edge ys k) (edge ys (k + 1) - edge ys k) from rfl)
          obtain ⟨eb, eo, rfl, e1⟩ := cellI_at H2.out he.out k (by omega)
          obtain ⟨eb', eo', hbb, e2⟩ := cellI_at H2.out he.out (k + 1) (by omega)
          simp only [Option.some.injEq, Addr.mk.injEq] at hbb
          obtain ⟨rfl, rfl, _⟩ := hbb
          rw [x1] at e1
          rw [x2] at e2
          generalize edge ys (k + 1) = q at *
          generalize edge ys k = p at *
          obtain ⟨k1, hk1⟩ : ∃ k1, k + 1 = k1 := ⟨_, rfl⟩
          have hk1i : (k1 : Int) - 1 = (k : Int) := by omega
          have W1 : IntKind.i64.wrap (k : Int) = (k : Int) := wrap_si (by omega) (by omega)
          have HK1 := hid hk1
          rw [hk1] at e2
          rw [hk1]
          have hi0 : (k1 : Int) < (t : Int) := by omega
          have hi1 : (0 : Int) ≤ (k : Int) := by omega
          have hi3 : (k : Int) < (t : Int) := by omega
          have hi4 : (0 : Int) ≤ (k1 : Int) := by omega
          have hk1t : k1 < t := by omega
          have hkt : k < t := by omega
          have HSZ := hid (Ext.size he.out)
          have HPQ := hid (show p ≤ q ∧ q ≤ n from ⟨x3, x4⟩)
          clear x1 x2 x3 x4 hk1
          rename World => wo
          go_wp2_with fail
          go_loopw [9, 10] (fun s i wi => ∃ (u r : Nat), u ≤ q - p ∧ i = .int .i64 ((p + u : Nat) : Int) ∧ s = .float .f32 r ∧ Is .f32 r (sumAt zs p u) ∧ Hid (∃ g, wi = wo.drewN g)) (fun _ i _ => q - (intOf i).toNat)
          case atStart => exact ⟨0, 0, Nat.zero_le _, rfl, rfl, cls0, hid ⟨0, rfl⟩⟩
          case round =>
            obtain ⟨u, r0, hu, rfl, rfl, hr0, hw⟩ := hrel
            have hpq := HPQ.out
            have e2' : wr.cell? ⟨eb, eo + k1, none⟩ = some (.int .i64 (q : Int)) := by obtain ⟨g, rfl⟩ := hw.out; exact e2
            by_cases hlt2 : u < q - p
            · have E1 : Ext w wr := by obtain ⟨g, hg⟩ := hw.out; rw [hg]; exact Ext.drewN he.out _
              obtain ⟨pb, po, hpp, e3⟩ := cell_at H1.out E1 (p + u) (by omega)
              simp only [Option.some.injEq, Addr.mk.injEq] at hpp
              obtain ⟨rfl, rfl, _⟩ := hpp
              have hd : Hid (sumAt zs p (u + 1) = fop .add .f32 (sumAt zs p u) (cls .f32 (zs.getD (p + u) 0))) := rfl
              generalize sumAt zs p u = D at hr0 hd
              generalize zs.getD (p + u) 0 = x at e3 hd
              obtain ⟨P, hP⟩ : ∃ P, p + u = P := ⟨_, rfl⟩
              rw [hP] at e3
              rw [hP]
              have hj1 : (P : Int) < (q : Int) := by omega
              have hj3 : (0 : Int) ≤ (P : Int) := by omega
              have hj4 : (P : Int) < (n : Int) := by omega
              have hPq : P < q := by omega
              have HPP := hid hP
              clear E1 hP
              go_wp2_with (first | (refine wpList_fa rfl rfl rfl rfl rfl (by first | assumption | exact is_const (by decide) | exact is_int _ | exact is_self _ _) (by first | assumption | exact is_const (by decide) | exact is_int _ | exact is_self _ _) ?_; intro r m9 hr hrw))
              go_roundw
              case rel => exact ⟨u + 1, _, by omega, by have := HPP.out; go_num, rfl, by rw [hd.out]; assumption, by obtain ⟨g, hg⟩ := hw.out; exact hid ⟨g + m9, by rw [hg, World.drewN_drewN]⟩⟩
              case measure => simp [intOf]; have := HPP.out; omega
            · have hjd : p + u = q := by omega
              have hud : u = q - p := by omega
              have hj1 : ¬ ((q : Int) < (q : Int)) := by omega
              have HR0 := hid (show cls .f32 r0 = bandC zs ys k from by rw [HBC.out, ← hud]; exact Is.out hr0)
              rw [hjd]
              obtain ⟨g, hg⟩ := hw.out
              subst hg
              clear hud
              go_wp2_with (first | (at_builtin; refine wpList_append_lies _ rfl _ _ 22 rfl w.heap.size 33 i0 (.float .f32 0) 1 4 Try.underlying22 HI.out.1 HI.out.2.1 HI.out.2.2.1 HI.out.2.2.2 rfl (by decide) _ _ _ rfl (Own.ext ho.out (by (repeat with_reducible (first | exact Ext.refl _ | exact ext_alloc _ _ | refine Ext.drewN ?_ _ | refine Ext.drew1 ?_ | refine Ext.set ?_ (by dsimp only; omega) _ | refine Ext.alloc ?_ _)))) ⟨wo.heap.size, 0, none⟩ 1 1 [.float .f32 r0] rfl rfl (World.news_of_block (heap_alloc_new _ _)) (by intro u hu; simp at hu; subst hu; rfl) (by omega) (by have h9 := HN.out; unfold maxLen; omega) (by have h9 := HN.out; omega) (by have h8 := HSZ.out; simp; omega) _ rfl ?_; intro g cap w1 hown hgrow hat hlt2))
              have h1 := hid (own_snoc hown)
              have h2 := hid (show Ext w w1 from But.below hgrow (Ext.trans he.out (by (repeat with_reducible (first | exact Ext.refl _ | exact ext_alloc _ _ | refine Ext.drewN ?_ _ | refine Ext.drew1 ?_ | refine Ext.set ?_ (by dsimp only; omega) _ | refine Ext.alloc ?_ _)))) (fun k2 hk2 => (Own.block ho.out k2 hk2).1))
              have h3 := hid (show (xs ++ [r0]).map (cls .f32) = listK (bandC zs ys) (k + 1) from by rw [List.map_append, hyy.out, hs.out]; exact congrArg (fun z => _ ++ [z]) HR0.out)
              clear hown hgrow hat hlt2
              go_wp2
              go_roundw
              case rel => exact ⟨k + 1, xs ++ [r0], by omega, by have := HK1.out; go_num, h1, h3, h2⟩
              case measure => simp [intOf]; have := HK1.out; omega
        · have hkm : k = m := by omega
          subst hkm
          have hkt : k + 1 = t := hm9
          rw [hkt]
          have hti2 : ¬ ((t : Int) < (t : Int)) := by omega
          go_wp2_with fail
          refine (l03List_is _ _ w.heap.size xs R O _ ho.out (by omega) (by rw [hyy.out]; exact HS.out)).mono ?_
          rintro e w1 ⟨u, rfl, hu, E1⟩
          have hu1 := hid hu
          have hx1 := hid (Ext.trans he.out E1)
          clear hu E1
          go_wp2
          go_ret2
          exact ⟨_, rfl, hu1.out, hx1.out⟩



set_option maxHeartbeats 4000000 in
set_option maxRecDepth 100000 in
theorem sBands_any (b off n c l d : Nat) (a2 : Option Addr) (zs : List Nat) (ys : List Int) (R : List (Option Nat)) (O : Bool) (w : World) (h1 : Holds .f32 w (some ⟨b, off, none⟩) n zs) (h2 : HoldsI w a2 l ys) (hn : n ≤ 1048576) (hl : l ≤ 1048576) (hcap : n ≤ c) (hR : bandsR zs ys = (R, O)) :
    Calls Try.prog 34 #[.slice (some ⟨b, off, none⟩) n c, .slice a2 l d] w fun e w' => ∃ v, e = .returned (.tuple #[v, .bool O]) ∧ ListIs w' w.heap.size R v ∧ Ext w w' := by
  have H1 := hid h1
  have H2 := hid h2
  have HN := hid hn
  have HLL := hid hl
  have HCAP := hid hcap
  have HL := hid h1.1
  have HYL := hid h2.1
  have HR := hid hR
  clear h1 h2 hn hl hcap hR
  cases hP : powB (zs.map (cls .f32))
  · have e : O = false ∧ R = [] := by have := HR.out; unfold bandsR at this; rw [hP] at this; simpa [eq_comm, and_comm] using this
    obtain ⟨rfl, rfl⟩ := e
    go_enter Try.func34, Try.ntmps34
    go_wp2_with (first | (go_at_call 64; with_reducible refine (l05Pow_drew _ n c zs _ _ (Holds.ext H1.out (by (repeat with_reducible (first | exact Ext.refl _ | exact ext_alloc _ _ | refine Ext.drewN ?_ _ | refine Ext.drew1 ?_ | refine Ext.set ?_ (by dsimp only; omega) _ | refine Ext.alloc ?_ _)))) HN.out hP).mono ?_; rintro e w' ⟨rfl, m1, rfl⟩))
    go_returns
    refine ⟨_, rfl, nil_is _ _, ?_⟩
    (repeat with_reducible (first | exact Ext.refl _ | exact ext_alloc _ _ | refine Ext.drewN ?_ _ | refine Ext.drew1 ?_ | refine Ext.set ?_ (by dsimp only; omega) _ | refine Ext.alloc ?_ _))
  by_cases h2 : l < 2
  · have hE : edgesB ys zs.length = false := by unfold edgesB; rw [HYL.out, decide_eq_false (by omega)]; rfl
    have e : O = false ∧ R = [] := by have := HR.out; unfold bandsR at this; rw [hP, hE] at this; simpa [eq_comm, and_comm] using this
    obtain ⟨rfl, rfl⟩ := e
    have hi : (l : Int) < 2 := by omega
    go_enter Try.func34, Try.ntmps34
    go_wp2_with (first | (go_at_call 64; with_reducible refine (l05Pow_drew _ n c zs _ _ (Holds.ext H1.out (by (repeat with_reducible (first | exact Ext.refl _ | exact ext_alloc _ _ | refine Ext.drewN ?_ _ | refine Ext.drew1 ?_ | refine Ext.set ?_ (by dsimp only; omega) _ | refine Ext.alloc ?_ _)))) HN.out hP).mono ?_; rintro e w' ⟨rfl, m1, rfl⟩))
    go_returns
    refine ⟨_, rfl, nil_is _ _, ?_⟩
    (repeat with_reducible (first | exact Ext.refl _ | exact ext_alloc _ _ | refine Ext.drewN ?_ _ | refine Ext.drew1 ?_ | refine Ext.set ?_ (by dsimp only; omega) _ | refine Ext.alloc ?_ _))
  by_cases h64 : 64 < l
  · have hE : edgesB ys zs.length = false := by unfold edgesB; rw [HYL.out, decide_eq_true (by omega), decide_eq_false (show ¬ l ≤ 64 by omega)]; rfl
    have e : O = false ∧ R = [] := by have := HR.out; unfold bandsR at this; rw [hP, hE] at this; simpa [eq_comm, and_comm] using this
    obtain ⟨rfl, rfl⟩ := e
    have hi : ¬ (l : Int) < 2 := by omega
    have hi2 : (64 : Int) < (l : Int) := by omega
    go_enter Try.func34, Try.ntmps34
    go_wp2_with (first | (go_at_call 64; with_reducible refine (l05Pow_drew _ n c zs _ _ (Holds.ext H1.out (by (repeat with_reducible (first | exact Ext.refl _ | exact ext_alloc _ _ | refine Ext.drewN ?_ _ | refine Ext.drew1 ?_ | refine Ext.set ?_ (by dsimp only; omega) _ | refine Ext.alloc ?_ _)))) HN.out hP).mono ?_; rintro e w' ⟨rfl, m1, rfl⟩))
    go_returns
    refine ⟨_, rfl, nil_is _ _, ?_⟩
    (repeat with_reducible (first | exact Ext.refl _ | exact ext_alloc _ _ | refine Ext.drewN ?_ _ | refine Ext.drew1 ?_ | refine Ext.set ?_ (by dsimp only; omega) _ | refine Ext.alloc ?_ _))
  cases hE : edgesB ys n
  · have e : O = false ∧ R = [] := by have := HR.out; unfold bandsR at this; rw [hP, HL.out, hE] at this; simpa [eq_comm, and_comm] using this
    obtain ⟨rfl, rfl⟩ := e
    exact sBands_no b off n c l d a2 zs ys w H1.out H2.out HN.out HLL.out HCAP.out hP (by omega) hE
  · have hS : soundR (bandC zs ys) (l - 1) = (R, O) := by have := HR.out; unfold bandsR at this; rw [hP, HL.out, hE, HYL.out] at this; exact this
    exact sBands_yes b off n c l d a2 zs ys R O w H1.out H2.out HN.out HLL.out HCAP.out hP hE hS

end Go.Proofs.Ytpmjiabllmomjaa
