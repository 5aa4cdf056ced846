/- The greatest absolute value of a sound. -/
import Derived.Test.YtofhemganefhcaaW1
import Derived.Test.YtofhemganefhcaaV12
namespace Go.Proofs.Ytofhemganefhcaa
open Go.RowKit Flt
set_option linter.unusedVariables false

/-- the greatest size among the first k; +0 for none -/
def topW (zs : List Nat) : Nat → Nat
  | 0 => 0
  | k + 1 => if (FloatKind.f32.format.order (sizeW zs k) (topW zs k) == some .gt) = true then sizeW zs k else topW zs k
def reachR (zs : List Nat) : Option Nat × Bool := if soundB (zs.map (cls .f32)) then (some (topW zs zs.length), true) else (some 0, false)
theorem zero_word5 {q : Nat} {e : Int} (h : FloatKind.f32.format.read q = .number false 0 e) (hq : q < 2147483648) : q = 0 := by
  have hS : FloatKind.f32.format.signWeight = 2147483648 := by decide
  have hB : FloatKind.f32.format.binade = 8388608 := by decide
  unfold Ieee.Format.read at h
  rw [hS, hB] at h
  simp only at h
  split at h
  · simp only [Ieee.Datum.number.injEq] at h
    omega
  · split at h
    · simp only [Ieee.Datum.number.injEq] at h
      omega
    · split at h <;> cases h
theorem zero_top {x : Nat} (hf : fin32 (cls .f32 x) = true) (hg : (FloatKind.f32.format.order (x % 2147483648) 0 == some .gt) = false) : x % 2147483648 = 0 := by
  obtain ⟨_, s, m, e, hr, h1, h2, h3⟩ := fin_read hf
  have e2 : FloatKind.f32.format.read (x % 2147483648) = .number false m e := by rw [read_abs32, hr]; rfl
  have e1 : FloatKind.f32.format.read 0 = .number false 0 (-149) := by decide
  have ho : FloatKind.f32.format.order (x % 2147483648) 0 = some (compare (Ieee.signed false m (e - -149).toNat) (Ieee.signed false 0 (-149 - -149 : Int).toNat)) := by
    unfold Ieee.Format.order; rw [e2, e1]; exact order_num false false m 0 e (-149) (-149) h2 (by omega)
  have hm0 : m = 0 := by
    rcases Nat.eq_zero_or_pos m with h | h
    · exact h
    · exfalso
      have hp : Ieee.signed false 0 (-149 - -149 : Int).toNat < Ieee.signed false m (e - -149).toNat := by
        rw [signed_val false 0, signed_val false m]
        simp only [Bool.false_eq_true, if_false, Nat.zero_mul]
        exact Int.ofNat_lt.2 (Nat.mul_pos h (Nat.two_pow_pos _))
      rw [ho, compare_gt hp] at hg
      cases hg
  subst hm0
  have hz : FloatKind.f32.format.read (x % 2147483648) = .number false 0 e := e2
  exact zero_word5 hz (by omega)
theorem topW_fin {zs : List Nat} (h : soundB (zs.map (cls .f32)) = true) : ∀ k, k ≤ zs.length → cls .f32 (topW zs k) = some (topW zs k)
  | 0, _ => by show cls .f32 0 = some 0; decide
  | k + 1, hk => by
    unfold topW
    split
    · exact abs_num _ (fins_at h k (by omega))
    · exact topW_fin h k (by omega)
/-- it is the size at the first place where it is greatest -/
theorem topW_best {zs : List Nat} (h : soundB (zs.map (cls .f32)) = true) : ∀ k, k + 1 ≤ zs.length → topW zs (k + 1) = sizeW zs (bestP zs (k + 1))
  | 0, hk => by
    have hf := fins_at h 0 (by omega)
    have e : bestP zs 1 = 0 := by show (if _ then 0 else 0) = 0; split <;> rfl
    rw [e]
    show (if (FloatKind.f32.format.order (sizeW zs 0) 0 == some .gt) = true then sizeW zs 0 else 0) = sizeW zs 0
    cases hc : (FloatKind.f32.format.order (sizeW zs 0) 0 == some .gt)
    · have := zero_top hf hc
      show 0 = _
      exact this.symm
    · rfl
  | k + 1, hk => by
    have ih := topW_best h k (by omega)
    show (if (FloatKind.f32.format.order (sizeW zs (k + 1)) (topW zs (k + 1)) == some .gt) = true then sizeW zs (k + 1) else topW zs (k + 1)) = sizeW zs (if (FloatKind.f32.format.order (sizeW zs (k + 1)) (sizeW zs (bestP zs (k + 1))) == some .gt) = true then k + 1 else bestP zs (k + 1))
    rw [ih]
    split
    · rfl
    · rfl

set_option maxHeartbeats 4000000 in
set_option maxRecDepth 100000 in
theorem reach_any (a : Option Addr) (n c : Nat) (zs : List Nat) (R : Option Nat) (O : Bool) (w : World) (h : Holds .f32 w a n zs) (hn : n ≤ 1048576) (hw0 : Words n zs) (hR : reachR zs = (R, O)) :
    Calls Try.prog 28 #[.slice a n c] w fun e w' => ∃ r, e = .returned (.tuple #[.float .f32 r, .bool O]) ∧ Is .f32 r R ∧ Ext w w' := by
  have H1 := hid h
  have HL := hid h.1
  have HN := hid hn
  have HW := hid hw0
  have HR := hid hR
  clear h hn hw0 hR
  by_cases h0 : n = 0
  · subst h0
    have hzs : zs = [] := List.eq_nil_of_length_eq_zero HL.out
    subst hzs
    have e : R = some 0 ∧ O = true := by have := HR.out; unfold reachR at this; rw [if_pos (by decide)] at this; simpa [eq_comm, topW] using this
    obtain ⟨rfl, rfl⟩ := e
    go_enter Try.func28, Try.ntmps28
    go_wp2
    go_ret2
    exact ⟨_, rfl, cls0, Ext.refl _⟩
  have hne : ((n : Int) == 0) = false := by simp; omega
  go_enter Try.func28, Try.ntmps28
  go_wp2_with fail
  refine (peak_any a n c zs _ _ H1.out HN.out HW.out rfl).mono ?_
  rintro e w1 ⟨pk, rfl, hp, E1⟩
  have HP := hid hp
  have E1h := hid E1
  clear hp E1
  go_wp2_with fail
  go_ret2
  have e : R = (peakR zs).x ∧ O = (peakR zs).ok := by
    have h1 := HR.out
    unfold reachR at h1
    unfold peakR
    cases hA : soundB (zs.map (cls .f32))
    · rw [hA] at h1; simpa [eq_comm] using h1
    · rw [hA] at h1
      obtain ⟨q, hq⟩ : ∃ q, zs.length = q + 1 := ⟨zs.length - 1, by have := HL.out; omega⟩
      have := topW_best hA q (by omega)
      rw [← hq] at this
      rw [this] at h1
      have hz : decide (zs.length ≠ 0) = true := decide_eq_true (by omega)
      rw [hz]
      simpa [eq_comm] using h1
  obtain ⟨rfl, rfl⟩ := e
  exact ⟨_, rfl, HP.out, E1h.out⟩

set_option maxHeartbeats 4000000 in
set_option maxRecDepth 100000 in
theorem sReach_any (a : Option Addr) (n c : Nat) (zs : List Nat) (R : Option Nat) (O : Bool) (w : World) (h : Holds .f32 w a n zs) (hn : n ≤ 1048576) (hw0 : Words n zs) (hR : reachR zs = (R, O)) :
    Calls Try.prog 27 #[.slice a n c] w fun e w' => ∃ r, e = .returned (.tuple #[.float .f32 r, .bool O]) ∧ Is .f32 r R ∧ Ext w w' := by
  have H1 := hid h
  have HL := hid h.1
  have HN := hid hn
  have HW := hid hw0
  have HR := hid hR
  clear h hn hw0 hR
  cases hA : soundB (zs.map (cls .f32))
  · have e : R = some 0 ∧ O = false := by have := HR.out; unfold reachR at this; rw [hA] at this; simpa [eq_comm] using this
    obtain ⟨rfl, rfl⟩ := e
    go_enter Try.func27, Try.ntmps27
    go_wp2_with (first | (go_at_call 57; with_reducible refine (l04Sound_drew a n c zs _ _ (Holds.ext H1.out (by (repeat with_reducible (first | exact Ext.refl _ | exact ext_alloc _ _ | refine Ext.drewN ?_ _ | refine Ext.drew1 ?_ | refine Ext.set ?_ (by dsimp only; omega) _ | refine Ext.alloc ?_ _)))) HN.out hA).mono ?_; rintro e w' ⟨rfl, m1, rfl⟩))
    go_returns
    refine ⟨_, rfl, cls0, ?_⟩
    (repeat with_reducible (first | exact Ext.refl _ | exact ext_alloc _ _ | refine Ext.drewN ?_ _ | refine Ext.drew1 ?_ | refine Ext.set ?_ (by dsimp only; omega) _ | refine Ext.alloc ?_ _))
  have e : R = some (topW zs n) ∧ O = true := by have := HR.out; unfold reachR at this; rw [hA, HL.out] at this; simpa [eq_comm] using this
  obtain ⟨rfl, rfl⟩ := e
  have HT := hid (topW_fin hA n (by rw [HL.out]; exact Nat.le_refl _))
  have HF := hid (fun k (hk : k < n) => fins_at hA k (by rw [HL.out]; exact hk))
  clear HR
  go_enter Try.func27, Try.ntmps27
  go_wp2_with (first | (go_at_call 57; with_reducible refine (l04Sound_drew a n c zs _ _ (Holds.ext H1.out (by (repeat with_reducible (first | exact Ext.refl _ | exact ext_alloc _ _ | refine Ext.drewN ?_ _ | refine Ext.drew1 ?_ | refine Ext.set ?_ (by dsimp only; omega) _ | refine Ext.alloc ?_ _)))) HN.out hA).mono ?_; rintro e w' ⟨rfl, m1, rfl⟩))
  go_loopw [4, 5] (fun p i wr => ∃ k : Nat, k ≤ n ∧ i = .int .i64 k ∧ p = .float .f32 (topW zs k) ∧ Hid (∃ m, wr = w.drewN m)) (fun _ i _ => n - (intOf i).toNat)
  case atStart => exact ⟨0, Nat.zero_le _, rfl, rfl, m1, rfl⟩
  case round =>
    obtain ⟨k, hk, rfl, rfl, hw⟩ := hrel
    have hn2 : n ≤ 1048576 := HN.out
    by_cases hlt : k < n
    · have E0 : Ext w wr := by obtain ⟨q, hq⟩ := hw.out; rw [hq]; exact Ext.drewN (Ext.refl _) _
      obtain ⟨b, off, rfl, e1⟩ := cell_at H1.out E0 k hlt
      have hs : Hid (topW zs (k + 1) = if (FloatKind.f32.format.order (sizeW zs k) (topW zs k) == some .gt) = true then sizeW zs k else topW zs k) := rfl
      have HF1 := hid (HF.out k hlt)
      have HW1 := hid (HW.out k hlt)
      have HS1 : Hid (zs.getD k 0 % 2147483648 = sizeW zs k) := rfl
      have hi0 : (0 : Int) ≤ (k : Int) := by omega
      have hi1 : (k : Int) < (n : Int) := by omega
      clear E0
      generalize zs.getD k 0 = x at e1 HF1 HW1 HS1
      generalize hAA : sizeW zs k = A at *
      generalize hPP : topW zs k = P at *
      have HX := is_self .f32 x
      cases hle : fcmp .leq (ford .f32 (cls .f32 x) (some 0))
      · have e9 : A = x := HS1.out.symm.trans (pos_abs x HW1.out HF1.out hle)
        subst e9
        cases hcm : (FloatKind.f32.format.order A P == some .gt)
        all_goals
          have hs2 := hs.out
          rw [hcm] at hs2
          go_wp2_with (first | (refine wpList_fcmp rfl rfl rfl rfl rfl (is_self _ _) (is_const (by decide)) ?_; rw [hle]))
          go_roundw
          case rel => exact ⟨k + 1, by omega, by go_num, by rw [hs2]; rfl, by obtain ⟨m2, hm2⟩ := hw.out; exact ⟨m2, by rw [hm2]⟩⟩
          case measure => simp [intOf]; omega
      · have HE := hid (neg_abs x HF1.out hle)
        cases hcm : (FloatKind.f32.format.order A P == some .gt)
        all_goals
          have hs2 := hs.out
          rw [hcm] at hs2
          go_wp2_with (first | (refine wpList_fcmp rfl rfl rfl rfl rfl (is_self _ _) (is_const (by decide)) ?_; rw [hle]) | (refine wpList_fa rfl rfl rfl rfl rfl (is_const (by decide)) (is_self _ _) ?_; intro r m9 hr hrw; have e9 := HS1.out.symm.trans (cls_word (hr.out.trans HE.out)); subst e9))
          go_roundw
          case rel => exact ⟨k + 1, by omega, by go_num, by rw [hs2]; rfl, by obtain ⟨m2, hm2⟩ := hw.out; exact ⟨m2 + m9, by rw [hm2, World.drewN_drewN]⟩⟩
          case measure => simp [intOf]; omega
    · have hkn : k = n := by omega
      subst hkn
      go_wp2
      go_ret2
      obtain ⟨m2, hm2⟩ := hw.out
      exact ⟨_, rfl, HT.out, by rw [hm2]; exact Ext.drewN (Ext.refl _) _⟩

end Go.Proofs.Ytofhemganefhcaa
