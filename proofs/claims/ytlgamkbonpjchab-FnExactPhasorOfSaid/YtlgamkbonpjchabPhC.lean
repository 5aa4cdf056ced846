/- The quarters of a turn, on classes. -/
import Derived.Test.YtlgamkbonpjchabLogC
import Derived.Test.YtlgamkbonpjchabSineD
namespace Go.Proofs.Ytlgamkbonpjchab.Flt
open Ieee Go.RowKit

def qrtC (f : Option Nat) : Option Nat := fop .sub .f64 f (some 4598175219545276416)
theorem read_qrt : FloatKind.f64.format.read 4598175219545276416 = .number false (2 ^ 52) (-54) := by decide

theorem cut_exact (s : Bool) (n drop : Nat) : Toward.even.cut s (n * 2 ^ drop) drop = n :=
  Nat.le_antisymm (cut_le s _ drop n (Nat.le_refl _)) (le_cut s _ drop n (Nat.le_refl _))

theorem log2_mul_pow (k t : Nat) (hk : k ≠ 0) : (k * 2 ^ t).log2 = k.log2 + t := by
  have hp := Nat.two_pow_pos t
  have h1 : 2 ^ k.log2 ≤ k := Nat.log2_self_le hk
  have h2 : k < 2 ^ (k.log2 + 1) := Nat.lt_log2_self
  have h3 : 2 ^ (k.log2 + t) ≤ k * 2 ^ t := by rw [Nat.pow_add]; exact Nat.mul_le_mul_right _ h1
  have h4 : k * 2 ^ t < 2 ^ (k.log2 + t + 1) := by
    have e : k.log2 + t + 1 = (k.log2 + 1) + t := by omega
    rw [e, Nat.pow_add]; exact Nat.mul_lt_mul_of_pos_right h2 hp
  have h5 : k * 2 ^ t ≠ 0 := Nat.mul_ne_zero hk (by omega)
  have h6 : 2 ^ (k * 2 ^ t).log2 ≤ k * 2 ^ t := Nat.log2_self_le h5
  have h7 : k * 2 ^ t < 2 ^ ((k * 2 ^ t).log2 + 1) := Nat.lt_log2_self
  have h8 : (k * 2 ^ t).log2 < k.log2 + t + 1 := (Nat.pow_lt_pow_iff_right (by omega : 1 < 2)).1 (Nat.lt_of_le_of_lt h6 h4)
  have h9 : k.log2 + t < (k * 2 ^ t).log2 + 1 := (Nat.pow_lt_pow_iff_right (by omega : 1 < 2)).1 (Nat.lt_of_le_of_lt h3 h7)
  omega

theorem near_shift (s : Bool) (k t : Nat) (P : Int) (hk : k ≠ 0) (hl : k.log2 ≤ 52) (hP : -1074 ≤ P) :
    FloatKind.f64.format.nearest s (k * 2 ^ t) P = FloatKind.f64.format.nearest s k (P + t) := by
  have hne : k * 2 ^ t ≠ 0 := Nat.mul_ne_zero hk (by have := Nat.two_pow_pos t; omega)
  have e1 : (FloatKind.f64.format.fractionBits : Int) = 52 := by decide
  unfold Format.nearest
  rw [if_neg hk, if_neg hne]
  dsimp only
  rw [log2_mul_pow k t hk, f64_lp, e1]
  have hlast : max (P + ((k.log2 + t : Nat) : Int) - 52) (-1074) = max (P + t + k.log2 - 52) (-1074) := by omega
  rw [hlast]
  generalize hL : max (P + t + (k.log2 : Int) - 52) (-1074) = last
  have hle : last ≤ P + t := by omega
  have c1 : Toward.even.cut s ((k * 2 ^ t) <<< (P - last).toNat) (last - P).toNat = k * 2 ^ (P + t - last).toNat := by
    have e2 : (k * 2 ^ t) <<< (P - last).toNat = k * 2 ^ (P + t - last).toNat * 2 ^ (last - P).toNat := by
      rw [Nat.shiftLeft_eq, Nat.mul_assoc, Nat.mul_assoc, ← Nat.pow_add, ← Nat.pow_add]
      congr 2; omega
    rw [e2, cut_exact]
  have c2 : Toward.even.cut s (k <<< (P + t - last).toNat) (last - (P + t)).toNat = k * 2 ^ (P + t - last).toNat := by
    have e2 : (last - (P + t)).toNat = 0 := by omega
    rw [e2, Nat.shiftLeft_eq]
    have := cut_exact s (k * 2 ^ (P + t - last).toNat) 0
    rw [Nat.pow_zero, Nat.mul_one] at this
    exact this
  rw [c1, c2]

/-- a number that has room is its own nearest -/
theorem near_exact (k t : Nat) (P B : Int) (hk : k < 2 ^ 53) (hP : -1000 ≤ P) (ht : P + t ≤ 900) (hB : B = -1074) :
    ∃ m i, FloatKind.f64.format.read (FloatKind.f64.format.nearest false (k * 2 ^ t) P) = .number false m i ∧ -1074 ≤ i ∧ m * 2 ^ (i - B).toNat = k * 2 ^ t * 2 ^ (P - B).toNat := by
  by_cases h0 : k = 0
  · subst h0
    refine ⟨0, -1074, ?_, by omega, by simp⟩
    rw [Nat.zero_mul]
    exact wide_zero false P
  · have hl := log2_lt hk h0
    rw [near_shift false k t P h0 (by omega) (by omega), wide_word false k _ h0 (by omega) (by omega) (by omega)]
    refine ⟨_, _, rfl, by omega, ?_⟩
    rw [Nat.shiftLeft_eq, Nat.mul_assoc, Nat.mul_assoc, ← Nat.pow_add, ← Nat.pow_add]
    congr 2; omega

theorem q_step (B : Int) (hB : B = -1074) (b m : Nat) (i : Int) (h2 : FloatKind.f64.format.read b = .number false m i) (h3 : -1074 ≤ i) (hle : leP m i 1) (hq : fcmp .geq (ford .f64 (some b) (some 4598175219545276416)) = true) :
    ∃ b' m' i', qrtC (some b) = some b' ∧ FloatKind.f64.format.read b' = .number false m' i' ∧ -1074 ≤ i' ∧ leP m' i' 1 ∧ m' * 2 ^ (i' - B).toNat + 2 ^ (-2 - B).toNat = m * 2 ^ (i - B).toNat := by
  rw [geq_val b _ m _ i _ B hB h2 (by omega) read_qrt (by omega)] at hq
  have hq := of_decide_eq_true hq
  have e0 : 2 ^ 52 * 2 ^ (-54 - B).toNat = 2 ^ (-2 - B).toNat := by rw [← Nat.pow_add]; congr 1; omega
  rw [e0] at hq
  have hge := ge_iff (show B ≤ i by omega) (show B ≤ -2 by omega) hq
  have hm := read_small b false m i h2
  have hi : -54 ≤ i := by
    obtain ⟨g1, g2⟩ := hge
    have h4 : 2 ^ (-2 - i).toNat < 2 ^ 53 := Nat.lt_of_le_of_lt g2 hm
    have h5 := (Nat.pow_lt_pow_iff_right (by omega : 1 < 2)).1 h4
    omega
  obtain ⟨t, ht⟩ : ∃ t : Nat, (t : Int) = i + 54 := ⟨(i + 54).toNat, by omega⟩
  have hbig : 2 ^ 52 ≤ m * 2 ^ t := by
    have e1 : (-2 - B).toNat = 52 + (-54 - B).toNat := by omega
    have e2 : (i - B).toNat = t + (-54 - B).toNat := by omega
    rw [e1, e2, Nat.pow_add, Nat.pow_add, ← Nat.mul_assoc] at hq
    exact Nat.le_of_mul_le_mul_right hq (Nat.two_pow_pos _)
  have hk : ∃ k' t', m * 2 ^ t - 2 ^ 52 = k' * 2 ^ t' ∧ k' < 2 ^ 53 ∧ t' ≤ 60 := by
    by_cases hc : t ≤ 52
    · refine ⟨m - 2 ^ (52 - t), t, ?_, Nat.lt_of_le_of_lt (Nat.sub_le _ _) hm, by omega⟩
      rw [Nat.sub_mul, ← Nat.pow_add]
      congr 2; omega
    · rcases hle with hle | ⟨hl1, hl2⟩
      · exact absurd hle hge.1
      · refine ⟨m * 2 ^ (t - 52) - 1, 52, ?_, ?_, by omega⟩
        · rw [Nat.sub_mul, Nat.mul_assoc, ← Nat.pow_add, Nat.one_mul]
          congr 3; omega
        · have h6 : m * 2 ^ (t - 52) ≤ 2 ^ (1 - i).toNat * 2 ^ (t - 52) := Nat.mul_le_mul_right _ hl2
          rw [← Nat.pow_add] at h6
          have h7 : (1 - i).toNat + (t - 52) = 3 := by omega
          rw [h7] at h6
          have : (2 : Nat) ^ 3 < 2 ^ 53 := by decide
          omega
  obtain ⟨k', t', hk1, hk2, hk3⟩ := hk
  obtain ⟨m', i', r1, r2, r3⟩ := near_exact k' t' (-54) B hk2 (by omega) (by omega) hB
  have hsum : (Datum.number false m i).sum (Datum.number false (2 ^ 52) (-54)).opposite = some (.number false (k' * 2 ^ t') (-54)) := by
    have e1 : min i (-54) = -54 := by omega
    have es : signed false m (i - -54).toNat + signed true (2 ^ 52) (-54 - -54 : Int).toNat = ((k' * 2 ^ t' : Nat) : Int) := by
      have e2 : (i - -54).toNat = t := by omega
      have e3 : (-54 - -54 : Int).toNat = 0 := by omega
      rw [e2, e3]
      unfold signed
      rw [Nat.shiftLeft_eq, Nat.shiftLeft_eq, ← hk1]
      simp only [Bool.false_eq_true, if_false, if_true, Nat.pow_zero, Nat.mul_one]
      generalize m * 2 ^ t = A at hbig
      omega
    simp only [Datum.opposite, Datum.sum, Bool.not_false, e1, es]
    generalize k' * 2 ^ t' = K
    rcases Nat.eq_zero_or_pos K with rfl | hp
    · rfl
    · have g1 : (K : Int) ≠ 0 := by omega
      have g2 : ¬ (K : Int) < 0 := by omega
      simp [g2]
  refine ⟨FloatKind.f64.format.nearest false (k' * 2 ^ t') (-54), m', i', ?_, r1, r2, ?_, ?_⟩
  · simp only [qrtC, fop, Option.bind_some, floatBits, Format.sub, h2, read_qrt, hsum]; rfl
  · refine le_of (B := B) (by omega) (by omega) ?_
    rw [r3, ← hk1]
    have h8 := leP_scale hle (show B ≤ i by omega) (show B ≤ 1 by omega)
    refine Nat.le_trans ?_ h8
    have e2 : (i - B).toNat = t + (-54 - B).toNat := by omega
    rw [e2, Nat.pow_add, ← Nat.mul_assoc]
    exact Nat.mul_le_mul_right _ (by omega)
  · rw [r3, ← hk1, Nat.sub_mul, e0]
    have e2 : m * 2 ^ t * 2 ^ (-54 - B).toNat = m * 2 ^ (i - B).toNat := by
      rw [Nat.mul_assoc, ← Nat.pow_add, show t + (-54 - B).toNat = (i - B).toNat by omega]
    rw [e2]
    exact Nat.sub_add_cancel hq

/-- how often a quarter is taken -/
def quarters (F : Option Nat) (N : Nat) : Prop := (∀ k, k < N → fcmp .geq (ford .f64 (itC qrtC k F) (some 4598175219545276416)) = true) ∧ fcmp .geq (ford .f64 (itC qrtC N F) (some 4598175219545276416)) = false

theorem q_ex (B : Int) (hB : B = -1074) (j : Nat) : ∀ b m i, FloatKind.f64.format.read b = .number false m i → -1074 ≤ i → leP m i 1 → m * 2 ^ (i - B).toNat ≤ j * 2 ^ (-2 - B).toNat → ∃ N, N ≤ j ∧ quarters (some b) N ∧ magC (itC qrtC N (some b)) 1 := by
  induction j with
  | zero =>
    intro b m i h2 h3 hle hv
    refine ⟨0, Nat.le_refl _, ⟨fun k hk => absurd hk (Nat.not_lt_zero k), ?_⟩, ⟨b, false, m, i, rfl, h2, h3, hle⟩⟩
    show fcmp .geq (ford .f64 (some b) _) = false
    rw [geq_val b _ m _ i _ B hB h2 (by omega) read_qrt (by omega)]
    apply decide_eq_false
    have hp : 0 < 2 ^ 52 * 2 ^ (-54 - B).toNat := Nat.mul_pos (by decide) (Nat.two_pow_pos _)
    rw [Nat.zero_mul] at hv
    omega
  | succ j ih =>
    intro b m i h2 h3 hle hv
    cases hq : fcmp .geq (ford .f64 (some b) (some 4598175219545276416)) with
    | false => exact ⟨0, Nat.zero_le _, ⟨fun k hk => absurd hk (Nat.not_lt_zero k), hq⟩, ⟨b, false, m, i, rfl, h2, h3, hle⟩⟩
    | true =>
      obtain ⟨b', m', i', g1, g2, g3, g4, g5⟩ := q_step B hB b m i h2 h3 hle hq
      obtain ⟨N, hN, ⟨a1, a2⟩, a3⟩ := ih b' m' i' g2 g3 g4 (by rw [Nat.add_mul, Nat.one_mul] at hv; omega)
      rw [← g1] at a1 a2 a3
      refine ⟨N + 1, by omega, ⟨fun k hk => ?_, by rw [← itC_succ]; exact a2⟩, by rw [← itC_succ]; exact a3⟩
      cases k with
      | zero => exact hq
      | succ k => rw [← itC_succ]; exact a1 k (by omega)
theorem quarters_ex {F : Option Nat} (h : magC F 1) : ∃ N, N ≤ 8 ∧ quarters F N ∧ magC (itC qrtC N F) 1 := by
  obtain ⟨B, hB⟩ := base_ex
  obtain ⟨b, s, m, i, rfl, h2, h3, hle⟩ := h
  have hv := leP_scale hle (show B ≤ i by omega) (show B ≤ 1 by omega)
  have e1 : 2 ^ (1 - B).toNat = 8 * 2 ^ (-2 - B).toNat := by
    have : (1 - B).toNat = 3 + (-2 - B).toNat := by omega
    rw [this, Nat.pow_add]
  rw [e1] at hv
  cases s with
  | false => exact q_ex B hB 8 b m i h2 h3 hle hv
  | true =>
    refine ⟨0, by omega, ⟨fun k hk => absurd hk (Nat.not_lt_zero k), ?_⟩, ⟨b, true, m, i, rfl, h2, h3, hle⟩⟩
    have e2 : ford .f64 (some b) (some 4598175219545276416) = some .lt := by
      show FloatKind.f64.format.order b _ = _
      unfold Format.order
      rw [h2, read_qrt, order_num true false m (2 ^ 52) i (-54) B (by omega) (by omega)]
      have hp : 0 < 2 ^ 52 * 2 ^ (-54 - B).toNat := Nat.mul_pos (by decide) (Nat.two_pow_pos _)
      unfold signed
      rw [Nat.shiftLeft_eq, Nat.shiftLeft_eq]
      generalize 2 ^ 52 * 2 ^ (-54 - B).toNat = A at hp
      generalize m * 2 ^ (i - B).toNat = C
      simp only [if_true, Bool.false_eq_true, if_false]
      rw [compare_lt (by omega)]
    show fcmp .geq (ford .f64 (some b) _) = false
    rw [e2]; rfl

/-- a number of turns that is not great -/
structure SmallF (Z : Option Nat) (n : Int) : Prop where
  hs : ∃ c, Z = some c
  hi : ∀ c, Z = some c → floatToIntVal .f64 c .i64 = some n
  hN : fcmp .neq (ford .f64 (fop .sub .f64 Z Z) (some 0)) = false
  hG : fcmp .geq (ford .f64 Z (some 4841369599423283200)) = false
  hL : fcmp .leq (ford .f64 Z (some 14064741636278059008)) = false
theorem small_ex {Z : Option Nat} (h : magC Z 10) : ∃ n, SmallF Z n ∧ magC (sineC (fracC Z n)) 126 := by
  obtain ⟨B, hB⟩ := base_ex
  obtain ⟨b, s, m, i, rfl, h2, h3, hle⟩ := h
  rcases big_tests b s m i h2 h3 with ⟨h1, _⟩ | ⟨h1, g1, g2, g3⟩
  · exfalso
    have ha : FloatKind.f64.format.read (absW b) = .number false m i := by rw [read_abs, h2]; rfl
    change fcmp .geq (ford .f64 (some (absW b)) (some 4841369599423283200)) = true at h1
    rw [geq_val (absW b) _ m _ i _ B hB ha (by omega) big_read (by omega)] at h1
    have h1 := of_decide_eq_true h1
    have hv := leP_scale hle (show B ≤ i by omega) (show B ≤ 10 by omega)
    have e1 : (10 - B).toNat = 10 + (0 - B).toNat := by omega
    rw [e1, Nat.pow_add] at hv
    have h4 : 2 ^ 10 * 2 ^ (0 - B).toNat < 2 ^ 52 * 2 ^ (0 - B).toNat := Nat.mul_lt_mul_of_pos_right (by decide) (Nat.two_pow_pos _)
    omega
  · obtain ⟨n, f1, f2⟩ := trunc_sub b s m i h2 h3 g3
    exact ⟨n, ⟨⟨b, rfl⟩, fun c hc => by cases hc; exact f1, sub_self64 b s m i h2, g1, g2⟩, mag_sine (mag_frac f2)⟩
theorem zero_sub {S : Option Nat} {e : Int} (h : magC S e) (h0 : -1074 ≤ e) (h1 : e ≤ 1022) : magC (fop .sub .f64 (some 0) S) e := by
  obtain ⟨b, s, m, i, rfl, h2, h3, hle⟩ := h
  have hz : FloatKind.f64.format.read 0 = .number false 0 (-1074) := by decide
  have hsum : ∃ r k, (Datum.number false 0 (-1074)).sum (Datum.number s m i).opposite = some (.number r k (-1074)) ∧ leP k (-1074) e := by
    refine ⟨_, _, by
      simp only [Datum.opposite, Datum.sum]
      rw [show min (-1074) i = -1074 by omega], ?_⟩
    refine .inr ⟨h0, ?_⟩
    have e1 : ∀ u, signed false 0 u = 0 := fun u => by unfold signed; simp
    rw [e1, Int.zero_add, signed_abs]
    exact leP_scale hle h3 h0
  obtain ⟨r, k, hs, hk⟩ := hsum
  have e1 : fop .sub .f64 (some 0) (some b) = some (FloatKind.f64.format.nearest r k (-1074)) := by
    simp only [fop, Option.bind_some, floatBits, Format.sub, hz, h2, hs]; rfl
  rw [e1]
  exact near_mag r k _ e hk h0 h1
end Go.Proofs.Ytlgamkbonpjchab.Flt
