/- What is behind the whole part of a number. -/
import Derived.Test.YtpmjiabllmomjaaMag2
namespace Go.Proofs.Ytpmjiabllmomjaa.Flt
open Ieee Go.RowKit

theorem cut_toward_zero (s : Bool) (n drop : Nat) : Toward.zero.cut s n drop = n / 2 ^ drop := by
  unfold Toward.cut
  dsimp only
  by_cases hd : drop ≤ n.log2 + 2
  · rw [Nat.min_eq_left hd, Nat.one_shiftLeft]; rfl
  · rw [Nat.min_eq_right (by omega), Nat.one_shiftLeft]
    have h1 : n < 2 ^ (n.log2 + 1) := Nat.lt_log2_self
    have h2 : n < 2 ^ (n.log2 + 2) := Nat.lt_of_lt_of_le h1 (Nat.pow_le_pow_right (by omega) (by omega))
    have h3 : n < 2 ^ drop := Nat.lt_of_lt_of_le h1 (Nat.pow_le_pow_right (by omega) (by omega))
    rw [Nat.div_eq_of_lt h2, Nat.div_eq_of_lt h3]; rfl

/-- a small integer as a number of 64 bits -/
theorem int_word (s : Bool) (T : Nat) (hT : T < 2 ^ 53) : ∃ s2 N j, FloatKind.f64.format.read (floatOfInt .f64 (signed s T 0)) = .number s2 N j ∧ -1074 ≤ j ∧ j ≤ 0 ∧
    ∀ B : Int, B ≤ j → signed (!s2) N (j - B).toNat = - signed s T (0 - B).toNat := by
  by_cases h0 : T = 0
  · subst h0
    have e : floatOfInt .f64 (signed s 0 0) = FloatKind.f64.format.nearest false 0 0 := by cases s <;> rfl
    refine ⟨false, 0, -1074, by rw [e]; exact wide_zero false 0, by omega, by omega, fun B hB => ?_⟩
    unfold signed; cases s <;> simp
  · have hl := log2_lt hT h0
    have e : floatOfInt .f64 (signed s T 0) = FloatKind.f64.format.nearest s T 0 := by
      have e1 : (signed s T 0).natAbs = T := by rw [signed_abs]; simp
      have e2 : decide (signed s T 0 < 0) = s := by
        unfold signed; rw [Nat.shiftLeft_zero]
        cases s
        · simp
        · simp; omega
      show FloatKind.f64.format.nearest (decide (signed s T 0 < 0)) (signed s T 0).natAbs 0 = _
      rw [e1, e2]
    refine ⟨s, T <<< (52 - T.log2), 0 + T.log2 - 52, by rw [e]; exact wide_word s T 0 h0 (by omega) (by omega) (by omega), by omega, by omega, fun B hB => ?_⟩
    rw [signed_shl]
    have e3 : 52 - T.log2 + (0 + (T.log2 : Int) - 52 - B).toNat = (0 - B).toNat := by omega
    rw [e3]
    unfold signed
    cases s <;> simp

theorem trunc_sub (b : Nat) (s : Bool) (m : Nat) (i : Int) (hr : FloatKind.f64.format.read b = .number s m i) (hi : -1074 ≤ i) (hle : leP m i 52) :
    ∃ n : Int, floatToIntVal .f64 b .i64 = some n ∧ magC (fop .sub .f64 (some b) (some (floatOfInt .f64 n))) 0 := by
  obtain ⟨T, hT⟩ : ∃ T, T = m <<< i.toNat / 2 ^ (-i).toNat := ⟨_, rfl⟩
  have hTle : T ≤ 2 ^ 52 := by
    rw [hT]
    apply Nat.div_le_of_le_mul
    rw [Nat.shiftLeft_eq, Nat.mul_comm (2 ^ (-i).toNat), ← Nat.pow_add]
    rcases hle with h | ⟨h1, h2⟩
    · rw [h, Nat.zero_mul]; exact Nat.zero_le _
    · have e1 : 52 + (-i).toNat = (52 - i).toNat + i.toNat := by omega
      rw [e1, Nat.pow_add]
      exact Nat.mul_le_mul_right _ h2
  have hT53 : T < 2 ^ 53 := by
    have : (2 : Nat) ^ 52 < 2 ^ 53 := by decide
    omega
  refine ⟨signed s T 0, ?_, ?_⟩
  · have h1 : (FloatKind.f64.decode b).toInt .zero = some (signed s T 0) := by
      unfold FloatKind.decode
      rw [hr]
      simp only [Datum.toInt, Datum.integral, cut_toward_zero, ← hT]
    unfold floatToIntVal
    rw [h1]
    have h2 : (signed s T 0).natAbs = T := by rw [signed_abs]; simp
    have h3 : (2 : Nat) ^ 52 = 4503599627370496 := by decide
    rw [h3] at hTle
    have h4 : IntKind.i64.min ≤ signed s T 0 ∧ signed s T 0 ≤ IntKind.i64.max := by
      have e1 : IntKind.i64.min = -9223372036854775808 := by decide
      have e2 : IntKind.i64.max = 9223372036854775807 := by decide
      rw [e1, e2]; omega
    show (if IntKind.i64.min ≤ signed s T 0 ∧ signed s T 0 ≤ IntKind.i64.max then some (signed s T 0) else none) = _
    rw [if_pos h4]
  · obtain ⟨s2, N, j, hw, hj, hj0, hv⟩ := int_word s T hT53
    have hsum : ∃ r k, (Datum.number s m i).sum (Datum.number s2 N j).opposite = some (.number r k (min i j)) ∧ k ≤ 2 ^ (0 - min i j).toNat := by
      refine ⟨_, _, rfl, ?_⟩
      rw [hv _ (Int.min_le_right i j)]
      generalize hB : min i j = B
      have hBi : B ≤ i := by omega
      have hB0 : B ≤ 0 := by omega
      by_cases hc : 0 ≤ i
      · have e1 : T = m * 2 ^ i.toNat := by
          have : (-i).toNat = 0 := by omega
          rw [hT, this, Nat.shiftLeft_eq]; simp
        have e2 : signed s m (i - B).toNat = signed s T (0 - B).toNat := by
          unfold signed
          have e3 : m <<< (i - B).toNat = T <<< (0 - B).toNat := by
            rw [Nat.shiftLeft_eq, Nat.shiftLeft_eq, e1, Nat.mul_assoc, ← Nat.pow_add]
            congr 2; omega
          rw [e3]
        rw [e2]
        have e4 : signed s T (0 - B).toNat + - signed s T (0 - B).toNat = 0 := by omega
        rw [e4]; exact Nat.zero_le _
      · have hm : m = T * 2 ^ (-i).toNat + m % 2 ^ (-i).toNat := by
          have : i.toNat = 0 := by omega
          rw [this, Nat.shiftLeft_zero] at hT
          rw [hT, Nat.mul_comm]; exact (Nat.div_add_mod _ _).symm
        have hrm : m % 2 ^ (-i).toNat < 2 ^ (-i).toNat := Nat.mod_lt _ (Nat.two_pow_pos _)
        generalize m % 2 ^ (-i).toNat = q at hm hrm
        have e5 : (0 - B).toNat = (-i).toNat + (i - B).toNat := by omega
        have e6 : m * 2 ^ (i - B).toNat = T * 2 ^ (0 - B).toNat + q * 2 ^ (i - B).toNat := by
          rw [hm, Nat.add_mul, e5, Nat.pow_add, Nat.mul_assoc]
        have e7 : q * 2 ^ (i - B).toNat ≤ 2 ^ (0 - B).toNat := by
          rw [e5, Nat.pow_add]; exact Nat.mul_le_mul_right _ (Nat.le_of_lt hrm)
        have e8 : (signed s m (i - B).toNat + - signed s T (0 - B).toNat).natAbs = q * 2 ^ (i - B).toNat := by
          unfold signed
          rw [Nat.shiftLeft_eq, Nat.shiftLeft_eq, e6]
          cases s
          · simp only [Bool.false_eq_true, if_false]; omega
          · simp only [if_true]; omega
        rw [e8]; exact e7
    obtain ⟨r, k, hs, hk⟩ := hsum
    have e1 : fop .sub .f64 (some b) (some (floatOfInt .f64 (signed s T 0))) = some (FloatKind.f64.format.nearest r k (min i j)) := by
      simp only [fop, Option.bind_some, floatBits, Format.sub, hr, hw, hs]; rfl
    rw [e1]
    exact near_mag r k _ 0 (.inr ⟨by omega, hk⟩) (by omega) (by omega)

end Go.Proofs.Ytpmjiabllmomjaa.Flt
