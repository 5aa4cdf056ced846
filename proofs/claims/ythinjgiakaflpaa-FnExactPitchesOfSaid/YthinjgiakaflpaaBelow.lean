/- Rounding keeps order (32 bits). -/
import Derived.Test.YthinjgiakaflpaaQuo
namespace Go.Proofs.Ythinjgiakaflpaa.Flt
open Ieee Go.RowKit
set_option linter.unusedVariables false

/-- rounding keeps order: what is not greater than a number is rounded to what is not greater -/
theorem near_below (s : Bool) (m N : Nat) (place p B : Int) (hN : N < 16777216) (hp0 : -149 ≤ p) (hp1 : p ≤ 104) (hb1 : B ≤ place) (hb2 : B ≤ -149) (h : m * 2 ^ (place - B).toNat ≤ N * 2 ^ (p - B).toNat) :
    ∃ m' i', FloatKind.f32.format.read (FloatKind.f32.format.nearest s m place) = .number s m' i' ∧ -149 ≤ i' ∧ m' * 2 ^ (i' + 149).toNat ≤ N * 2 ^ (p + 149).toNat := by
  have hB0 := f32_bin
  by_cases hm : m = 0
  · subst hm
    have e1 : FloatKind.f32.format.nearest s 0 place = FloatKind.f32.format.word s (0 * 8388608 + 0) := by simp [Format.nearest]
    have := read_rung FloatKind.f32.format (binade_le .f32) s 0 0 (.inl rfl) (by omega) (by rw [f32_inf]; omega)
    rw [f32_bin, f32_lp] at this
    obtain ⟨m', i', hr, hi, _, _, hz, _⟩ := this
    refine ⟨m', i', by rw [e1]; exact hr, hi, ?_⟩
    rw [hz rfl, Nat.zero_mul]
    exact Nat.zero_le _
  · have hl1 : 2 ^ m.log2 ≤ m := Nat.log2_self_le hm
    have hl2 : m < 2 ^ (m.log2 + 1) := Nat.lt_log2_self
    have hN0 : (16777216 : Nat) = 2 ^ 24 := by decide
    have hlp : place + m.log2 < p + 24 := by
      have g1 : 2 ^ (m.log2 + (place - B).toNat) ≤ m * 2 ^ (place - B).toNat := by rw [Nat.pow_add]; exact Nat.mul_le_mul_right _ hl1
      have g2 : N * 2 ^ (p - B).toNat < 2 ^ (24 + (p - B).toNat) := by
        rw [Nat.pow_add, ← hN0]
        exact Nat.mul_lt_mul_of_pos_right hN (Nat.two_pow_pos _)
      have g3 := (Nat.pow_lt_pow_iff_right (a := 2) (by omega)).1 (Nat.lt_of_le_of_lt (Nat.le_trans g1 h) g2)
      omega
    generalize hL : max (place + (m.log2 : Int) - ((23 : Nat) : Int)) (-149 : Int) = last
    obtain ⟨q, hq⟩ : ∃ q : Nat, last = -149 + q := ⟨(last + 149).toNat, by omega⟩
    generalize hK : Toward.even.cut s (m <<< (place - last).toNat) (last - place).toNat = kept
    have k1 : kept ≤ N * 2 ^ (p - last).toNat := by
      rw [← hK]
      refine cut_le _ _ _ _ ?_
      rw [Nat.shiftLeft_eq]
      refine Nat.le_of_mul_le_mul_right (c := 2 ^ (min place last - B).toNat) ?_ (Nat.two_pow_pos _)
      have e1 : m * 2 ^ (place - last).toNat * 2 ^ (min place last - B).toNat = m * 2 ^ (place - B).toNat := by
        rw [Nat.mul_assoc, ← Nat.pow_add]; congr 2; omega
      have e2 : N * 2 ^ (p - last).toNat * 2 ^ (last - place).toNat * 2 ^ (min place last - B).toNat = N * 2 ^ (p - B).toNat := by
        rw [Nat.mul_assoc, Nat.mul_assoc, ← Nat.pow_add, ← Nat.pow_add]; congr 2; omega
      rw [e1, e2]; exact h
    have k2 : kept ≤ 16777216 := by
      rw [← hK, hN0]
      refine cut_le _ _ _ _ ?_
      rw [Nat.shiftLeft_eq, ← Nat.pow_add]
      have g : m * 2 ^ (place - last).toNat ≤ 2 ^ (m.log2 + 1) * 2 ^ (place - last).toNat := Nat.mul_le_mul_right _ (Nat.le_of_lt hl2)
      rw [← Nat.pow_add] at g
      exact Nat.le_trans g (Nat.pow_le_pow_right (by omega) (by omega))
    have k3 : q = 0 ∨ 8388608 ≤ kept := by
      by_cases hq0 : q = 0
      · exact .inl hq0
      · right
        have hlast : last = place + m.log2 - 23 := by omega
        rw [← hK]
        refine le_cut _ _ _ _ ?_
        rw [Nat.shiftLeft_eq]
        have e0 : (8388608 : Nat) = 2 ^ 23 := by decide
        rw [e0, ← Nat.pow_add]
        by_cases hc : last ≤ place
        · have e1 : (last - place).toNat = 0 := by omega
          have e2 : 23 + 0 = m.log2 + (place - last).toNat := by omega
          rw [e1, e2, Nat.pow_add]
          exact Nat.mul_le_mul_right _ hl1
        · have e1 : (place - last).toNat = 0 := by omega
          have e2 : 23 + (last - place).toNat = m.log2 := by omega
          rw [e1, e2, Nat.pow_zero, Nat.mul_one]
          exact hl1
    have hrung : q * 8388608 + kept < 2139095040 := by
      by_cases hc : q ≤ 252
      · omega
      · have hq3 : q = 253 := by omega
        have e1 : (p - last).toNat = 0 := by omega
        rw [e1] at k1
        omega
    have hw : FloatKind.f32.format.nearest s m place = FloatKind.f32.format.word s (q * 8388608 + kept) := by
      unfold Format.nearest
      rw [if_neg hm, f32_lp, f32_inf, f32_frac, f32_bin]
      dsimp only
      rw [hL, hK]
      congr 1
      have e4 : (last - (-149 : Int)).toNat = q := by omega
      rw [e4]
      exact Nat.min_eq_left (Nat.le_of_lt hrung)
    rw [hw]
    have := read_rung FloatKind.f32.format (binade_le .f32) s q kept (by rw [f32_bin]; exact k3) (by rw [f32_bin]; omega) (by rw [f32_bin, f32_inf]; exact hrung)
    rw [f32_bin, f32_lp] at this
    obtain ⟨m', i', hr, hi, hi2, hv, hz, hcase⟩ := this
    refine ⟨m', i', hr, hi, ?_⟩
    have e5 : (i' - -149).toNat = (i' + 149).toNat := by omega
    rw [e5] at hv
    rw [hv]
    have e6 : (p + 149).toNat = (p - last).toNat + q := by omega
    rw [e6, Nat.pow_add, ← Nat.mul_assoc]
    exact Nat.mul_le_mul_right _ k1

end Go.Proofs.Ythinjgiakaflpaa.Flt
