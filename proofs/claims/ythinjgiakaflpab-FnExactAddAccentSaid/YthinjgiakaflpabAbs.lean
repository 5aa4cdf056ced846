/- A number is its own nearest; absolute values. -/
import Derived.Test.YthinjgiakaflpabQuo
namespace Go.Proofs.Ythinjgiakaflpab.Flt
open Ieee Go.RowKit
set_option linter.unusedVariables false

theorem cut_exact (s : Bool) (N d : Nat) : Toward.even.cut s (N * 2 ^ d) d = N :=
  Nat.le_antisymm (cut_le _ _ _ _ (Nat.le_refl _)) (le_cut _ _ _ _ (Nat.le_refl _))
theorem log2_mul_pow (m k : Nat) (hm : m ≠ 0) : (m * 2 ^ k).log2 = m.log2 + k := by
  have h0 : m * 2 ^ k ≠ 0 := Nat.mul_ne_zero hm (Nat.ne_of_gt (Nat.two_pow_pos _))
  have h1 := Nat.log2_self_le hm
  have h2 : m < 2 ^ (m.log2 + 1) := Nat.lt_log2_self
  have g1 : 2 ^ (m.log2 + k) ≤ m * 2 ^ k := by rw [Nat.pow_add]; exact Nat.mul_le_mul_right _ h1
  have g2 : m * 2 ^ k < 2 ^ (m.log2 + k + 1) := by
    rw [Nat.add_right_comm, Nat.pow_add]; exact Nat.mul_lt_mul_of_pos_right h2 (Nat.two_pow_pos _)
  have g3 := (Nat.le_log2 h0).2 g1
  have g4 := (Nat.log2_lt h0).2 g2
  omega
/-- a number of at most 24 bits, at a place of the format, is told exactly -/
theorem nearest_rung (s : Bool) (m k : Nat) (i : Int) (hm : m ≠ 0) (hm2 : m < 16777216) (hi : -149 ≤ i) (q kept : Nat) (hlast : max (i + (m.log2 : Int) - 23) (-149) = -149 + (q : Int)) (hk : kept = m * 2 ^ (i - (-149 + (q : Int))).toNat) :
    FloatKind.f32.format.nearest s (m * 2 ^ k) (i - (k : Int)) = FloatKind.f32.format.word s (min (q * 8388608 + kept) 2139095040) := by
  have h0 : m * 2 ^ k ≠ 0 := Nat.mul_ne_zero hm (Nat.ne_of_gt (Nat.two_pow_pos _))
  have hl : m.log2 < 24 := (Nat.log2_lt hm).2 hm2
  unfold Format.nearest
  rw [if_neg h0, f32_lp, f32_inf, f32_frac, f32_bin, log2_mul_pow m k hm]
  dsimp only
  have e1 : i - (k : Int) + ((m.log2 + k : Nat) : Int) - ((23 : Nat) : Int) = i + (m.log2 : Int) - 23 := by omega
  rw [e1, hlast]
  have e2 : (-149 + (q : Int) - -149).toNat = q := by omega
  have hle : -149 + (q : Int) ≤ i := by omega
  rw [e2]
  have e3 : Toward.even.cut s ((m * 2 ^ k) <<< (i - (k : Int) - (-149 + (q : Int))).toNat) (-149 + (q : Int) - (i - (k : Int))).toNat = kept := by
    rw [Nat.shiftLeft_eq, hk]
    have g : m * 2 ^ k * 2 ^ (i - (k : Int) - (-149 + (q : Int))).toNat = m * 2 ^ (i - (-149 + (q : Int))).toNat * 2 ^ (-149 + (q : Int) - (i - (k : Int))).toNat := by
      rw [Nat.mul_assoc, Nat.mul_assoc, ← Nat.pow_add, ← Nat.pow_add]
      congr 2
      omega
    rw [g]
    exact cut_exact _ _ _
  rw [e3]
theorem nearest_shift (s : Bool) (m k : Nat) (i : Int) (hm2 : m < 16777216) (hi : -149 ≤ i) :
    FloatKind.f32.format.nearest s (m * 2 ^ k) (i - (k : Int)) = FloatKind.f32.format.nearest s m i := by
  by_cases hm : m = 0
  · subst hm; unfold Format.nearest; simp
  · obtain ⟨q, hq⟩ : ∃ q : Nat, max (i + (m.log2 : Int) - 23) (-149) = -149 + (q : Int) := ⟨(max (i + (m.log2 : Int) - 23) (-149) + 149).toNat, by omega⟩
    have h1 := nearest_rung s m k i hm hm2 hi q _ hq rfl
    have h2 := nearest_rung s m 0 i hm hm2 hi q _ hq rfl
    rw [h1]
    simpa using h2.symm
/-- what a finite word stands for is written as that word -/
theorem write_read (b : Nat) (s : Bool) (m : Nat) (i : Int) (h : FloatKind.f32.format.read b = .number s m i) : FloatKind.f32.format.nearest false m i = b % 2147483648 := by
  have hS : FloatKind.f32.format.signWeight = 2147483648 := by decide
  unfold Format.read at h
  rw [hS, f32_bin, f32_inf, f32_lp] at h
  dsimp only at h
  generalize hr : b % 2147483648 = r at h
  split at h
  · rename_i h1
    simp only [Datum.number.injEq] at h
    obtain ⟨_, rfl, rfl⟩ := h
    by_cases h0 : r = 0
    · subst h0; unfold Format.nearest Format.word; simp
    · have hl : r.log2 < 23 := (Nat.log2_lt h0).2 h1
      have := nearest_rung false r 0 (-149) h0 (by omega) (by omega) 0 r (by omega) (by simp)
      simp only [Nat.pow_zero, Nat.mul_one, Int.natCast_zero, Int.sub_zero] at this
      rw [this]
      unfold Format.word
      simp
      omega
  · split at h
    · rename_i h1 h2
      simp only [Datum.number.injEq] at h
      obtain ⟨_, rfl, rfl⟩ := h
      have hm : 8388608 + r % 8388608 ≠ 0 := by omega
      have hl : (8388608 + r % 8388608).log2 = 23 := by
        have p1 : (2 : Nat) ^ 23 ≤ 8388608 + r % 8388608 := Nat.le_trans (show (2 : Nat) ^ 23 ≤ 8388608 from by decide) (Nat.le_add_right _ _)
        have p2 : 8388608 + r % 8388608 < (2 : Nat) ^ 24 := Nat.lt_of_lt_of_le (show 8388608 + r % 8388608 < 16777216 from by omega) (by decide)
        have g1 : 23 ≤ (8388608 + r % 8388608).log2 := (Nat.le_log2 hm).2 p1
        have g2 : (8388608 + r % 8388608).log2 < 24 := (Nat.log2_lt hm).2 p2
        omega
      have hq1 : 1 ≤ r / 8388608 := by omega
      have := nearest_rung false (8388608 + r % 8388608) 0 (-149 + ((r / 8388608 - 1 : Nat) : Int)) hm (by omega) (by omega) (r / 8388608 - 1) (8388608 + r % 8388608) (by rw [hl]; omega) (by simp)
      simp only [Nat.pow_zero, Nat.mul_one, Int.natCast_zero, Int.sub_zero] at this
      rw [this]
      unfold Format.word
      simp
      omega
    · split at h <;> simp at h
theorem read_abs32 (b : Nat) : FloatKind.f32.format.read (b % 2147483648) = posD (FloatKind.f32.format.read b) := by
  have hS : FloatKind.f32.format.signWeight = 2147483648 := by decide
  unfold Format.read
  rw [hS]
  have h0 : b % 2147483648 / 2147483648 % 2 = 0 := by omega
  have h1 : b % 2147483648 % 2147483648 = b % 2147483648 := by omega
  simp only [h0, h1]
  split
  · rfl
  · split
    · rfl
    · split <;> rfl
/-- a finite word, and what it stands for -/
theorem fin_read {b : Nat} (hf : fin32 (cls .f32 b) = true) : cls .f32 b = some b ∧ ∃ s m e, FloatKind.f32.format.read b = .number s m e ∧ m < 16777216 ∧ -149 ≤ e ∧ e ≤ 104 := by
  cases hc : cls .f32 b with
  | none => rw [hc] at hf; cases hf
  | some c =>
    have e := cls_word hc
    subst e
    refine ⟨rfl, ?_⟩
    rw [hc] at hf
    rcases read32 c (cls_ok .f32 c c hc) with ⟨s, hr⟩ | ⟨s, m, e, hr, h1, h2, h3⟩
    · simp [fin32, hr, Datum.isInfinity] at hf
    · exact ⟨s, m, e, hr, h1, h2, h3⟩
theorem abs_num (b : Nat) (hf : fin32 (cls .f32 b) = true) : cls .f32 (b % 2147483648) = some (b % 2147483648) := by
  obtain ⟨_, s, m, e, hr, _⟩ := fin_read hf
  refine cls_num ?_
  rw [← read_nan, read_abs32, hr]; rfl
theorem abs_fin (b : Nat) (hf : fin32 (cls .f32 b) = true) : fin32 (some (b % 2147483648)) = true := by
  obtain ⟨_, s, m, e, hr, _⟩ := fin_read hf
  show (!(FloatKind.f32.format.read (b % 2147483648)).isInfinity) = true
  rw [read_abs32, hr]; rfl
theorem abs_nar (b : Nat) (hf : fin32 (cls .f32 b) = true) : nar (absW (wide b)) = b % 2147483648 ∧ nanW .f64 (absW (wide b)) = false := by
  obtain ⟨_, s, m, e, hr, h1, h2, h3⟩ := fin_read hf
  have hw : wide b = FloatKind.f64.format.nearest s m e := by simp only [wide, FloatKind.decode, FloatKind.encode, hr]; rfl
  have hn : ∀ s' m' e', FloatKind.f64.format.read (absW (wide b)) = .number s' m' e' → nar (absW (wide b)) = FloatKind.f32.format.nearest s' m' e' ∧ nanW .f64 (absW (wide b)) = false := by
    intro s' m' e' h
    refine ⟨by simp only [nar, FloatKind.decode, FloatKind.encode, h]; rfl, ?_⟩
    rw [← read_nan, h]; rfl
  by_cases hm : m = 0
  · subst hm
    have hz := hn false 0 (-1074) (by rw [read_abs, hw, wide_zero]; rfl)
    refine ⟨?_, hz.2⟩
    rw [hz.1, ← write_read b s 0 e hr]
    unfold Format.nearest; simp
  · have hl := log2_lt (n := 24) h1 hm
    have hz := hn false (m <<< (52 - m.log2)) (e + m.log2 - 52) (by rw [read_abs, hw, wide_word s m e hm (by omega) (by omega) (by omega)]; rfl)
    refine ⟨?_, hz.2⟩
    rw [hz.1, ← write_read b s m e hr, Nat.shiftLeft_eq]
    have := nearest_shift false m (52 - m.log2) e h1 h2
    rw [← this]
    congr 1
    omega
theorem abs_fits (b : Nat) (hf : fin32 (cls .f32 b) = true) : fits (some (absW (wide b))) := by
  intro c hc
  cases hc
  right
  rw [(abs_nar b hf).1]
  have := abs_fin b hf
  simpa [fin32] using this
theorem neg_abs (b : Nat) (hf : fin32 (cls .f32 b) = true) (hle : fcmp .leq (ford .f32 (cls .f32 b) (some 0)) = true) : fop .sub .f32 (some 0) (cls .f32 b) = some (b % 2147483648) := by
  obtain ⟨hc, s, m, e, hr, h1, h2, h3⟩ := fin_read hf
  have e0 : FloatKind.f32.format.read 0 = .number false 0 (-149) := by decide
  rw [hc] at hle ⊢
  have hs : s = true ∨ m = 0 := by
    cases s
    · right
      by_cases hm : m = 0
      · exact hm
      exfalso
      have ho : FloatKind.f32.format.order b 0 = some (compare (signed false m (e - -149).toNat) (signed false 0 (-149 - -149 : Int).toNat)) := by
        unfold Format.order; rw [hr, e0]; exact order_num false false m 0 e (-149) (-149) h2 (by omega)
      have hp : signed false 0 (-149 - -149 : Int).toNat < signed false m (e - -149).toNat := by
        unfold signed
        simp only [Bool.false_eq_true, if_false, Nat.shiftLeft_eq, Nat.zero_mul]
        have : 0 < m * 2 ^ (e - -149).toNat := Nat.mul_pos (Nat.pos_of_ne_zero hm) (Nat.two_pow_pos _)
        omega
      rw [compare_gt hp] at ho
      simp [fcmp, ford, ho] at hle
    · exact .inl rfl
  have hsum : (FloatKind.f32.format.read 0).sum (FloatKind.f32.format.read b).opposite = some (.number false (m * 2 ^ (e + 149).toNat) (-149)) := by
    rw [e0, hr]
    simp only [Datum.opposite, Datum.sum]
    have hb : min (-149 : Int) e = -149 := by omega
    rw [hb]
    have z0 : signed false 0 (-149 - -149 : Int).toNat = 0 := by decide
    rw [z0, Int.zero_add]
    have he : (e - -149).toNat = (e + 149).toNat := by omega
    rw [he]
    rcases hs with rfl | rfl
    · unfold signed
      simp only [Bool.not_true, Bool.false_eq_true, if_false, Nat.shiftLeft_eq, Int.natAbs_natCast]
      generalize m * 2 ^ (e + 149).toNat = M
      by_cases h0 : M = 0
      · simp [h0]
      · congr 2
        rw [if_neg (by omega)]
        simp
    · unfold signed
      simp [Nat.shiftLeft_eq]
  have : floatBits .sub .f32 0 b = some (FloatKind.f32.format.nearest false (m * 2 ^ (e + 149).toNat) (-149)) := by
    simp only [floatBits, Format.sub, hsum]
    rfl
  show floatBits .sub .f32 0 b = _
  rw [this, ← write_read b s m e hr]
  have g := nearest_shift false m (e + 149).toNat e h1 h2
  rw [← g]
  congr 2
  omega
theorem pos_abs (b : Nat) (hb : b < 4294967296) (hf : fin32 (cls .f32 b) = true) (hle : fcmp .leq (ford .f32 (cls .f32 b) (some 0)) = false) : b % 2147483648 = b := by
  obtain ⟨hc, s, m, e, hr, h1, h2, h3⟩ := fin_read hf
  have e0 : FloatKind.f32.format.read 0 = .number false 0 (-149) := by decide
  rw [hc] at hle
  by_cases hlt : b < 2147483648
  · exact Nat.mod_eq_of_lt hlt
  exfalso
  have hs : s = true := by
    have hS : FloatKind.f32.format.signWeight = 2147483648 := by decide
    unfold Format.read at hr
    rw [hS] at hr
    have h4 : b / 2147483648 % 2 = 1 := by omega
    rw [h4] at hr
    dsimp only at hr
    split at hr
    · simp at hr; exact hr.1
    · split at hr
      · simp at hr; exact hr.1
      · split at hr <;> simp at hr
  subst hs
  have ho : FloatKind.f32.format.order b 0 = some (compare (signed true m (e - -149).toNat) (signed false 0 (-149 - -149 : Int).toNat)) := by
    unfold Format.order; rw [hr, e0]; exact order_num true false m 0 e (-149) (-149) h2 (by omega)
  have z0 : signed false 0 (-149 - -149 : Int).toNat = 0 := by decide
  have hp : signed true m (e - -149).toNat ≤ 0 := by unfold signed; simp only [if_true]; generalize m <<< (e - -149).toNat = M; omega
  rw [z0] at ho
  rcases Int.lt_or_eq_of_le hp with h5 | h5
  · rw [compare_lt h5] at ho
    simp [fcmp, ford, ho] at hle
  · rw [compare_eq h5] at ho
    simp [fcmp, ford, ho] at hle
end Go.Proofs.Ythinjgiakaflpab.Flt
