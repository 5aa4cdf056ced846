/- A finite number times a share of at most 1 is finite. -/
import Derived.Test.YthinjgiakaflpabAbs
namespace Go.Proofs.Ythinjgiakaflpab.Flt
open Ieee Go.RowKit
set_option linter.unusedVariables false

/-- the first numbers, as floats -/
def intOkB (a : Nat) : Bool := match FloatKind.f32.format.read (floatOfInt .f32 (a : Int)) with
  | .number false m i => decide (m < 16777216) && (decide (-149 ≤ i) && (decide (i ≤ 104) && (m * 2 ^ (i + 149).toNat == a * 2 ^ 149)))
  | _ => false
theorem ints_ok : ((List.range 258).all intOkB) = true := by kernel_rfl
theorem int_read {a : Nat} (h : a < 258) : ∃ m i, FloatKind.f32.format.read (floatOfInt .f32 (a : Int)) = .number false m i ∧ m < 16777216 ∧ -149 ≤ i ∧ i ≤ 104 ∧ m * 2 ^ (i + 149).toNat = a * 2 ^ 149 := by
  have h1 := List.all_eq_true.1 ints_ok a (List.mem_range.2 h)
  unfold intOkB at h1
  generalize 2 ^ 149 = P at h1 ⊢
  split at h1
  · rename_i m i hr
    simp only [Bool.and_eq_true, decide_eq_true_eq, beq_iff_eq] at h1
    exact ⟨m, i, hr, h1.1, h1.2.1, h1.2.2.1, h1.2.2.2⟩
  · cases h1
/-- the quotient of two numbers, the first of which is not greater, is at most 1 -/
theorem quo_le_one {m1 m2 : Nat} {i j : Int} (h1 : m1 ≠ 0) (h2 : m2 ≠ 0) (g1 : m1 < 16777216) (hi : -149 ≤ i) (hj : -149 ≤ j) (h : m1 * 2 ^ (i + 149).toNat ≤ m2 * 2 ^ (j + 149).toNat) :
    ∃ m k, (Datum.number false m1 i).quotient 25 (Datum.number false m2 j) = some (.number false m k) ∧ leP m k 0 := by
  have l1 : 2 ^ m1.log2 ≤ m1 := Nat.log2_self_le h1
  have l2 : m2 < 2 ^ (m2.log2 + 1) := Nat.lt_log2_self
  have l3 : m1.log2 < 24 := log2_lt (n := 24) g1 h1
  have hlog : m1.log2 + (i + 149).toNat ≤ m2.log2 + (j + 149).toNat := by
    have a1 : 2 ^ (m1.log2 + (i + 149).toNat) ≤ m1 * 2 ^ (i + 149).toNat := by rw [Nat.pow_add]; exact Nat.mul_le_mul_right _ l1
    have a2 : m2 * 2 ^ (j + 149).toNat < 2 ^ (m2.log2 + 1 + (j + 149).toNat) := by rw [Nat.pow_add]; exact Nat.mul_lt_mul_of_pos_right l2 (Nat.two_pow_pos _)
    have a3 := (Nat.pow_lt_pow_iff_right (a := 2) (by omega)).1 (Nat.lt_of_le_of_lt (Nat.le_trans a1 h) a2)
    omega
  generalize hmore : 25 + m2.log2 - m1.log2 = more
  obtain ⟨E, hE⟩ : ∃ E : Nat, (more : Int) + j - i = (E : Int) := ⟨((more : Int) + j - i).toNat, by omega⟩
  have hd : m1 * 2 ^ more ≤ m2 * 2 ^ E := by
    refine Nat.le_of_mul_le_mul_right (c := 2 ^ (i + 149).toNat) ?_ (Nat.two_pow_pos _)
    have e1 : m1 * 2 ^ more * 2 ^ (i + 149).toNat = m1 * 2 ^ (i + 149).toNat * 2 ^ more := by rw [Nat.mul_assoc, Nat.mul_assoc, Nat.mul_comm (2 ^ more)]
    have e2 : m2 * 2 ^ E * 2 ^ (i + 149).toNat = m2 * 2 ^ (j + 149).toNat * 2 ^ more := by
      rw [Nat.mul_assoc, Nat.mul_assoc, ← Nat.pow_add, ← Nat.pow_add]; congr 2; omega
    rw [e1, e2]
    exact Nat.mul_le_mul_right _ h
  refine ⟨2 * ((m1 <<< more) / m2) + ((m1 <<< more) % m2 != 0).toNat, i - j - more - 1, ?_, ?_⟩
  · simp only [Datum.quotient, hmore]
    rw [if_neg h2]
    rfl
  · right
    refine ⟨by omega, ?_⟩
    have e3 : (0 - (i - j - (more : Int) - 1)).toNat = E + 1 := by omega
    rw [e3, Nat.shiftLeft_eq, Nat.pow_succ]
    generalize m1 * 2 ^ more = D at hd
    generalize 2 ^ E = T at hd
    have hq : D / m2 ≤ T := Nat.div_le_of_le_mul hd
    rcases Nat.lt_or_eq_of_le hq with h5 | h5
    · have : ∀ c : Bool, c.toNat ≤ 1 := by intro c; cases c <;> decide
      have := this (D % m2 != 0)
      omega
    · have h6 : D % m2 = 0 := by
        have := Nat.div_add_mod D m2
        rw [h5] at this
        omega
      rw [h5, h6]
      simp
      omega
theorem share_le {a b : Nat} (ha : a ≠ 0) (hb : b < 258) (hab : a ≤ b) : ∃ q n j, fop .quo .f32 (some (floatOfInt .f32 (a : Int))) (some (floatOfInt .f32 (b : Int))) = some q ∧ FloatKind.f32.format.read q = .number false n j ∧ leP n j 0 ∧ -149 ≤ j := by
  obtain ⟨m1, i, r1, g1, g2, g3, g4⟩ := int_read (a := a) (by omega)
  obtain ⟨m2, j, r2, k1, k2, k3, k4⟩ := int_read (a := b) hb
  have n1 : m1 ≠ 0 := by rintro rfl; rw [Nat.zero_mul] at g4; have := Nat.two_pow_pos 149; have := Nat.mul_ne_zero ha (Nat.ne_of_gt this); omega
  have n2 : m2 ≠ 0 := by rintro rfl; rw [Nat.zero_mul] at k4; have := Nat.two_pow_pos 149; have := Nat.mul_ne_zero (show b ≠ 0 by omega) (Nat.ne_of_gt this); omega
  obtain ⟨m, k, hq, hl⟩ := quo_le_one n1 n2 g1 g2 k2 (by rw [g4, k4]; exact Nat.mul_le_mul_right _ hab)
  have hf : floatBits .quo .f32 (floatOfInt .f32 (a : Int)) (floatOfInt .f32 (b : Int)) = some (FloatKind.f32.format.nearest false m k) := by
    have e25 : FloatKind.f32.format.fractionBits + 2 = 25 := by decide
    simp only [floatBits, Format.div, r1, r2, e25, hq]
    rfl
  obtain ⟨m', i', h1, h2, _⟩ := near32 false m k 0 hl (by omega) (by omega)
  refine ⟨_, m', i', hf, h1, h2, ?_⟩
  rcases read32 (FloatKind.f32.format.nearest false m k) (by rw [← read_nan, h1]; rfl) with ⟨s, hr⟩ | ⟨s, m3, e3, hr, _, hh, _⟩
  · rw [h1] at hr; cases hr
  · rw [h1] at hr; simp only [Datum.number.injEq] at hr; omega
theorem mul_share_fin {x q n : Nat} {j : Int} (hf : fin32 (cls .f32 x) = true) (hr : FloatKind.f32.format.read q = .number false n j) (hl : leP n j 0) (hj : -149 ≤ j) : ∃ r, fop .mul .f32 (cls .f32 x) (some q) = cls .f32 r ∧ fin32 (cls .f32 r) = true := by
  obtain ⟨hc, s, m, i, hx, h1, h2, h3⟩ := fin_read hf
  rw [hc]
  have hm : fop .mul .f32 (some x) (some q) = some (FloatKind.f32.format.nearest (s ^^ false) (m * n) (i + j)) := by
    show floatBits .mul .f32 x q = _
    simp only [floatBits, Format.mul, hx, hr, Datum.product]
    rfl
  rw [hm]
  have key : ∃ m' i', FloatKind.f32.format.read (FloatKind.f32.format.nearest (s ^^ false) (m * n) (i + j)) = .number (s ^^ false) m' i' := by
    rcases hl with rfl | ⟨g1, g2⟩
    · obtain ⟨m', i', k1, _⟩ := near32 (s ^^ false) (m * 0) (i + j) 0 (.inl (Nat.mul_zero _)) (by omega) (by omega)
      exact ⟨m', i', k1⟩
    · by_cases hp : -149 ≤ i + j
      · obtain ⟨m', i', k1, _⟩ := near_fin (s ^^ false) (m * n) m (i + j) i h1 h2 h3 hp (by
          have : m * n * 2 ^ (i + j + 149).toNat ≤ m * 2 ^ (0 - j).toNat * 2 ^ (i + j + 149).toNat := Nat.mul_le_mul_right _ (Nat.mul_le_mul_left _ g2)
          refine Nat.le_trans this ?_
          rw [Nat.mul_assoc, ← Nat.pow_add]
          refine Nat.mul_le_mul_left _ (Nat.pow_le_pow_right (by omega) (by omega)))
        exact ⟨m', i', k1⟩
      · obtain ⟨m', i', k1, _⟩ := near32 (s ^^ false) (m * n) (i + j) (i + 24) (.inr ⟨by omega, by
          have : m * n ≤ 2 ^ 24 * 2 ^ (0 - j).toNat := Nat.mul_le_mul (Nat.le_of_lt (by simpa using h1)) g2
          refine Nat.le_trans this ?_
          rw [← Nat.pow_add]
          exact Nat.pow_le_pow_right (by omega) (by omega)⟩) (by omega) (by omega)
        exact ⟨m', i', k1⟩
  obtain ⟨m', i', k1⟩ := key
  have hnn := cls_num (k := .f32) (r := FloatKind.f32.format.nearest (s ^^ false) (m * n) (i + j)) (by rw [← read_nan, k1]; rfl)
  exact ⟨_, hnn.symm, by rw [hnn]; exact fin_of_read k1⟩
end Go.Proofs.Ythinjgiakaflpab.Flt
