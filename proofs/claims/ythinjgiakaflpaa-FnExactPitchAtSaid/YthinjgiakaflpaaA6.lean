/- The end of a tune, and its pitch. -/
import Derived.Test.YthinjgiakaflpaaA5
namespace Go.Proofs.Ythinjgiakaflpaa
open Go.RowKit Flt
set_option linter.unusedVariables false

open Ieee

theorem three_read : FloatKind.f32.format.read 1061158912 = .number false 12582912 (-24) := by decide
theorem four_read : FloatKind.f32.format.read 1082130432 = .number false 8388608 (-21) := by decide
/-- what is left behind three quarters is at most a quarter -/
theorem rise_part {x : Nat} (hx : Unit x) (hg : fcmp .gtr (ford .f32 (some x) (some 1061158912)) = true) : ∃ d, floatBits .sub .f32 x 1061158912 = some d ∧ ∃ m j, FloatKind.f32.format.read d = .number false m j ∧ -149 ≤ j ∧ m * 2 ^ (j + 149).toNat ≤ 2 ^ 147 := by
  obtain ⟨s, m, i, hr, hl, hi, hs⟩ := hx
  have hg' : fcmp .gtr (FloatKind.f32.format.order x 1061158912) = true := hg
  have ho : FloatKind.f32.format.order x 1061158912 = some (compare (signed s m (i - min i (-24)).toNat) (signed false 12582912 (-24 - min i (-24)).toNat)) := by
    unfold Format.order; rw [hr, three_read]; rfl
  rw [ho] at hg'
  have hgt : signed false 12582912 (-24 - min i (-24)).toNat < signed s m (i - min i (-24)).toNat := by
    rcases Int.lt_trichotomy (signed s m (i - min i (-24)).toNat) (signed false 12582912 (-24 - min i (-24)).toNat) with g | g | g
    · rw [compare_lt g] at hg'; cases hg'
    · rw [compare_eq g] at hg'; cases hg'
    · exact g
  have hs0 : s = false := by
    rcases hs with h | h
    · exact h
    · subst h
      rw [signedV, signedV] at hgt
      simp only [Nat.zero_mul, Bool.false_eq_true, if_false] at hgt
      generalize 12582912 * 2 ^ (-24 - min i (-24)).toNat = X at hgt
      split at hgt <;> omega
  subst hs0
  obtain ⟨T, hT⟩ : ∃ T : Int, signed false m (i - min i (-24)).toNat + signed (!false) 12582912 (-24 - min i (-24)).toNat = T := ⟨_, rfl⟩
  have hb : floatBits .sub .f32 x 1061158912 = some (FloatKind.f32.format.nearest (if T = 0 then (false && !false) else decide (T < 0)) T.natAbs (min i (-24))) := by
    rw [← hT]
    simp only [floatBits, Format.sub, three_read, hr, Datum.opposite, Datum.sum]
    rfl
  rw [signedV, signedV] at hT hgt
  simp only [Bool.not_false, if_true, Bool.false_eq_true, if_false] at hT hgt
  have hm1 : m * 2 ^ (i - min i (-24)).toNat ≤ 16777216 * 2 ^ (-24 - min i (-24)).toNat := by
    rcases hl with h | ⟨h1, h2⟩
    · rw [h]; simp
    · have e24 : 16777216 = 2 ^ 24 := by decide
      rw [e24, ← Nat.pow_add]
      refine Nat.le_trans (Nat.mul_le_mul_right _ h2) ?_
      rw [← Nat.pow_add]
      exact Nat.pow_le_pow_right (by omega) (by omega)
  have hT2 : 0 < T ∧ T.natAbs ≤ 4194304 * 2 ^ (-24 - min i (-24)).toNat := by
    generalize 2 ^ (-24 - min i (-24)).toNat = Y at hT hgt hm1 ⊢
    generalize m * 2 ^ (i - min i (-24)).toNat = X at hT hgt hm1
    omega
  have hsg : (if T = 0 then (false && !false) else decide (T < 0)) = false := by
    rw [if_neg (by omega)]
    simp
    omega
  rw [hsg] at hb
  have hfit : T.natAbs * 2 ^ (min i (-24) - -149).toNat ≤ 1 * 2 ^ (-2 - -149 : Int).toNat := by
    refine Nat.le_trans (Nat.mul_le_mul_right _ hT2.2) ?_
    have e22 : 4194304 = 2 ^ 22 := by decide
    rw [e22, ← Nat.pow_add, ← Nat.pow_add, Nat.one_mul]
    exact Nat.pow_le_pow_right (by omega) (by omega)
  obtain ⟨m', i', q1, q2, q3⟩ := near_below false T.natAbs 1 (min i (-24)) (-2) (-149) (by omega) (by omega) (by omega) (by omega) (by omega) hfit
  refine ⟨_, hb, m', i', q1, q2, ?_⟩
  rw [Nat.one_mul, show (-2 + 149 : Int).toNat = 147 from by decide] at q3
  exact q3
theorem rise_fin {r d m : Nat} {j : Int} (hr : fin32 (cls .f32 r) = true) (rd : FloatKind.f32.format.read d = .number false m j) (hj : -149 ≤ j) (hm : m * 2 ^ (j + 149).toNat ≤ 2 ^ 147) : fin32 (fop .mul .f32 (fop .mul .f32 (cls .f32 r) (some d)) (some 1082130432)) = true := by
  obtain ⟨cr, s, mr, ir, rr, g1, g2, g3⟩ := fin_read hr
  rw [cr]
  have h1 : floatBits .mul .f32 r d = some (FloatKind.f32.format.nearest (s ^^ false) (mr * m) (ir + j)) := by
    simp only [floatBits, Format.mul, rr, rd, Datum.product]; rfl
  have hr1 : mr * 2 ^ (ir + 149).toNat ≤ 16777215 * 2 ^ 253 := Nat.mul_le_mul (by omega) (Nat.pow_le_pow_right (by omega) (by omega))
  have hb1 := scale_bound hr1 hm
  have e1 : (ir + 149).toNat + (j + 149).toNat = (ir + j - -298).toNat := by omega
  have e2 : 253 + 147 = (102 - -298 : Int).toNat := by decide
  rw [e1, e2] at hb1
  obtain ⟨m1, i1, q1, q2, q3⟩ := near_below (s ^^ false) (mr * m) 16777215 (ir + j) 102 (-298) (by omega) (by omega) (by omega) (by omega) (by omega) hb1
  have h2 : floatBits .mul .f32 (FloatKind.f32.format.nearest (s ^^ false) (mr * m) (ir + j)) 1082130432 = some (FloatKind.f32.format.nearest ((s ^^ false) ^^ false) (m1 * 8388608) (i1 + -21)) := by
    simp only [floatBits, Format.mul, q1, four_read, Datum.product]; rfl
  have h4 : 8388608 * 2 ^ 128 ≤ 2 ^ 151 := by
    have e23 : 8388608 = 2 ^ 23 := by decide
    rw [e23, ← Nat.pow_add]
    exact Nat.le_refl _
  have hb2 := scale_bound q3 h4
  have e3 : (i1 + 149).toNat + 128 = (i1 + -21 - -298).toNat := by omega
  have e4 : (102 + 149 : Int).toNat + 151 = (104 - -298 : Int).toNat := by decide
  rw [e3, e4] at hb2
  obtain ⟨m2, i2, p1, _, _⟩ := near_below ((s ^^ false) ^^ false) (m1 * 8388608) 16777215 (i1 + -21) 104 (-298) (by omega) (by omega) (by omega) (by omega) (by omega) hb2
  have f1 : fop .mul .f32 (some r) (some d) = some (FloatKind.f32.format.nearest (s ^^ false) (mr * m) (ir + j)) := h1
  have f2 : fop .mul .f32 (some (FloatKind.f32.format.nearest (s ^^ false) (mr * m) (ir + j))) (some 1082130432) = some (FloatKind.f32.format.nearest ((s ^^ false) ^^ false) (m1 * 8388608) (i1 + -21)) := h2
  rw [f1, f2]
  exact fin_of_read p1
/-- the end of a tune -/
def riseC (r X S : Option Nat) : Option Nat := if fcmp .gtr (ford .f32 X (some 1061158912)) then fop .add .f32 S (fop .mul .f32 (fop .mul .f32 r (fop .sub .f32 X (some 1061158912))) (some 1082130432)) else S
theorem rise_num {r x s : Nat} (hr : fin32 (cls .f32 r) = true) (hx : Unit x) (hs : nanW .f32 s = false) : ∃ z, riseC (cls .f32 r) (some x) (some s) = some z ∧ nanW .f32 z = false := by
  unfold riseC
  cases hg : fcmp .gtr (ford .f32 (some x) (some 1061158912))
  · exact ⟨s, rfl, hs⟩
  · simp only [if_true]
    obtain ⟨d, hd, m, j, rd, hj, hm⟩ := rise_part hx hg
    have e : fop .sub .f32 (some x) (some 1061158912) = some d := hd
    rw [e]
    exact add_num hs (rise_fin hr rd hj hm) mul_num
/-- the pitch before it is looked at, and the pitch -/
def pitchS (b f r : Option Nat) (ys : List Nat) (n : Nat) (T L : Option Nat) : Option Nat := riseC r (pitchX T L) (pitchK (pitch0 b f (pitchX T L)) T ys n)
def pitchG (S : Option Nat) : Option Nat := if fcmp .gtr (ford .f32 S (some 0)) then S else some 0
def pitchR (b f r : Option Nat) (ys : List Nat) (n : Nat) (T L : Option Nat) : Option Nat × Bool := if tuneV b f r ys n && (leastC T && areaC L) then (finR (pitchG (pitchS b f r ys n T L)), fin32 (pitchG (pitchS b f r ys n T L))) else (some 0, false)
theorem tune_parts {b f r : Option Nat} {ys : List Nat} {n : Nat} (h : tuneV b f r ys n = true) : n ≤ 8 ∧ areaC b = true ∧ shareC f = true ∧ fin32 r = true ∧ accsB ys n = true := by
  unfold tuneV at h
  simpa using h
theorem pitchS_num {b f r t l n : Nat} {ys : List Nat} (hV : tuneV (cls .f32 b) (cls .f32 f) (cls .f32 r) ys n = true) (ht : leastC (cls .f32 t) = true) (hl : areaC (cls .f32 l) = true) :
    fop .add .f32 (some 0) (pitch0 (cls .f32 b) (cls .f32 f) (pitchX (cls .f32 t) (cls .f32 l))) = pitch0 (cls .f32 b) (cls .f32 f) (pitchX (cls .f32 t) (cls .f32 l)) ∧
    fcmp .leq (ford .f32 (pitchS (cls .f32 b) (cls .f32 f) (cls .f32 r) ys n (cls .f32 t) (cls .f32 l)) (some 0)) = !fcmp .gtr (ford .f32 (pitchS (cls .f32 b) (cls .f32 f) (cls .f32 r) ys n (cls .f32 t) (cls .f32 l)) (some 0)) := by
  obtain ⟨_, h1, h2, h3, h4⟩ := tune_parts hV
  obtain ⟨x, hx, nx, ux⟩ := pitchX_unit ht hl
  obtain ⟨p, hp, np, hz⟩ := pitch0_ok h1 h2 ux
  have htf : fin32 (cls .f32 t) = true := by unfold leastC at ht; simp at ht; exact ht.2
  obtain ⟨s, hs, ns⟩ := pitchK_num np htf h4 n (Nat.le_refl _)
  obtain ⟨z, hz2, nz⟩ := rise_num h3 ux ns
  unfold pitchS
  rw [hx, hp, hs, hz2]
  exact ⟨hz, leq_not nz⟩

end Go.Proofs.Ythinjgiakaflpaa
