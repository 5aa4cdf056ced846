/- The quotient of a difference and a sum of positive 32-bit numbers is finite. -/
import Derived.Test.YthinjgiakaflpabMag2
import Derived.Test.YthinjgiakaflpabIs
namespace Go.Proofs.Ythinjgiakaflpab.Flt
open Ieee Go.RowKit
set_option linter.unusedVariables false

theorem f32_lp : FloatKind.f32.format.leastPlace = -149 := by decide
theorem f32_bin : FloatKind.f32.format.binade = 8388608 := by decide
theorem f32_inf : FloatKind.f32.format.infRung = 2139095040 := by decide
theorem f32_frac : FloatKind.f32.format.fractionBits = 23 := by decide
theorem near32 (s : Bool) (m : Nat) (place e : Int) (h : leP m place e) (h0 : -149 ≤ e) (h1 : e ≤ 126) :
    ∃ m' i', FloatKind.f32.format.read (FloatKind.f32.format.nearest s m place) = .number s m' i' ∧ leP m' i' e ∧ (m ≠ 0 → ∀ e0 : Int, -149 ≤ e0 → geP m place e0 → geP m' i' e0) := by
  have := nearest_le FloatKind.f32.format (binade_le .f32) s m place e h (by rw [f32_lp]; exact h0) (f32_cond e h1)
  rw [f32_lp] at this
  obtain ⟨m', i', g1, g2, g3, g4⟩ := this
  exact ⟨m', i', g1, g2, g4⟩

theorem word_big (x : Nat) (hmin2 : 2113929216 ≤ x) (hmin : x ≤ 2139095040) :
    FloatKind.f32.format.read (FloatKind.f32.format.word false x) = .infinity false ∨ ∃ m' i', FloatKind.f32.format.read (FloatKind.f32.format.word false x) = .number false m' i' ∧ geP m' i' 125 := by
  have hS : FloatKind.f32.format.signWeight = 2147483648 := by decide
  unfold Format.word Format.read
  simp only [Bool.false_eq_true, if_false]
  rw [hS, f32_inf, f32_bin, f32_lp]
  have e1 : x % 2147483648 = x := Nat.mod_eq_of_lt (by omega)
  have e2 : (x / 2147483648 % 2 == 1) = false := by
    rw [Nat.div_eq_of_lt (by omega)]; rfl
  rw [e1, e2, if_neg (by omega)]
  by_cases h2 : x < 2139095040
  · rw [if_pos h2]
    right
    refine ⟨_, _, rfl, by omega, ?_⟩
    have h3 : 252 ≤ x / 8388608 := by omega
    have e3 : (125 - (-149 + ((x / 8388608 - 1 : Nat) : Int))).toNat ≤ 23 := by omega
    have := Nat.pow_le_pow_right (n := 2) (by omega) e3
    have e4 : (2 : Nat) ^ 23 = 8388608 := by decide
    omega
  · rw [if_neg h2, if_pos (by omega)]
    exact .inl rfl

set_option maxRecDepth 100000 in
/-- what is great is rounded to what is great, or to infinity -/
theorem near_big (m : Nat) (place : Int) (h : geP m place 125) :
    FloatKind.f32.format.read (FloatKind.f32.format.nearest false m place) = .infinity false ∨ ∃ m' i', FloatKind.f32.format.read (FloatKind.f32.format.nearest false m place) = .number false m' i' ∧ geP m' i' 125 := by
  have hl := geP_log h
  have hm := h.1
  have hl1 : 2 ^ m.log2 ≤ m := Nat.log2_self_le hm
  unfold Format.nearest
  rw [if_neg hm, f32_lp, f32_inf, f32_frac, f32_bin]
  dsimp only
  generalize hL : max (place + (m.log2 : Int) - ((23 : Nat) : Int)) (-149 : Int) = last
  have hlast : last = place + m.log2 - 23 := by omega
  generalize hK : Toward.even.cut false (m <<< (place - last).toNat) (last - place).toNat = kept
  have hk : 8388608 ≤ kept := by
    rw [← hK]
    refine le_cut _ _ _ _ ?_
    rw [Nat.shiftLeft_eq]
    have e0 : (8388608 : Nat) = 2 ^ 23 := by decide
    rw [e0, ← Nat.pow_add]
    by_cases hc : last ≤ place
    · have e1 : (last - place).toNat = 0 := by omega
      have e2 : 23 + 0 = m.log2 + (place - last).toNat := by omega
      rw [e1, e2, Nat.pow_add]
      exact Nat.mul_le_mul_right _ hl1
    · have e1 : (place - last).toNat = 0 := by omega
      have e2 : 23 + (last - place).toNat = m.log2 := by omega
      rw [e1, e2, Nat.pow_zero, Nat.mul_one]
      exact hl1
  have hq : 251 ≤ (last - (-149 : Int)).toNat := by omega
  have hr : 251 * 8388608 + 8388608 ≤ (last - (-149 : Int)).toNat * 8388608 + kept := by
    have := Nat.mul_le_mul_right 8388608 hq
    omega
  generalize (last - (-149 : Int)).toNat = Q at hr
  exact word_big _ (Nat.le_min.2 ⟨by omega, by omega⟩) (Nat.min_le_right _ _)

/-- what is not greater than a number is rounded to a number -/
theorem near_fin (s : Bool) (m N : Nat) (place p : Int) (hN : N < 16777216) (hp0 : -149 ≤ p) (hp1 : p ≤ 104) (hpl : -149 ≤ place) (h : m * 2 ^ (place + 149).toNat ≤ N * 2 ^ (p + 149).toNat) :
    ∃ m' i', FloatKind.f32.format.read (FloatKind.f32.format.nearest s m place) = .number s m' i' ∧ leP m' i' 129 := by
  have hB0 := f32_bin
  by_cases hm : m = 0
  · subst hm
    obtain ⟨m', i', h1, h2, _⟩ := near32 s 0 place 0 (.inl rfl) (by omega) (by omega)
    exact ⟨m', i', h1, leP_mono h2 (by omega)⟩
  · have hl1 : 2 ^ m.log2 ≤ m := Nat.log2_self_le hm
    have hl2 : m < 2 ^ (m.log2 + 1) := Nat.lt_log2_self
    have hN0 : (16777216 : Nat) = 2 ^ 24 := by decide
    have hlp : place + m.log2 < p + 24 := by
      have g1 : 2 ^ (m.log2 + (place + 149).toNat) ≤ m * 2 ^ (place + 149).toNat := by rw [Nat.pow_add]; exact Nat.mul_le_mul_right _ hl1
      have g2 : N * 2 ^ (p + 149).toNat < 2 ^ (24 + (p + 149).toNat) := by
        rw [Nat.pow_add, ← hN0]
        exact Nat.mul_lt_mul_of_pos_right hN (Nat.two_pow_pos _)
      have g3 := (Nat.pow_lt_pow_iff_right (a := 2) (by omega)).1 (Nat.lt_of_le_of_lt (Nat.le_trans g1 h) g2)
      omega
    generalize hL : max (place + (m.log2 : Int) - ((23 : Nat) : Int)) (-149 : Int) = last
    obtain ⟨q, hq⟩ : ∃ q : Nat, last = -149 + q := ⟨(last + 149).toNat, by omega⟩
    generalize hK : Toward.even.cut s (m <<< (place - last).toNat) (last - place).toNat = kept
    have k1 : kept ≤ N * 2 ^ (p - last).toNat := by
      rw [← hK]
      refine cut_le _ _ _ _ ?_
      rw [Nat.shiftLeft_eq]
      refine Nat.le_of_mul_le_mul_right (c := 2 ^ (min place last + 149).toNat) ?_ (Nat.two_pow_pos _)
      have e1 : m * 2 ^ (place - last).toNat * 2 ^ (min place last + 149).toNat = m * 2 ^ (place + 149).toNat := by
        rw [Nat.mul_assoc, ← Nat.pow_add]; congr 2; omega
      have e2 : N * 2 ^ (p - last).toNat * 2 ^ (last - place).toNat * 2 ^ (min place last + 149).toNat = N * 2 ^ (p + 149).toNat := by
        rw [Nat.mul_assoc, Nat.mul_assoc, ← Nat.pow_add, ← Nat.pow_add]; congr 2; omega
      rw [e1, e2]; exact h
    have k2 : kept ≤ 16777216 := by
      rw [← hK, hN0]
      refine cut_le _ _ _ _ ?_
      rw [Nat.shiftLeft_eq, ← Nat.pow_add]
      have g : m * 2 ^ (place - last).toNat ≤ 2 ^ (m.log2 + 1) * 2 ^ (place - last).toNat := Nat.mul_le_mul_right _ (Nat.le_of_lt hl2)
      rw [← Nat.pow_add] at g
      exact Nat.le_trans g (Nat.pow_le_pow_right (by omega) (by omega))
    have k3 : q = 0 ∨ 8388608 ≤ kept := by
      by_cases hq0 : q = 0
      · exact .inl hq0
      · right
        have hlast : last = place + m.log2 - 23 := by omega
        rw [← hK]
        refine le_cut _ _ _ _ ?_
        rw [Nat.shiftLeft_eq]
        have e0 : (8388608 : Nat) = 2 ^ 23 := by decide
        rw [e0, ← Nat.pow_add]
        by_cases hc : last ≤ place
        · have e1 : (last - place).toNat = 0 := by omega
          have e2 : 23 + 0 = m.log2 + (place - last).toNat := by omega
          rw [e1, e2, Nat.pow_add]
          exact Nat.mul_le_mul_right _ hl1
        · have e1 : (place - last).toNat = 0 := by omega
          have e2 : 23 + (last - place).toNat = m.log2 := by omega
          rw [e1, e2, Nat.pow_zero, Nat.mul_one]
          exact hl1
    have hrung : q * 8388608 + kept < 2139095040 := by
      by_cases hc : q ≤ 252
      · omega
      · have hq3 : q = 253 := by omega
        have e1 : (p - last).toNat = 0 := by omega
        rw [e1] at k1
        omega
    have hw : FloatKind.f32.format.nearest s m place = FloatKind.f32.format.word s (q * 8388608 + kept) := by
      unfold Format.nearest
      rw [if_neg hm, f32_lp, f32_inf, f32_frac, f32_bin]
      dsimp only
      rw [hL, hK]
      congr 1
      have e4 : (last - (-149 : Int)).toNat = q := by omega
      rw [e4]
      exact Nat.min_eq_left (Nat.le_of_lt hrung)
    rw [hw]
    have := read_rung FloatKind.f32.format (binade_le .f32) s q kept (by rw [f32_bin]; exact k3) (by rw [f32_bin]; omega) (by rw [f32_bin, f32_inf]; exact hrung)
    rw [f32_bin, f32_lp] at this
    obtain ⟨m', i', hr, hi, hi2, hv, hz, hcase⟩ := this
    refine ⟨m', i', hr, .inr ⟨by omega, ?_⟩⟩
    have h5 : (24 : Nat) ≤ (129 - i').toNat := by omega
    have h6 := Nat.pow_le_pow_right (n := 2) (by omega) h5
    omega

/-- a finite number above 0 -/
theorem area_num (w : Nat) (h1 : fcmp .gtr (ford .f32 (cls .f32 w) (some 0)) = true) (h2 : fin32 (cls .f32 w) = true) :
    ∃ m i, cls .f32 w = some w ∧ FloatKind.f32.format.read w = .number false m i ∧ m ≠ 0 ∧ m < 16777216 ∧ -149 ≤ i ∧ i ≤ 104 := by
  cases hc : cls .f32 w with
  | none => rw [hc] at h2; simp [fin32] at h2
  | some b =>
    have hn := cls_ok .f32 w b hc
    have hb : w = b := by
      unfold cls at hc
      split at hc
      · cases hc
      · exact Option.some.inj hc
    subst hb
    rw [hc] at h1 h2
    have hz : FloatKind.f32.format.read 0 = .number false 0 (-149) := by decide
    have hgt : FloatKind.f32.format.order w 0 = some .gt := by
      simpa [ford, fcmp] using h1
    unfold Format.order at hgt
    rw [hz] at hgt
    unfold fin32 at h2
    dsimp only at h2
    rcases read32 w hn with ⟨s, hr⟩ | ⟨s, m, i, hr, g1, g2, g3⟩
    · rw [hr] at h2; simp [Datum.isInfinity] at h2
    · rw [hr, order_num s false m 0 i (-149) (-149) g2 (by omega)] at hgt
      have h3 : compare (signed s m (i - -149).toNat) (signed false 0 (-149 - -149 : Int).toNat) = .gt := Option.some.inj hgt
      have e0 : signed false 0 (-149 - -149 : Int).toNat = 0 := by decide
      rw [e0, Int.compare_eq_gt] at h3
      unfold signed at h3
      have hs : s = false := by
        cases s
        · rfl
        · exfalso
          simp only [if_true] at h3
          generalize m <<< (i - -149).toNat = M at h3
          omega
      subst hs
      refine ⟨m, i, rfl, hr, ?_, by omega, g2, g3⟩
      rintro rfl
      simp at h3

theorem sum_pos (m n : Nat) (i j : Int) (hm : m ≠ 0) :
    (Datum.number false m i).sum (Datum.number false n j) = some (.number false (m * 2 ^ (i - min i j).toNat + n * 2 ^ (j - min i j).toNat) (min i j)) := by
  have hp : 0 < m * 2 ^ (i - min i j).toNat := Nat.mul_pos (Nat.pos_of_ne_zero hm) (Nat.two_pow_pos _)
  simp only [Datum.sum, signed, Bool.false_eq_true, if_false, Nat.shiftLeft_eq]
  generalize m * 2 ^ (i - min i j).toNat = A at hp
  generalize n * 2 ^ (j - min i j).toNat = B
  have h1 : ((A : Int) + (B : Int)).natAbs = A + B := by omega
  rw [if_neg (by omega), h1]
  have h2 : decide ((A : Int) + (B : Int) < 0) = false := by simp; omega
  rw [h2]
theorem sum_dif (m n : Nat) (i j : Int) :
    ∃ s k, (Datum.number false m i).sum (Datum.number true n j) = some (.number s k (min i j)) ∧ (k ≤ m * 2 ^ (i - min i j).toNat ∨ k ≤ n * 2 ^ (j - min i j).toNat) := by
  refine ⟨_, _, rfl, ?_⟩
  simp only [signed, Bool.false_eq_true, if_false, if_true, Nat.shiftLeft_eq]
  generalize m * 2 ^ (i - min i j).toNat = A
  generalize n * 2 ^ (j - min i j).toNat = B
  omega
theorem fin_of_read {b m : Nat} {s : Bool} {i : Int} (h : FloatKind.f32.format.read b = .number s m i) : fin32 (some b) = true := by
  show (!(FloatKind.f32.format.read b).isInfinity) = true
  rw [h]; rfl
theorem quo_inf {x y : Nat} {s t : Bool} {m : Nat} {i : Int} (h1 : FloatKind.f32.format.read x = .number s m i) (h2 : FloatKind.f32.format.read y = .infinity t) : fin32 (fop .quo .f32 (some x) (some y)) = true := by
  have e1 : fop .quo .f32 (some x) (some y) = some (FloatKind.f32.format.nearest (s ^^ t) 0 0) := by
    simp only [fop, Option.bind_some, floatBits, Format.div, h1, h2, Datum.quotient, Option.map_some]; rfl
  rw [e1]
  obtain ⟨m', i', h3, _⟩ := near32 (s ^^ t) 0 0 0 (.inl rfl) (by omega) (by omega)
  exact fin_of_read h3
theorem quo_num {x y : Nat} {s t : Bool} {m n : Nat} {i j e f : Int} (h1 : FloatKind.f32.format.read x = .number s m i) (h2 : FloatKind.f32.format.read y = .number t n j) (k1 : leP m i e) (k2 : geP n j f) (k3 : -149 ≤ e - f) (k4 : e - f ≤ 126) : fin32 (fop .quo .f32 (some x) (some y)) = true := by
  obtain ⟨r, k, p, hs, hl⟩ := quot_le (s := s) (t := t) k1 k2 (FloatKind.f32.format.fractionBits + 2)
  have e1 : fop .quo .f32 (some x) (some y) = some (FloatKind.f32.format.nearest r k p) := by
    simp only [fop, Option.bind_some, floatBits, Format.div, h1, h2, hs, Option.map_some]; rfl
  rw [e1]
  obtain ⟨m', i', h3, _⟩ := near32 r k p _ hl k3 k4
  exact fin_of_read h3

theorem refl_fin (u v : Nat) (h1 : fcmp .gtr (ford .f32 (cls .f32 u) (some 0)) = true) (h2 : fin32 (cls .f32 u) = true) (h3 : fcmp .gtr (ford .f32 (cls .f32 v) (some 0)) = true) (h4 : fin32 (cls .f32 v) = true) :
    fin32 (fop .quo .f32 (fop .sub .f32 (cls .f32 u) (cls .f32 v)) (fop .add .f32 (cls .f32 u) (cls .f32 v))) = true := by
  obtain ⟨m, i, eu, ru, m0, m1, i0, i1⟩ := area_num u h1 h2
  obtain ⟨n, j, ev, rv, n0, n1, j0, j1⟩ := area_num v h3 h4
  rw [eu, ev]
  have ha : fop .add .f32 (some u) (some v) = some (FloatKind.f32.format.nearest false (m * 2 ^ (i - min i j).toNat + n * 2 ^ (j - min i j).toNat) (min i j)) := by
    simp only [fop, Option.bind_some, floatBits, Format.add, ru, rv, sum_pos m n i j m0, Option.map_some]; rfl
  obtain ⟨s, k, hd, hk⟩ := sum_dif m n i j
  have hb : fop .sub .f32 (some u) (some v) = some (FloatKind.f32.format.nearest s k (min i j)) := by
    simp only [fop, Option.bind_some, floatBits, Format.sub, ru, rv, Datum.opposite, Bool.not_false, hd, Option.map_some]; rfl
  rw [ha, hb]
  have hA : m * 2 ^ (i - min i j).toNat * 2 ^ (min i j + 149).toNat = m * 2 ^ (i + 149).toNat := by
    rw [Nat.mul_assoc, ← Nat.pow_add]; congr 2; omega
  have hB : n * 2 ^ (j - min i j).toNat * 2 ^ (min i j + 149).toNat = n * 2 ^ (j + 149).toNat := by
    rw [Nat.mul_assoc, ← Nat.pow_add]; congr 2; omega
  have hp : -149 ≤ min i j := by omega
  have hA0 : 0 < m * 2 ^ (i - min i j).toNat := Nat.mul_pos (Nat.pos_of_ne_zero m0) (Nat.two_pow_pos _)
  generalize m * 2 ^ (i - min i j).toNat = A at *
  generalize n * 2 ^ (j - min i j).toNat = B at *
  generalize min i j = p at *
  have hl1 : 2 ^ (A + B).log2 ≤ A + B := Nat.log2_self_le (by omega)
  have hl2 : A + B < 2 ^ ((A + B).log2 + 1) := Nat.lt_log2_self
  generalize hL : (A + B).log2 = L at hl1 hl2
  have hge : geP (A + B) p (p + L) := ⟨by omega, by
    have e1 : (p + (L : Int) - p).toNat = L := by omega
    rw [e1]; exact hl1⟩
  by_cases hc : p + (L : Int) ≤ 124
  · have e2 : (p + (L : Int) + 1 - p).toNat = L + 1 := by omega
    obtain ⟨m1', i1', r1, _, g1⟩ := near32 false (A + B) p (p + L + 1) (.inr ⟨by omega, by rw [e2]; omega⟩) (by omega) (by omega)
    obtain ⟨m2', i2', r2, g2, _⟩ := near32 s k p (p + L + 1) (.inr ⟨by omega, by rw [e2]; omega⟩) (by omega) (by omega)
    exact quo_num r2 r1 g2 (g1 (by omega) (p + L) (by omega) hge) (by omega) (by omega)
  · have hge2 : geP (A + B) p 125 := ⟨hge.1, Nat.le_trans (Nat.pow_le_pow_right (by omega) (by omega)) hge.2⟩
    obtain ⟨m2', i2', r2, g2⟩ : ∃ m' i', FloatKind.f32.format.read (FloatKind.f32.format.nearest s k p) = .number s m' i' ∧ leP m' i' 129 := by
      rcases hk with hk | hk
      · exact near_fin s k m p i m1 i0 i1 hp (by rw [← hA]; exact Nat.mul_le_mul_right _ hk)
      · exact near_fin s k n p j n1 j0 j1 hp (by rw [← hB]; exact Nat.mul_le_mul_right _ hk)
    rcases near_big (A + B) p hge2 with r1 | ⟨m1', i1', r1, g1⟩
    · exact quo_inf r2 r1
    · exact quo_num r2 r1 g2 g1 (by omega) (by omega)

end Go.Proofs.Ythinjgiakaflpab.Flt
