/- Flows of a throat are finite. -/
import Derived.Test.YtpmjiabllmomjaaP2
import Derived.Test.YtpmjiabllmomjaaBelow
namespace Go.Proofs.Ytpmjiabllmomjaa
open Go.RowKit Flt Ieee
set_option linter.unusedVariables false

/-- the class is that of a 32-bit number not greater than '2 ^ e' -/
def mag32 (x : Option Nat) (e : Int) : Prop := ∃ b s m i, x = some b ∧ FloatKind.f32.format.read b = .number s m i ∧ -149 ≤ i ∧ leP m i e
theorem near_mag32 (s : Bool) (m : Nat) (place e : Int) (h : leP m place e) (h0 : -149 ≤ e) (h1 : e ≤ 126) : mag32 (some (FloatKind.f32.format.nearest s m place)) e := by
  obtain ⟨m', i', g1, g2, _⟩ := near32 s m place e h h0 h1
  refine ⟨_, s, m', i', rfl, g1, ?_, g2⟩
  rcases read32 (FloatKind.f32.format.nearest s m place) (by rw [← read_nan, g1]; rfl) with ⟨s, hr⟩ | ⟨s, m3, e3, hr, _, hh, _⟩
  · rw [g1] at hr; cases hr
  · rw [g1] at hr; simp only [Datum.number.injEq] at hr; omega
theorem mag32_mono {x : Option Nat} {e e' : Int} (h : mag32 x e) (he : e ≤ e') : mag32 x e' := by
  obtain ⟨b, s, m, i, h1, h2, h3, h4⟩ := h
  exact ⟨b, s, m, i, h1, h2, h3, leP_mono h4 he⟩
theorem mag32_fin {x : Option Nat} {e : Int} (h : mag32 x e) : fin32 x = true := by
  obtain ⟨b, s, m, i, rfl, h2, _⟩ := h
  exact fin_of_read h2
theorem mag32_add {x y : Option Nat} {e f : Int} (hx : mag32 x e) (hy : mag32 y f) (h0 : -149 ≤ max e f + 1) (h1 : max e f + 1 ≤ 126) : mag32 (fop .add .f32 x y) (max e f + 1) := by
  obtain ⟨b, s, m, i, rfl, h2, _, h4⟩ := hx
  obtain ⟨c, t, n, j, rfl, g2, _, g4⟩ := hy
  obtain ⟨r, k, p, hs, hl⟩ := sum_le (s := s) (t := t) h4 g4
  have e1 : fop .add .f32 (some b) (some c) = some (FloatKind.f32.format.nearest r k p) := by
    simp only [fop, Option.bind_some, floatBits, Format.add, h2, g2, hs]; rfl
  rw [e1]
  exact near_mag32 r k p _ hl h0 h1
theorem mag32_mul {x y : Option Nat} {e f : Int} (hx : mag32 x e) (hy : mag32 y f) (h0 : -149 ≤ e + f) (h1 : e + f ≤ 126) : mag32 (fop .mul .f32 x y) (e + f) := by
  obtain ⟨b, s, m, i, rfl, h2, _, h4⟩ := hx
  obtain ⟨c, t, n, j, rfl, g2, _, g4⟩ := hy
  have e1 : fop .mul .f32 (some b) (some c) = some (FloatKind.f32.format.nearest (s ^^ t) (m * n) (i + j)) := by
    simp only [fop, Option.bind_some, floatBits, Format.mul, h2, g2]; rfl
  rw [e1]
  exact near_mag32 _ _ _ _ (leP_mul h4 g4) h0 h1
theorem mag32_num (c : Nat) (s : Bool) (m : Nat) (i e : Int) (h : FloatKind.f32.format.read c = .number s m i) (hi : -149 ≤ i) (hl : i ≤ e ∧ m ≤ 2 ^ (e - i).toNat) : mag32 (some c) e := ⟨c, s, m, i, rfl, h, hi, .inr hl⟩
theorem mag32_half : mag32 (some 1056964608) (-1) := mag32_num _ false (2 ^ 23) (-24) (-1) (by decide) (by omega) (by decide)
theorem mag32_quarter : mag32 (some 1048576000) (-2) := mag32_num _ false (2 ^ 23) (-25) (-2) (by decide) (by omega) (by decide)
theorem mag32_one : mag32 (some 1065353216) 0 := mag32_num _ false (2 ^ 23) (-23) 0 (by decide) (by omega) (by decide)
/-- the quotient of a number and one that is not less is at most 1 -/
theorem quo_mag {b c : Nat} {s : Bool} {m n : Nat} {i j : Int} (h1 : FloatKind.f32.format.read b = .number s m i) (h2 : FloatKind.f32.format.read c = .number false n j) (hn : n ≠ 0) (hm : m < 16777216) (hi : -149 ≤ i) (hj : -149 ≤ j) (h : m * 2 ^ (i + 149).toNat ≤ n * 2 ^ (j + 149).toNat) :
    mag32 (fop .quo .f32 (some b) (some c)) 0 := by
  have key : ∃ r k p, (Datum.number s m i).quotient (FloatKind.f32.format.fractionBits + 2) (Datum.number false n j) = some (.number r k p) ∧ leP k p 0 := by
    by_cases h0 : m = 0
    · obtain ⟨r, k, p, hs, hl⟩ := quot_le (s := s) (t := false) (m := m) (n := n) (i := i) (j := j) (e := j) (f := j) (.inl h0) ⟨hn, by simp; omega⟩ (FloatKind.f32.format.fractionBits + 2)
      exact ⟨r, k, p, hs, by simpa using hl⟩
    · have l1 : 2 ^ m.log2 ≤ m := Nat.log2_self_le h0
      have l2 : n < 2 ^ (n.log2 + 1) := Nat.lt_log2_self
      have l3 : m.log2 < 24 := log2_lt (n := 24) hm h0
      have e25 : FloatKind.f32.format.fractionBits + 2 = 25 := by decide
      rw [e25]
      have hlog : m.log2 + (i + 149).toNat ≤ n.log2 + (j + 149).toNat := by
        have a1 : 2 ^ (m.log2 + (i + 149).toNat) ≤ m * 2 ^ (i + 149).toNat := by rw [Nat.pow_add]; exact Nat.mul_le_mul_right _ l1
        have a2 : n * 2 ^ (j + 149).toNat < 2 ^ (n.log2 + 1 + (j + 149).toNat) := by rw [Nat.pow_add]; exact Nat.mul_lt_mul_of_pos_right l2 (Nat.two_pow_pos _)
        have a3 := (Nat.pow_lt_pow_iff_right (a := 2) (by omega)).1 (Nat.lt_of_le_of_lt (Nat.le_trans a1 h) a2)
        omega
      generalize hmore : 25 + n.log2 - m.log2 = more
      obtain ⟨E, hE⟩ : ∃ E : Nat, (more : Int) + j - i = (E : Int) := ⟨((more : Int) + j - i).toNat, by omega⟩
      have hd : m * 2 ^ more ≤ n * 2 ^ E := by
        refine Nat.le_of_mul_le_mul_right (c := 2 ^ (i + 149).toNat) ?_ (Nat.two_pow_pos _)
        have e1 : m * 2 ^ more * 2 ^ (i + 149).toNat = m * 2 ^ (i + 149).toNat * 2 ^ more := by rw [Nat.mul_assoc, Nat.mul_assoc, Nat.mul_comm (2 ^ more)]
        have e2 : n * 2 ^ E * 2 ^ (i + 149).toNat = n * 2 ^ (j + 149).toNat * 2 ^ more := by
          rw [Nat.mul_assoc, Nat.mul_assoc, ← Nat.pow_add, ← Nat.pow_add]; congr 2; omega
        rw [e1, e2]
        exact Nat.mul_le_mul_right _ h
      refine ⟨s ^^ false, 2 * ((m <<< more) / n) + ((m <<< more) % n != 0).toNat, i - j - more - 1, ?_, ?_⟩
      · simp only [Datum.quotient, hmore]
        rw [if_neg hn]
      · right
        refine ⟨by omega, ?_⟩
        have e3 : (0 - (i - j - (more : Int) - 1)).toNat = E + 1 := by omega
        rw [e3, Nat.shiftLeft_eq, Nat.pow_succ]
        generalize m * 2 ^ more = D at hd
        generalize 2 ^ E = T at hd
        have hq : D / n ≤ T := Nat.div_le_of_le_mul hd
        rcases Nat.lt_or_eq_of_le hq with h5 | h5
        · have : ∀ c : Bool, c.toNat ≤ 1 := by intro c; cases c <;> decide
          have := this (D % n != 0)
          omega
        · have h6 : D % n = 0 := by
            have := Nat.div_add_mod D n
            rw [h5] at this
            omega
          rw [h5, h6]
          simp
          omega
  obtain ⟨r, k, p, hs, hl⟩ := key
  have e1 : fop .quo .f32 (some b) (some c) = some (FloatKind.f32.format.nearest r k p) := by
    simp only [fop, Option.bind_some, floatBits, Format.div, h1, h2, hs]; rfl
  rw [e1]
  exact near_mag32 r k p 0 hl (by omega) (by omega)
/-- the sine of a small number of turns -/
theorem sine_mag {x r : Option Nat} (hx : mag32 x 1) (h : sineResult x r) : mag32 r 126 := by
  have hf := mag32_fin hx
  rcases h with ⟨h1, _⟩ | ⟨_, _, rfl⟩ | ⟨_, _, n, hn, rfl⟩
  · rw [hf] at h1; cases h1
  · exact mag32_num 0 false 0 (-149) 126 (by decide) (by omega) ⟨by omega, Nat.zero_le _⟩
  · obtain ⟨b, s, m, i, rfl, h2, h3, h4⟩ := hx
    have e2 : fwide (some b) = some (FloatKind.f64.format.nearest s m i) := by
      show some (wide b) = _
      congr 1
      simp only [wide, FloatKind.decode, FloatKind.encode, h2]; rfl
    obtain ⟨c, s2, m2, i2, hc, k2, k3, k4⟩ := near_mag s m i 1 h4 (by omega) (by omega)
    have hc' : FloatKind.f64.format.nearest s m i = c := Option.some.inj hc
    rw [e2, hc'] at hn ⊢
    obtain ⟨n', hn', hm'⟩ := trunc_sub c s2 m2 i2 k2 k3 (leP_mono k4 (by omega))
    have : n' = n := Option.some.inj (hn'.symm.trans (hn c rfl))
    subst this
    obtain ⟨d, s3, m3, i3, hd, j2, j3, j4⟩ := mag_sine (mag_frac hm')
    rw [hd]
    have e3 : fnar (some d) = some (FloatKind.f32.format.nearest s3 m3 i3) := by
      show some (nar d) = _
      congr 1
      simp only [nar, FloatKind.decode, FloatKind.encode, j2]; rfl
    rw [e3]
    exact near_mag32 s3 m3 i3 126 j4 (by omega) (by omega)
theorem sine_ex {x : Option Nat} (hx : mag32 x 1) : ∃ r, sineResult x r := by
  have hf := mag32_fin hx
  cases hg : fcmp .geq (ford .f64 (fabs (fwide x)) (some 4841369599423283200))
  · obtain ⟨b, s, m, i, rfl, h2, h3, h4⟩ := hx
    have e2 : fwide (some b) = some (FloatKind.f64.format.nearest s m i) := by
      show some (wide b) = _
      congr 1
      simp only [wide, FloatKind.decode, FloatKind.encode, h2]; rfl
    obtain ⟨c, s2, m2, i2, hc, k2, k3, k4⟩ := near_mag s m i 1 h4 (by omega) (by omega)
    have hc' : FloatKind.f64.format.nearest s m i = c := Option.some.inj hc
    obtain ⟨n', hn', hm'⟩ := trunc_sub c s2 m2 i2 k2 k3 (leP_mono k4 (by omega))
    refine ⟨_, .inr (.inr ⟨hf, hg, n', ?_, rfl⟩)⟩
    intro d hd
    rw [e2, hc'] at hd
    cases hd
    exact hn'
  · exact ⟨_, .inr (.inl ⟨hf, hg, rfl⟩)⟩
theorem sineF_mag {x : Option Nat} (hx : mag32 x 1) : mag32 (sineF x) 126 := by
  obtain ⟨r, hr⟩ := sine_ex hx
  rw [sineF_of hr]
  exact sine_mag hx hr
theorem pow24 {a b : Nat} (h : a = b + 24) : 2 ^ a = 16777216 * 2 ^ b := by
  subst h
  have : (2 : Nat) ^ 24 = 16777216 := by decide
  rw [Nat.pow_add, Nat.mul_comm, this]
/-- 1 less a sine, halved -/
theorem half_fin {S : Option Nat} (hS : mag32 S 126) : fin32 (fop .mul .f32 (some 1056964608) (fop .sub .f32 (some 1065353216) S)) = true := by
  obtain ⟨c, t, n, j, rfl, g2, g3, g4⟩ := hS
  have r1 : FloatKind.f32.format.read 1065353216 = .number false (2 ^ 23) (-23) := by decide
  have r2 : FloatKind.f32.format.read 1056964608 = .number false (2 ^ 23) (-24) := by decide
  have l1 : leP (2 ^ 23) (-23) 0 := .inr ⟨by omega, by decide⟩
  obtain ⟨r, k, p, hs, hl⟩ := sum_le (s := false) (t := !t) l1 g4
  have e1 : fop .sub .f32 (some 1065353216) (some c) = some (FloatKind.f32.format.nearest r k p) := by
    simp only [fop, Option.bind_some, floatBits, Format.sub, r1, g2, Datum.opposite, hs]; rfl
  have hN : (8388608 : Nat) = 2 ^ 23 := by decide
  obtain ⟨m', i', h1, h2, h3⟩ := near_below r k 8388608 p 104 (min p (-149)) (by omega) (by omega) (by omega) (by omega) (by omega) (by
    rw [hN, ← Nat.pow_add]
    rcases hl with hl | ⟨hl, hk⟩
    · rw [hl, Nat.zero_mul]; exact Nat.zero_le _
    · refine Nat.le_trans (Nat.mul_le_mul_right _ hk) ?_
      rw [← Nat.pow_add]
      exact Nat.pow_le_pow_right (by omega) (by omega))
  rw [e1]
  have e2 : fop .mul .f32 (some 1056964608) (some (FloatKind.f32.format.nearest r k p)) = some (FloatKind.f32.format.nearest (false ^^ r) (2 ^ 23 * m') (-24 + i')) := by
    simp only [fop, Option.bind_some, floatBits, Format.mul, r2, h1]; rfl
  rw [e2]
  obtain ⟨m2, i2, k1, _⟩ := near_below (false ^^ r) (2 ^ 23 * m') 8388608 (-24 + i') 104 (-173) (by omega) (by omega) (by omega) (by omega) (by omega) (by
    have e4 : (-24 + i' - -173).toNat = (i' + 149).toNat := by omega
    have hT : ∃ T : Nat, 2 ^ (104 + 149 : Int).toNat = T ∧ 2 ^ (104 - -173 : Int).toNat = 16777216 * T := ⟨_, rfl, pow24 (by decide)⟩
    obtain ⟨T, t1, t2⟩ := hT
    rw [e4, t2, Nat.mul_assoc]
    rw [t1] at h3
    refine Nat.le_trans (Nat.mul_le_mul_left _ h3) ?_
    have : (2 : Nat) ^ 23 = 8388608 := by decide
    rw [this]
    omega)
  exact fin_of_read k1
theorem lss_num {b c m n : Nat} {s : Bool} {i j : Int} (h1 : FloatKind.f32.format.read b = .number s m i) (h2 : FloatKind.f32.format.read c = .number false n j) (hs : s = false ∨ m = 0) (hi : -149 ≤ i) (hj : -149 ≤ j) :
    fcmp .lss (ford .f32 (some b) (some c)) = decide (m * 2 ^ (i + 149).toNat < n * 2 ^ (j + 149).toNat) := by
  have ho : FloatKind.f32.format.order b c = some (compare (signed s m (i - -149).toNat) (signed false n (j - -149).toNat)) := by
    unfold Format.order; rw [h1, h2]; exact order_num s false m n i j (-149) hi hj
  have ea : signed s m (i - -149).toNat = ((m * 2 ^ (i + 149).toNat : Nat) : Int) := by
    have e1 : (i - -149).toNat = (i + 149).toNat := by omega
    rw [e1]
    unfold signed
    rcases hs with rfl | rfl
    · simp [Nat.shiftLeft_eq]
    · cases s <;> simp
  have eb : signed false n (j - -149).toNat = ((n * 2 ^ (j + 149).toNat : Nat) : Int) := by
    have e1 : (j - -149).toNat = (j + 149).toNat := by omega
    rw [e1]
    unfold signed
    simp [Nat.shiftLeft_eq]
  rw [ea, eb] at ho
  generalize m * 2 ^ (i + 149).toNat = M at ho ⊢
  generalize n * 2 ^ (j + 149).toNat = N at ho ⊢
  rcases Nat.lt_trichotomy M N with h | h | h
  · rw [compare_lt (by omega)] at ho
    simp [fcmp, ford, ho, h]
  · rw [compare_eq (by omega)] at ho
    simp [fcmp, ford, ho, h]
  · rw [compare_gt (by omega)] at ho
    simp [fcmp, ford, ho, show ¬ M < N from by omega]
end Go.Proofs.Ytpmjiabllmomjaa
