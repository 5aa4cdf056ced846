/- Bounds of 64-bit numbers by classes. -/
import Derived.Test.YthinjgiakaflpabMag
namespace Go.Proofs.Ythinjgiakaflpab.Flt
open Ieee Go.RowKit

theorem f64_lp : FloatKind.f64.format.leastPlace = -1074 := by decide
theorem f64_cond (e : Int) (h : e ≤ 1022) : (e - FloatKind.f64.format.fractionBits - FloatKind.f64.format.leastPlace).toNat + 2 < 2 ^ FloatKind.f64.format.exponentBits - 1 := by
  have e1 : (FloatKind.f64.format.fractionBits : Int) = 52 := by decide
  have e2 : 2 ^ FloatKind.f64.format.exponentBits - 1 = 2047 := by decide
  rw [f64_lp, e1, e2]; omega
theorem f32_cond (e : Int) (h : e ≤ 126) : (e - FloatKind.f32.format.fractionBits - FloatKind.f32.format.leastPlace).toNat + 2 < 2 ^ FloatKind.f32.format.exponentBits - 1 := by
  have e0 : FloatKind.f32.format.leastPlace = -149 := by decide
  have e1 : (FloatKind.f32.format.fractionBits : Int) = 23 := by decide
  have e2 : 2 ^ FloatKind.f32.format.exponentBits - 1 = 255 := by decide
  rw [e0, e1, e2]; omega

/-- the class is that of a number of at most '2 ^ e' -/
def magC (x : Option Nat) (e : Int) : Prop := ∃ b s m i, x = some b ∧ FloatKind.f64.format.read b = .number s m i ∧ -1074 ≤ i ∧ leP m i e
/-- the class is that of a number that is not below 0, at least '2 ^ e' -/
def posC (x : Option Nat) (e : Int) : Prop := ∃ b m i, x = some b ∧ FloatKind.f64.format.read b = .number false m i ∧ -1074 ≤ i ∧ geP m i e
/-- the class is that of a number with no sign -/
def nnC (x : Option Nat) : Prop := ∃ b m i, x = some b ∧ FloatKind.f64.format.read b = .number false m i ∧ -1074 ≤ i

theorem magC_mono {x : Option Nat} {e e' : Int} (h : magC x e) (he : e ≤ e') : magC x e' := by
  obtain ⟨b, s, m, i, h1, h2, h3, h4⟩ := h
  exact ⟨b, s, m, i, h1, h2, h3, leP_mono h4 he⟩

theorem near64 (s : Bool) (m : Nat) (place e : Int) (h : leP m place e) (h0 : -1074 ≤ e) (h1 : e ≤ 1022) :
    ∃ m' i', FloatKind.f64.format.read (FloatKind.f64.format.nearest s m place) = .number s m' i' ∧ leP m' i' e ∧ -1074 ≤ i' ∧ (m ≠ 0 → ∀ e0 : Int, -1074 ≤ e0 → geP m place e0 → geP m' i' e0) := by
  have := nearest_le FloatKind.f64.format (binade_le .f64) s m place e h (by rw [f64_lp]; exact h0) (f64_cond e h1)
  rw [f64_lp] at this
  exact this

theorem near_mag (s : Bool) (m : Nat) (place e : Int) (h : leP m place e) (h0 : -1074 ≤ e) (h1 : e ≤ 1022) : magC (some (FloatKind.f64.format.nearest s m place)) e := by
  obtain ⟨m', i', g1, g2, g3, _⟩ := near64 s m place e h h0 h1
  exact ⟨_, s, m', i', rfl, g1, g3, g2⟩

theorem signed_abs (s : Bool) (m u : Nat) : (signed s m u).natAbs = m * 2 ^ u := by
  unfold signed; rw [Nat.shiftLeft_eq]
  cases s
  · exact Int.natAbs_natCast _
  · show (-((m * 2 ^ u : Nat) : Int)).natAbs = _
    rw [Int.natAbs_neg, Int.natAbs_natCast]

theorem leP_scale {m : Nat} {i e base : Int} (h : leP m i e) (hb : base ≤ i) (he : base ≤ e) : m * 2 ^ (i - base).toNat ≤ 2 ^ (e - base).toNat := by
  rcases h with h | ⟨h1, h2⟩
  · rw [h, Nat.zero_mul]; exact Nat.zero_le _
  · have e1 : (e - base).toNat = (e - i).toNat + (i - base).toNat := by omega
    rw [e1, Nat.pow_add]
    exact Nat.mul_le_mul_right _ h2

/-- the exact sum -/
theorem sum_le {s t : Bool} {m n : Nat} {i j e f : Int} (h1 : leP m i e) (h2 : leP n j f) :
    ∃ r k p, (Datum.number s m i).sum (Datum.number t n j) = some (.number r k p) ∧ leP k p (max e f + 1) := by
  refine ⟨_, _, _, rfl, ?_⟩
  generalize hT : signed s m (i - min i j).toNat + signed t n (j - min i j).toNat = total
  by_cases h0 : total = 0
  · left; rw [h0]; rfl
  · right
    have hab : total.natAbs ≤ m * 2 ^ (i - min i j).toNat + n * 2 ^ (j - min i j).toNat := by
      rw [← signed_abs s, ← signed_abs t, ← hT]; exact Int.natAbs_add_le _ _
    have hbase : min i j ≤ max e f := by
      rcases h1 with h1 | ⟨h1, _⟩
      · rcases h2 with h2 | ⟨h2, _⟩
        · exfalso
          rw [h1, h2] at hab
          simp at hab
          exact h0 hab
        · omega
      · omega
    have g1 := leP_scale (leP_mono h1 (Int.le_max_left e f)) (Int.min_le_left i j) hbase
    have g2 := leP_scale (leP_mono h2 (Int.le_max_right e f)) (Int.min_le_right i j) hbase
    refine ⟨by omega, ?_⟩
    have e1 : (max e f + 1 - min i j).toNat = (max e f - min i j).toNat + 1 := by omega
    rw [e1, Nat.pow_succ]
    omega

theorem mag_add {x y : Option Nat} {e f : Int} (hx : magC x e) (hy : magC y f) (h0 : -1074 ≤ max e f + 1) (h1 : max e f + 1 ≤ 1022) : magC (fop .add .f64 x y) (max e f + 1) := by
  obtain ⟨b, s, m, i, rfl, h2, _, h4⟩ := hx
  obtain ⟨c, t, n, j, rfl, g2, _, g4⟩ := hy
  obtain ⟨r, k, p, hs, hl⟩ := sum_le (s := s) (t := t) h4 g4
  have e1 : fop .add .f64 (some b) (some c) = some (FloatKind.f64.format.nearest r k p) := by
    simp only [fop, Option.bind_some, floatBits, Format.add, h2, g2, hs]; rfl
  rw [e1]
  exact near_mag r k p _ hl h0 h1
theorem mag_sub {x y : Option Nat} {e f : Int} (hx : magC x e) (hy : magC y f) (h0 : -1074 ≤ max e f + 1) (h1 : max e f + 1 ≤ 1022) : magC (fop .sub .f64 x y) (max e f + 1) := by
  obtain ⟨b, s, m, i, rfl, h2, _, h4⟩ := hx
  obtain ⟨c, t, n, j, rfl, g2, _, g4⟩ := hy
  obtain ⟨r, k, p, hs, hl⟩ := sum_le (s := s) (t := !t) h4 g4
  have e1 : fop .sub .f64 (some b) (some c) = some (FloatKind.f64.format.nearest r k p) := by
    simp only [fop, Option.bind_some, floatBits, Format.sub, h2, g2, Datum.opposite, hs]; rfl
  rw [e1]
  exact near_mag r k p _ hl h0 h1

theorem leP_mul {m n : Nat} {i j e f : Int} (h1 : leP m i e) (h2 : leP n j f) : leP (m * n) (i + j) (e + f) := by
  rcases h1 with h1 | ⟨h1, h1'⟩
  · left; rw [h1, Nat.zero_mul]
  · rcases h2 with h2 | ⟨h2, h2'⟩
    · left; rw [h2, Nat.mul_zero]
    · right
      refine ⟨by omega, ?_⟩
      have e1 : (e + f - (i + j)).toNat = (e - i).toNat + (f - j).toNat := by omega
      rw [e1, Nat.pow_add]
      exact Nat.mul_le_mul h1' h2'
theorem mag_mul {x y : Option Nat} {e f : Int} (hx : magC x e) (hy : magC y f) (h0 : -1074 ≤ e + f) (h1 : e + f ≤ 1022) : magC (fop .mul .f64 x y) (e + f) := by
  obtain ⟨b, s, m, i, rfl, h2, _, h4⟩ := hx
  obtain ⟨c, t, n, j, rfl, g2, _, g4⟩ := hy
  have e1 : fop .mul .f64 (some b) (some c) = some (FloatKind.f64.format.nearest (s ^^ t) (m * n) (i + j)) := by
    simp only [fop, Option.bind_some, floatBits, Format.mul, h2, g2]; rfl
  rw [e1]
  exact near_mag _ _ _ _ (leP_mul h4 g4) h0 h1

theorem geP_log {n : Nat} {j f : Int} (h : geP n j f) : f - j ≤ n.log2 := by
  obtain ⟨h1, h2⟩ := h
  have := le_log2 h1 h2
  omega
theorem leP_log {m : Nat} {i e : Int} (h : leP m i e) (hm : m ≠ 0) : (m.log2 : Int) ≤ e - i := by
  rcases h with h | ⟨h1, h2⟩
  · exact absurd h hm
  · have h3 : 2 ^ m.log2 ≤ 2 ^ (e - i).toNat := Nat.le_trans (Nat.log2_self_le hm) h2
    have h4 : m.log2 ≤ (e - i).toNat := (Nat.pow_le_pow_iff_right (by omega)).1 h3
    omega

/-- the quotient of a number and one that is at least a power of two -/
theorem quot_le {s t : Bool} {m n : Nat} {i j e f : Int} (h1 : leP m i e) (h2 : geP n j f) (d : Nat) :
    ∃ r k p, (Datum.number s m i).quotient d (Datum.number t n j) = some (.number r k p) ∧ leP k p (e - f) := by
  have hn : n ≠ 0 := h2.1
  refine ⟨s ^^ t, 2 * (m <<< (d + n.log2 - m.log2) / n) + (m <<< (d + n.log2 - m.log2) % n != 0).toNat, i - j - ((d + n.log2 - m.log2 : Nat) : Int) - 1, ?_, ?_⟩
  · simp only [Datum.quotient, if_neg hn]
  · generalize hmore : d + n.log2 - m.log2 = more
    by_cases hm : m = 0
    · left
      subst hm
      simp
    · right
      have hlm := leP_log h1 hm
      have hln := geP_log h2
      obtain ⟨hie, hme⟩ : i ≤ e ∧ m ≤ 2 ^ (e - i).toNat := by
        rcases h1 with h1 | h1
        · exact absurd h1 hm
        · exact h1
      obtain ⟨D, hD⟩ : ∃ D : Nat, (D : Int) = e - i + more - (f - j) := ⟨(e - i + more - (f - j)).toNat, by omega⟩
      have hdiv : m <<< more ≤ 2 ^ D * n := by
        rw [Nat.shiftLeft_eq]
        have g1 : m * 2 ^ more ≤ 2 ^ ((e - i).toNat + more) := by rw [Nat.pow_add]; exact Nat.mul_le_mul_right _ hme
        have g2 : 2 ^ ((e - i).toNat + more) ≤ 2 ^ (D + (f - j).toNat) := Nat.pow_le_pow_right (by omega) (by omega)
        have g3 : 2 ^ (D + (f - j).toNat) ≤ 2 ^ D * n := by rw [Nat.pow_add]; exact Nat.mul_le_mul_left _ h2.2
        omega
      have hnp : 0 < n := Nat.pos_of_ne_zero hn
      have hq : m <<< more / n ≤ 2 ^ D := Nat.div_le_of_le_mul (by rw [Nat.mul_comm]; exact hdiv)
      refine ⟨by omega, ?_⟩
      have e1 : (e - f - (i - j - more - 1)).toNat = D + 1 := by omega
      rw [e1, Nat.pow_succ]
      rcases Nat.lt_or_eq_of_le hq with h5 | h5
      · have : ((m <<< more % n != 0).toNat) ≤ 1 := by cases (m <<< more % n != 0) <;> decide
        omega
      · have h6 : m <<< more % n = 0 := by
          have := Nat.div_add_mod (m <<< more) n
          rw [h5, Nat.mul_comm] at this
          omega
        rw [h5, h6]
        simp; omega
theorem mag_quo {x y : Option Nat} {e f : Int} (hx : magC x e) (hy : posC y f) (h0 : -1074 ≤ e - f) (h1 : e - f ≤ 1022) : magC (fop .quo .f64 x y) (e - f) := by
  obtain ⟨b, s, m, i, rfl, h2, _, h4⟩ := hx
  obtain ⟨c, n, j, rfl, g2, _, g4⟩ := hy
  obtain ⟨r, k, p, hs, hl⟩ := quot_le (s := s) (t := false) h4 g4 (FloatKind.f64.format.fractionBits + 2)
  have e1 : fop .quo .f64 (some b) (some c) = some (FloatKind.f64.format.nearest r k p) := by
    simp only [fop, Option.bind_some, floatBits, Format.div, h2, g2, hs]; rfl
  rw [e1]
  exact near_mag r k p _ hl h0 h1

theorem mag_int (n : Int) (e : Int) (h : n.natAbs ≤ 2 ^ e.toNat) (h0 : 0 ≤ e) (h1 : e ≤ 1022) : magC (some (floatOfInt .f64 n)) e :=
  near_mag (n < 0) n.natAbs 0 e (.inr ⟨h0, by simpa using h⟩) (by omega) h1

/-- what is not great can be narrowed -/
theorem fits_of_mag {x : Option Nat} {e : Int} (h : magC x e) (he : e ≤ 126) : fits x := by
  obtain ⟨b, s, m, i, rfl, h2, _, h4⟩ := h
  intro b' hb
  cases hb
  right
  have e1 : nar b = FloatKind.f32.format.nearest s m i := by
    simp only [nar, FloatKind.decode, FloatKind.encode, h2]; rfl
  rw [e1]
  obtain ⟨m', i', g1, _⟩ := nearest_le FloatKind.f32.format (binade_le .f32) s m i (max e (-149)) (leP_mono h4 (Int.le_max_left _ _))
    (by have : FloatKind.f32.format.leastPlace = -149 := by decide
        rw [this]; exact Int.le_max_right _ _) (f32_cond _ (by omega))
  rw [g1]; rfl

/-! the opposite -/
theorem neg_mod (b : Nat) : Op.negFloat .f64 b % 2 ^ 63 = b % 2 ^ 63 := by
  have e : Op.negFloat .f64 b = b ^^^ 2 ^ 63 := rfl
  rw [e, Nat.xor_mod_two_pow]
  simp
theorem neg_div (b : Nat) : Op.negFloat .f64 b / 2 ^ 63 % 2 = 1 - b / 2 ^ 63 % 2 := by
  have e : Op.negFloat .f64 b = b ^^^ 2 ^ 63 := rfl
  rw [e, Nat.xor_div_two_pow]
  have e1 : (2 : Nat) ^ 63 / 2 ^ 63 = 1 := by decide
  rw [e1]
  have := Nat.xor_mod_two_pow (a := b / 2 ^ 63) (b := 1) (n := 1)
  simp only [Nat.pow_one] at this
  rw [this]
  rcases Nat.mod_two_eq_zero_or_one (b / 2 ^ 63) with h | h <;> rw [h] <;> decide
theorem read_neg (b : Nat) : FloatKind.f64.format.read (Op.negFloat .f64 b) = (FloatKind.f64.format.read b).opposite := by
  have hS : FloatKind.f64.format.signWeight = 2 ^ 63 := by decide
  unfold Format.read
  rw [hS]
  have h1 := neg_div b
  have h2 := neg_mod b
  have h3 : (Op.negFloat .f64 b / 2 ^ 63 % 2 == 1) = !(b / 2 ^ 63 % 2 == 1) := by
    rw [h1]
    rcases Nat.mod_two_eq_zero_or_one (b / 2 ^ 63) with h | h <;> rw [h] <;> decide
  dsimp only
  rw [h2, h3]
  split
  · rfl
  · split
    · rfl
    · split <;> rfl
def fneg (x : Option Nat) : Option Nat := x.map (Op.negFloat .f64)
theorem cls_neg (b : Nat) : cls .f64 (Op.negFloat .f64 b) = fneg (cls .f64 b) := by
  have h : nanW .f64 (Op.negFloat .f64 b) = nanW .f64 b := by
    rw [← read_nan, ← read_nan, read_neg, opposite_nan]
  unfold cls fneg
  rw [h]
  split <;> rfl
theorem mag_neg {x : Option Nat} {e : Int} (h : magC x e) : magC (fneg x) e := by
  obtain ⟨b, s, m, i, rfl, h2, h3, h4⟩ := h
  exact ⟨_, !s, m, i, rfl, by rw [read_neg, h2]; rfl, h3, h4⟩

end Go.Proofs.Ythinjgiakaflpab.Flt
