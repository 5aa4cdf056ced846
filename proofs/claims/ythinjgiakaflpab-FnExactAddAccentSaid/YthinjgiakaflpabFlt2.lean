/- More on float words: finite ones, absolute values, subnormal ones. -/
import Derived.Test.YthinjgiakaflpabFlt
namespace Go.Proofs.Ythinjgiakaflpab.Flt
open Ieee Go.RowKit

theorem pow_sub_and (x : Nat) (n : Nat) : x &&& (2 ^ n - 1) = x % 2 ^ n := Nat.and_two_pow_sub_one_eq_mod x n

theorem mul_pow_lt {m n u v c : Nat} (hm : m < 2 ^ c) (hn : 2 ^ c ≤ n) (h : u ≤ v) : m * 2 ^ u < n * 2 ^ v := by
  have h6 : 2 ^ u ≤ 2 ^ v := Nat.pow_le_pow_right (by omega) h
  calc m * 2 ^ u < 2 ^ c * 2 ^ u := Nat.mul_lt_mul_of_pos_right hm (Nat.two_pow_pos _)
    _ ≤ n * 2 ^ u := Nat.mul_le_mul_right _ hn
    _ ≤ n * 2 ^ v := Nat.mul_le_mul_left _ h6

theorem scale_lt {m n u v d : Nat} (h : m * 2 ^ d < n) (hu : u = d + v) : m * 2 ^ u < n * 2 ^ v := by
  rw [hu, Nat.pow_add, ← Nat.mul_assoc]
  exact Nat.mul_lt_mul_of_pos_right h (Nat.two_pow_pos _)
theorem scale_le {m n u v d : Nat} (h : n ≤ m * 2 ^ d) (hu : d + v ≤ u) : n * 2 ^ v ≤ m * 2 ^ u := by
  have h1 : 2 ^ (d + v) ≤ 2 ^ u := Nat.pow_le_pow_right (by omega) hu
  calc n * 2 ^ v ≤ m * 2 ^ d * 2 ^ v := Nat.mul_le_mul_right _ h
    _ = m * 2 ^ (d + v) := by rw [Nat.pow_add, Nat.mul_assoc]
    _ ≤ m * 2 ^ u := Nat.mul_le_mul_left _ h1

theorem signed_lt {m n u v : Nat} (h : m * 2 ^ u < n * 2 ^ v) : signed false m u < signed false n v := by
  unfold signed
  rw [Nat.shiftLeft_eq, Nat.shiftLeft_eq]
  exact Int.ofNat_lt.2 h
theorem signed_le {m n u v : Nat} (h : m * 2 ^ u ≤ n * 2 ^ v) : signed false m u ≤ signed false n v := by
  unfold signed
  rw [Nat.shiftLeft_eq, Nat.shiftLeft_eq]
  exact Int.ofNat_le.2 h

theorem compare_lt {a b : Int} (h : a < b) : compare a b = .lt := by simp [compare, compareOfLessAndEq, h]
theorem compare_gt {a b : Int} (h : b < a) : compare a b = .gt := by
  have h1 : ¬ a < b := by omega
  have h2 : ¬ a = b := by omega
  simp [compare, compareOfLessAndEq, h1, h2]
theorem compare_eq {a b : Int} (h : a = b) : compare a b = .eq := by simp [compare, compareOfLessAndEq, h]

/-- the absolute value of a word of 64 bits -/
def absW (b : Nat) : Nat := b % 9223372036854775808
/-- the sign of a word of 64 bits, in its place -/
def signW (b : Nat) : Nat := b - b % 9223372036854775808

theorem bits_abs (b : Nat) (hb : b < 18446744073709551616) : bits .andNot .u64 (b : Int) 9223372036854775808 = ((absW b : Nat) : Int) := by
  have := u64_andNot (b : Int) 9223372036854775808 (by omega) (by omega) (by omega) (by omega)
  rw [this]
  congr 1
  have e : 18446744073709551615 - (9223372036854775808 : Int).toNat = 2 ^ 63 - 1 := by decide
  rw [e, pow_sub_and]
  rfl

theorem and_sign (b : Nat) (hb : b < 18446744073709551616) : b &&& 9223372036854775808 = signW b := by
  have h1 : b &&& 2 ^ 63 = b - b % 2 ^ 63 := by
    have hb' : b < 2 ^ 64 := hb
    apply Nat.eq_of_testBit_eq
    intro i
    have e : b - b % 2 ^ 63 = (b / 2 ^ 63) * 2 ^ 63 := by
      have := Nat.div_add_mod b (2 ^ 63)
      rw [Nat.mul_comm] at this
      omega
    rw [e, Nat.testBit_and, Nat.testBit_mul_two_pow, Nat.testBit_two_pow, Nat.testBit_div_two_pow]
    by_cases hi : 63 = i
    · subst hi; simp
    · by_cases h2 : 63 ≤ i
      · have : b.testBit i = false := Nat.testBit_lt_two_pow (Nat.lt_of_lt_of_le hb' (Nat.pow_le_pow_right (by omega) (by omega)))
        have e2 : i - 63 + 63 = i := by omega
        simp [hi, this, e2]
      · simp [hi, h2]
  exact h1

theorem bits_sign (b : Nat) (hb : b < 18446744073709551616) : bits .and .u64 (b : Int) 9223372036854775808 = ((signW b : Nat) : Int) := by
  have := u64_and (b : Int) 9223372036854775808 (by omega) (by omega) (by omega) (by omega)
  rw [this]
  congr 1
  exact and_sign b hb

/-- what the absolute value stands for -/
def posD : Datum → Datum
  | .number _ m i => .number false m i
  | .infinity _ => .infinity false
  | .nan _ t => .nan false t

theorem read_abs (b : Nat) : FloatKind.f64.format.read (absW b) = posD (FloatKind.f64.format.read b) := by
  have hS : FloatKind.f64.format.signWeight = 9223372036854775808 := by decide
  unfold Format.read absW
  rw [hS]
  have h0 : b % 9223372036854775808 / 9223372036854775808 % 2 = 0 := by omega
  have h1 : b % 9223372036854775808 % 9223372036854775808 = b % 9223372036854775808 := by omega
  simp only [h0, h1]
  split
  · rfl
  · split
    · rfl
    · split <;> rfl

/-- is a number of 32 bits finite? -/
def fin32 (x : Option Nat) : Bool := match x with | none => false | some b => !(FloatKind.f32.format.read b).isInfinity

theorem sub_self_fin (x : Nat) : (ford .f32 (fop .sub .f32 (cls .f32 x) (cls .f32 x)) (cls .f32 0) == some .eq) = fin32 (cls .f32 x) := by
  cases hc : cls .f32 x with
  | none => rfl
  | some b =>
    have hb := cls_ok .f32 x b hc
    have hz : cls .f32 0 = some 0 := by decide
    simp only [fop, Option.bind_some, fin32, hz]
    rcases read32 b hb with ⟨s, hr⟩ | ⟨s, m, e, hr, _, _, _⟩
    · have : floatBits .sub .f32 b b = none := by
        unfold floatBits Format.sub; rw [hr]; cases s <;> rfl
      rw [this, hr]; rfl
    · have : floatBits .sub .f32 b b = some 0 := by
        unfold floatBits Format.sub; rw [hr]
        simp only [Datum.opposite, Datum.sum]
        have e0 : signed s m (e - min e e).toNat + signed (!s) m (e - min e e).toNat = 0 := by
          unfold signed; cases s <;> simp <;> omega
        simp only [e0]
        cases s <;> rfl
      rw [this, hr]; show (ford .f32 (some 0) (some 0) == some .eq) = true; decide

/-- the greatest finite number of 64 bits -/
def max64 : Nat := 9218868437227405311
theorem max64_num : nanW .f64 max64 = false := by decide
theorem absW_num {b : Nat} (h : nanW .f64 b = false) : nanW .f64 (absW b) = false := by
  rw [← read_nan] at h ⊢
  rw [read_abs]
  cases hd : FloatKind.f64.format.read b <;> rw [hd] at h <;> first | rfl | (simp [Datum.isNaN] at h)

theorem inf_test (x : Nat) (b : Nat) (hc : cls .f32 x = some b) :
    (FloatKind.f64.format.order (absW (wide b)) max64 == some .gt) = !fin32 (cls .f32 x) := by
  have hb := cls_ok .f32 x b hc
  have hm : FloatKind.f64.format.read max64 = .number false (2 ^ 53 - 1) 971 := by decide
  rw [hc]
  simp only [fin32, Format.order, read_abs, hm]
  rcases wide_read b hb with ⟨s, h1, h2⟩ | ⟨s, m, e, m', e', h1, h2, hm2, he, he2, he3, hv⟩
  · rw [h1, h2]; rfl
  · rw [h1, h2]
    simp only [posD, Datum.isInfinity, Bool.not_false, Bool.not_true]
    rw [order_num false false m' (2 ^ 53 - 1) e' 971 (-1074) (by omega) (by omega)]
    have hv' : signed false m' (e' - -1074).toNat = signed false m (e - -1074).toNat := by
      have := hv (-1074) (Int.le_refl _)
      unfold signed at this ⊢
      cases s
      · exact this
      · simp at this ⊢; omega
    rw [hv']
    obtain ⟨u, hu⟩ : ∃ u, u = (971 - -1074 : Int).toNat := ⟨_, rfl⟩
    have h5 : u = 1178 + 867 := by rw [hu]; decide
    rw [← hu]
    clear hu
    have hlt : signed false m (e - -1074).toNat < signed false (2 ^ 53 - 1) u := by
      have h4 : m * 2 ^ (e - -1074).toNat < (2 ^ 53 - 1) * 2 ^ u := mul_pow_lt hm2 (by decide) (by omega)
      exact signed_lt h4
    rw [compare_lt hlt]
    rfl

/-! subnormal ones -/
theorem bits_exp (n : Nat) (hn : n < 4294967296) : bits .and .i64 (n : Int) 2139095040 = ((n % 2147483648 / 8388608 * 8388608 : Nat) : Int) := by
  have h := (bits_nat .i64 62 (by decide) (fun x h0 h1 => by
    rw [IntKind.wrap_i64]
    have : (2 : Int) ^ 62 = 4611686018427387904 := by decide
    omega) n 2139095040 (by have : (2 : Nat) ^ 62 = 4611686018427387904 := by decide
                            omega) (by decide)).1
  have e : n &&& 2139095040 = n % 2147483648 / 8388608 * 8388608 := nat_midmask 31 23 n (by decide)
  rw [e] at h
  exact h

theorem bits_top (n : Nat) (hn : n < 4294967296) : bits .and .i64 (n : Int) 2147483648 = ((n - n % 2147483648 : Nat) : Int) := by
  have h := (bits_nat .i64 62 (by decide) (fun x h0 h1 => by
    rw [IntKind.wrap_i64]
    have : (2 : Int) ^ 62 = 4611686018427387904 := by decide
    omega) n 2147483648 (by have : (2 : Nat) ^ 62 = 4611686018427387904 := by decide
                            omega) (by decide)).1
  have e : n &&& 2147483648 = n % 4294967296 / 2147483648 * 2147483648 := nat_midmask 32 31 n (by decide)
  rw [e] at h
  rw [show bits .and .i64 (n : Int) 2147483648 = bits .and .i64 (n : Int) ((2147483648 : Nat) : Int) from rfl, h]
  congr 1
  omega

/-- the least normal number of 32 bits, in 64 -/
def least64 : Nat := 4039728865751334912

theorem read32_small (b : Nat) (h : b % 2147483648 < 8388608) : ∃ s, FloatKind.f32.format.read b = .number s (b % 2147483648) (-149) := by
  have hS : FloatKind.f32.format.signWeight = 2147483648 := by decide
  have hB : FloatKind.f32.format.binade = 8388608 := by decide
  have hL : FloatKind.f32.format.leastPlace = -149 := by decide
  unfold Format.read
  rw [hS, hB, hL]
  simp only [if_pos h]
  exact ⟨_, rfl⟩

theorem read32_great (b : Nat) (hn : nanW .f32 b = false) (h : ¬ b % 2147483648 < 8388608) :
    (∃ s, FloatKind.f32.format.read b = .infinity s) ∨ ∃ s m e, FloatKind.f32.format.read b = .number s m e ∧ 8388608 ≤ m ∧ -149 ≤ e := by
  have hS : FloatKind.f32.format.signWeight = 2147483648 := by decide
  have hB : FloatKind.f32.format.binade = 8388608 := by decide
  have hL : FloatKind.f32.format.leastPlace = -149 := by decide
  have hr := read_nan .f32 b
  rw [hn] at hr
  unfold Format.read at hr ⊢
  rw [hS, hB, hL] at hr ⊢
  dsimp only at hr ⊢
  rw [if_neg h] at hr ⊢
  split
  · right; exact ⟨_, _, _, rfl, by omega, by omega⟩
  · split
    · left; exact ⟨_, rfl⟩
    · rename_i h2 h3
      rw [if_neg h2, if_neg h3] at hr
      simp [Datum.isNaN] at hr

theorem abs_signed {s : Bool} {m m' u v : Nat} (h : signed s m u = signed s m' v) : signed false m u = signed false m' v := by
  unfold signed at h ⊢
  cases s
  · exact h
  · simp at h ⊢; omega

theorem subn_test (x b : Nat) (hc : cls .f32 x = some b) : (FloatKind.f64.format.order (absW (wide b)) least64 == some .lt) = decide (b % 2147483648 < 8388608) := by
  have hb := cls_ok .f32 x b hc
  have hm : FloatKind.f64.format.read least64 = .number false (2 ^ 52) (-178) := by decide
  simp only [Format.order, read_abs, hm]
  obtain ⟨v, hv0⟩ : ∃ v, v = (-178 - -1074 : Int).toNat := ⟨_, rfl⟩
  have hv1 : v = 896 := by rw [hv0]; decide
  by_cases h : b % 2147483648 < 8388608
  · obtain ⟨s, hr⟩ := read32_small b h
    rcases wide_read b hb with ⟨s', h1, h2⟩ | ⟨s', m, e, m', e', h1, h2, hm2, he, he2, he3, hv⟩
    · rw [hr] at h1; cases h1
    · rw [hr] at h1; cases h1
      rw [h2]
      simp only [posD]
      rw [order_num false false m' (2 ^ 52) e' (-178) (-1074) (by omega) (by omega), abs_signed (hv (-1074) (Int.le_refl _)), ← hv0]
      have hlt : signed false (b % 2147483648) (-149 - -1074 : Int).toNat < signed false (2 ^ 52) v := by
        apply signed_lt
        exact scale_lt (d := 29) (by omega) (by rw [hv1]; decide)
      rw [compare_lt hlt]
      simp [h]
  · have h' : decide (b % 2147483648 < 8388608) = false := by simpa using h
    rw [h']
    rcases wide_read b hb with ⟨s', h1, h2⟩ | ⟨s', m, e, m', e', h1, h2, hm2, he, he2, he3, hv⟩
    · rw [h2]; rfl
    · rcases read32_great b hb h with ⟨s, hr⟩ | ⟨s, m2, e2, hr, g1, g2⟩
      · rw [hr] at h1; cases h1
      · rw [hr] at h1; injection h1 with q1 q2 q3; subst q1 q2 q3
        rw [h2]
        simp only [posD]
        rw [order_num false false m' (2 ^ 52) e' (-178) (-1074) (by omega) (by omega), abs_signed (hv (-1074) (Int.le_refl _)), ← hv0]
        have hle : signed false (2 ^ 52) v ≤ signed false m2 (e2 - -1074 : Int).toNat := by
          apply signed_le
          exact scale_le (d := 29) (by omega) (by omega)
        rcases Int.lt_or_eq_of_le hle with h5 | h5
        · rw [compare_gt h5]; rfl
        · rw [compare_eq h5.symm]; rfl

/-- is the number equal to zero? -/
theorem zero_test (b : Nat) (hb : nanW .f32 b = false) : (FloatKind.f32.format.order b 0 == some .eq) = decide (b % 2147483648 = 0) := by
  have h0 : FloatKind.f32.format.read 0 = .number false 0 (-149) := by decide
  simp only [Format.order, h0]
  by_cases h : b % 2147483648 < 8388608
  · obtain ⟨s, hr⟩ := read32_small b h
    rw [hr, order_num s false _ 0 (-149) (-149) (-149) (by omega) (by omega)]
    have e1 : signed s (b % 2147483648) (-149 - -149 : Int).toNat = if s then -((b % 2147483648 : Nat) : Int) else ((b % 2147483648 : Nat) : Int) := by
      unfold signed; simp
    have e2 : signed false 0 (-149 - -149 : Int).toNat = 0 := by decide
    rw [e1, e2]
    by_cases hz : b % 2147483648 = 0
    · rw [hz]; cases s <;> decide
    · have : decide (b % 2147483648 = 0) = false := by simpa using hz
      rw [this]
      cases s
      · simp only [Bool.false_eq_true, if_false]; rw [compare_gt (by omega)]; rfl
      · simp only [if_true]; rw [compare_lt (by omega)]; rfl
  · have : decide (b % 2147483648 = 0) = false := by simp; omega
    rw [this]
    rcases read32_great b hb h with ⟨s, hr⟩ | ⟨s, m, e, hr, g1, g2⟩
    · rw [hr]; cases s <;> rfl
    · rw [hr, order_num s false m 0 e (-149) (-149) (by omega) (by omega)]
      have e2 : signed false 0 (-149 - -149 : Int).toNat = 0 := by decide
      rw [e2]
      have hp : 0 < m * 2 ^ (e - -149).toNat := Nat.mul_pos (by omega) (Nat.two_pow_pos _)
      cases s
      · have : (0 : Int) < signed false m (e - -149).toNat := by
          unfold signed; rw [Nat.shiftLeft_eq]; exact Int.ofNat_lt.2 hp
        rw [compare_gt this]; rfl
      · have : signed true m (e - -149).toNat < 0 := by
          unfold signed; rw [Nat.shiftLeft_eq]
          have h3 : (0 : Int) < ((m * 2 ^ (e - -149).toNat : Nat) : Int) := Int.ofNat_lt.2 hp
          simp only [if_true]; omega
        rw [compare_lt this]; rfl

/-- is the class that of a subnormal number? -/
def subn (x : Option Nat) : Bool := match x with | none => false | some b => decide (b % 2147483648 < 8388608) && !decide (b % 2147483648 = 0)
/-- the class of a number made zero if it is subnormal -/
def flushC (x : Option Nat) : Option Nat := match x with | none => none | some b => if b % 2147483648 < 8388608 then some (b - b % 2147483648) else some b

/-- is a number of 64 bits finite? -/
def finW (b : Nat) : Bool := !(cls .f64 b).isNone && !(FloatKind.f64.format.order (absW b) max64 == some .gt)

theorem finW_wide (x r : Nat) (h : cls .f64 r = fwide (cls .f32 x)) : finW r = fin32 (cls .f32 x) := by
  unfold finW
  cases hc : cls .f32 x with
  | none => rw [h, hc]; rfl
  | some b =>
    have h2 : cls .f64 r = some (wide b) := by rw [h, hc]; rfl
    have e := cls_word h2
    subst e
    rw [inf_test x b hc, h2, hc]
    simp

theorem sign_wide (b : Nat) (hb : b < 4294967296) (h : b % 2147483648 < 8388608) : nar (signW (wide b)) = b - b % 2147483648 ∧ ∃ s, FloatKind.f64.format.read (signW (wide b)) = .number s 0 (-1074) := by
  obtain ⟨s, hr⟩ := read32_small b h
  have hs : s = (b / 2147483648 % 2 == 1) := by
    have hS : FloatKind.f32.format.signWeight = 2147483648 := by decide
    have hB : FloatKind.f32.format.binade = 8388608 := by decide
    unfold Format.read at hr
    rw [hS, hB] at hr
    dsimp only at hr
    rw [if_pos h] at hr
    injection hr with q1 q2 q3
    exact q1.symm
  have hw : wide b = FloatKind.f64.format.nearest s (b % 2147483648) (-149) := by
    simp only [wide, FloatKind.decode, FloatKind.encode, hr]; rfl
  have hr2 : ∃ g, g < 9223372036854775808 ∧ wide b = FloatKind.f64.format.word s g := by
    rw [hw]
    unfold Format.nearest
    dsimp only
    have hi := FloatKind.f64.format.infRung_lt
    have hS : FloatKind.f64.format.signWeight = 9223372036854775808 := by decide
    rw [hS] at hi
    split
    · exact ⟨0, by omega, rfl⟩
    · exact ⟨_, Nat.lt_of_le_of_lt (Nat.min_le_right ..) hi, rfl⟩
  obtain ⟨g, hg, hw2⟩ := hr2
  have hS : FloatKind.f64.format.signWeight = 9223372036854775808 := by decide
  have e : signW (wide b) = if s then 9223372036854775808 else 0 := by
    rw [hw2]
    unfold signW Format.word
    rw [hS]
    cases s
    · simp only [Bool.false_eq_true, if_false]; omega
    · simp only [if_true]; omega
  rw [e]
  cases s
  · have : b < 2147483648 := by
      have := hs.symm
      simp at this
      omega
    refine ⟨?_, ⟨false, by decide⟩⟩
    have e2 : nar (if false = true then 9223372036854775808 else 0) = 0 := by decide
    rw [e2]; omega
  · have : 2147483648 ≤ b := by
      have := hs.symm
      simp at this
      omega
    refine ⟨?_, ⟨true, by decide⟩⟩
    have e2 : nar (if true = true then 9223372036854775808 else 0) = 2147483648 := by decide
    rw [e2]; omega

theorem order_abs_nan (r y : Nat) (h : cls .f64 r = none) : FloatKind.f64.format.order (absW r) y = none := by
  have hn : nanW .f64 r = true := by
    unfold cls at h; split at h
    · assumption
    · cases h
  rw [← read_nan] at hn
  obtain ⟨s, t, hd⟩ := nan_form hn
  unfold Format.order
  rw [read_abs, hd]
  exact order_nan_left _ _ rfl

/-- the test of an absolute value, by classes -/
theorem subn_wide (x r : Nat) (h : cls .f64 r = fwide (cls .f32 x)) : (FloatKind.f64.format.order (absW r) least64 == some .lt) = match cls .f32 x with | none => false | some b => decide (b % 2147483648 < 8388608) := by
  cases hc : cls .f32 x with
  | none => rw [order_abs_nan r least64 (by rw [h, hc]; rfl)]; rfl
  | some b =>
    have h2 : cls .f64 r = some (wide b) := by rw [h, hc]; rfl
    have e := cls_word h2
    subst e
    exact subn_test x b hc

theorem subn_zero {b : Nat} (h : b % 2147483648 = 0) : subn (some b) = false := by simp [subn, h]
theorem subn_other {b : Nat} (h : ¬ b % 2147483648 = 0) : subn (some b) = decide (b % 2147483648 < 8388608) := by simp [subn, h]

theorem bits_or_zero (b : Nat) (hb : b < 18446744073709551616) : bits .or .u64 0 ((b : Nat) : Int) = ((b : Nat) : Int) := by
  have := u64_or 0 (b : Int) (by omega) (by omega) (by omega) (by omega)
  rw [this]
  simp
theorem signW_lt {b : Nat} (h : b < 18446744073709551616) : signW b < 18446744073709551616 := by unfold signW; omega

theorem flush_sub {c : Nat} (h : subn (some c) = true) : c % 2147483648 < 8388608 ∧ flushC (some c) = some (c - c % 2147483648) := by
  simp only [subn, Bool.and_eq_true, decide_eq_true_eq] at h
  exact ⟨h.1, by simp [flushC, h.1]⟩
theorem flush_not {x : Option Nat} (h : subn x = false) : flushC x = x := by
  cases x with
  | none => rfl
  | some c =>
    simp only [subn, Bool.and_eq_false_iff, decide_eq_false_iff_not, Bool.not_eq_false', decide_eq_true_eq] at h
    unfold flushC
    by_cases h1 : c % 2147483648 < 8388608
    · have : c % 2147483648 = 0 := by omega
      simp [this]
    · simp [h1]

theorem flush_fit (c : Nat) (hb : c < 4294967296) (hs : subn (cls .f32 c) = true) (r : Nat) (hr : Hid (cls .f64 r = fwide (cls .f32 c))) :
    fits (cls .f64 (signW r)) ∧ fnar (cls .f64 (signW r)) = flushC (cls .f32 c) := by
  cases hc : cls .f32 c with
  | none => rw [hc] at hs; cases hs
  | some b =>
    have e1 := cls_word hc
    subst e1
    rw [hc] at hs
    obtain ⟨h, hf⟩ := flush_sub hs
    obtain ⟨g1, s, g2⟩ := sign_wide b hb h
    have h2 : cls .f64 r = some (wide b) := by rw [hr.out, hc]; rfl
    have e := cls_word h2
    subst e
    have hn : cls .f64 (signW (wide b)) = some (signW (wide b)) := by
      refine cls_num ?_
      rw [← read_nan, g2]; rfl
    constructor
    · intro b' hb'
      rw [hn] at hb'; cases hb'
      right
      rw [g1]
      obtain ⟨s2, hr2⟩ := read32_small (b - b % 2147483648) (by omega)
      rw [hr2]; rfl
    · rw [hn, hf]
      show some _ = _
      rw [g1]

end Go.Proofs.Ythinjgiakaflpab.Flt
