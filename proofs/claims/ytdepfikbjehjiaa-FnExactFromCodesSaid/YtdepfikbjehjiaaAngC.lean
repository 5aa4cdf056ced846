/- The angle of a point, on classes. -/
import Derived.Test.YtdepfikbjehjiaaSineD
namespace Go.Proofs.Ytdepfikbjehjiaa.Flt
open Ieee Go.RowKit

/-- a number without a sign, at most '2 ^ e' -/
def nnm (x : Option Nat) (e : Int) : Prop := ∃ b m i, x = some b ∧ FloatKind.f64.format.read b = .number false m i ∧ -1074 ≤ i ∧ leP m i e
theorem nnm.mag {x : Option Nat} {e : Int} (h : nnm x e) : magC x e := by
  obtain ⟨b, m, i, h1, h2, h3, h4⟩ := h
  exact ⟨b, false, m, i, h1, h2, h3, h4⟩
theorem near_nnm (m : Nat) (place e : Int) (h : leP m place e) (h0 : -1074 ≤ e) (h1 : e ≤ 1022) : nnm (some (FloatKind.f64.format.nearest false m place)) e := by
  obtain ⟨m', i', g1, g2, g3, _⟩ := near64 false m place e h h0 h1
  exact ⟨_, m', i', rfl, g1, g3, g2⟩
theorem nnm_sq {x : Option Nat} {e : Int} (hx : nnm x e) (h0 : -1074 ≤ e + e) (h1 : e + e ≤ 1022) : nnm (fop .mul .f64 x x) (e + e) := by
  obtain ⟨b, m, i, rfl, h2, _, h4⟩ := hx
  have e1 : fop .mul .f64 (some b) (some b) = some (FloatKind.f64.format.nearest false (m * m) (i + i)) := by
    simp only [fop, Option.bind_some, floatBits, Format.mul, h2]; rfl
  rw [e1]
  exact near_nnm _ _ _ (leP_mul h4 h4) h0 h1
theorem nnm_quo {x y : Option Nat} {e f : Int} (hx : nnm x e) (hy : posC y f) (h0 : -1074 ≤ e - f) (h1 : e - f ≤ 1022) : nnm (fop .quo .f64 x y) (e - f) := by
  obtain ⟨b, m, i, rfl, h2, _, h4⟩ := hx
  obtain ⟨c, n, j, rfl, g2, _, g4⟩ := hy
  obtain ⟨r, k, p, hs, hl⟩ := quot_le (s := false) (t := false) h4 g4 (FloatKind.f64.format.fractionBits + 2)
  have hr : r = false := by
    have hn : n ≠ 0 := g4.1
    simp only [Datum.quotient, if_neg hn, Option.some.injEq, Datum.number.injEq] at hs
    exact hs.1.symm
  subst hr
  have e1 : fop .quo .f64 (some b) (some c) = some (FloatKind.f64.format.nearest false k p) := by
    simp only [fop, Option.bind_some, floatBits, Format.div, h2, g2, hs]; rfl
  rw [e1]
  exact near_nnm k p _ hl h0 h1
theorem nnm_sqrt {x : Option Nat} {e : Int} (h : nnm x (2 * e)) (h0 : -1074 ≤ e) (h1 : e ≤ 1022) : nnm (fsqrt x) e := by
  obtain ⟨b, m, i, rfl, h2, _, h4⟩ := h
  have key : ∃ k p, (Datum.number false m i).root (FloatKind.f64.format.fractionBits + 2) = some (.number false k p) ∧ leP k p e := by
    rcases root_le (s := false) h4 (FloatKind.f64.format.fractionBits + 2) with g | ⟨r, k, p, g, gl, hr⟩
    · exfalso
      by_cases hm : m = 0
      · simp [Datum.root, hm] at g
      · simp [Datum.root, hm] at g
    · have : r = false := by
        by_cases hm : m = 0
        · simp [Datum.root, hm] at g; exact g.1
        · simp [Datum.root, hm] at g; exact g.1
      subst this
      exact ⟨k, p, g, gl⟩
  obtain ⟨k, p, g, gl⟩ := key
  have e1 : fsqrt (some b) = some (FloatKind.f64.format.nearest false k p) := by
    show FloatKind.f64.format.sqrt b = _
    unfold Format.sqrt
    rw [h2, g]; rfl
  rw [e1]
  exact near_nnm k p _ gl h0 h1
/-- 1 and a number without a sign -/
theorem one_add {y : Option Nat} {e : Int} (hy : nnm y e) (h0 : 0 ≤ e) (h1 : e ≤ 1000) : nnm (fop .add .f64 (some 4607182418800017408) y) (e + 1) ∧ posC (fop .add .f64 (some 4607182418800017408) y) 0 := by
  obtain ⟨c, n, j, rfl, g2, g3, g4⟩ := hy
  have ho : FloatKind.f64.format.read 4607182418800017408 = .number false (2 ^ 52) (-52) := by decide
  obtain ⟨r, k, p, hs, hl⟩ := sum_le (s := false) (t := false) (m := 2 ^ 52) (i := -52) (e := 0) (.inr ⟨by omega, by decide⟩) g4
  have hl' : leP k p (e + 1) := leP_mono hl (by omega)
  have key : r = false ∧ k ≠ 0 ∧ geP k p 0 := by
    simp only [Datum.sum, Option.some.injEq, Datum.number.injEq] at hs
    obtain ⟨e1, e2, e3⟩ := hs
    have es : ∀ a u, signed false a u = ((a * 2 ^ u : Nat) : Int) := fun a u => by unfold signed; rw [Nat.shiftLeft_eq]; rfl
    rw [es, es] at e1 e2
    have hp : 0 < 2 ^ (-52 - min (-52) j).toNat := Nat.two_pow_pos _
    have hbig : 2 ^ 52 * 2 ^ (-52 - min (-52) j).toNat = 2 ^ (0 - min (-52) j).toNat := by
      rw [← Nat.pow_add]; congr 1; omega
    rw [hbig] at e1 e2
    have hp2 : 0 < 2 ^ (0 - min (-52) j).toNat := Nat.two_pow_pos _
    obtain ⟨A, hA⟩ : ∃ A, A = 2 ^ (0 - min (-52) j).toNat := ⟨_, rfl⟩
    rw [← hA] at e1 e2 hp2
    generalize n * 2 ^ (j - min (-52) j).toNat = B at *
    have hne : ((A : Int) + (B : Int)) ≠ 0 := by omega
    have hnl : ¬ ((A : Int) + (B : Int)) < 0 := by omega
    rw [if_neg hne] at e1
    have hk : k = A + B := by rw [← e2]; omega
    refine ⟨by rw [← e1]; simpa using hnl, by omega, by omega, ?_⟩
    rw [← e3, ← hA, hk]; omega
  obtain ⟨rfl, hk0, hge⟩ := key
  have e1 : fop .add .f64 (some 4607182418800017408) (some c) = some (FloatKind.f64.format.nearest false k p) := by
    simp only [fop, Option.bind_some, floatBits, Format.add, ho, g2, hs]; rfl
  rw [e1]
  obtain ⟨m', i', q1, q2, q3, q4⟩ := near64 false k p (e + 1) hl' (by omega) (by omega)
  exact ⟨⟨_, m', i', rfl, q1, q3, q2⟩, ⟨_, m', i', rfl, q1, q3, q4 hk0 0 (by omega) hge⟩⟩

/-- a quotient of a number and one that is not less -/
theorem quo_one {x y : Option Nat} (hx : ∃ b m i, x = some b ∧ FloatKind.f64.format.read b = .number false m i ∧ -1074 ≤ i) (hy : ∃ c n j, y = some c ∧ FloatKind.f64.format.read c = .number false n j ∧ -1074 ≤ j ∧ n ≠ 0)
    (hle : fcmp .gtr (ford .f64 x y) = false) : nnm (fop .quo .f64 x y) 0 := by
  obtain ⟨b, m, i, rfl, h2, h3⟩ := hx
  obtain ⟨c, n, j, rfl, g2, g3, hn⟩ := hy
  have hval : m * 2 ^ (i - -1074).toNat ≤ n * 2 ^ (j - -1074).toNat := by
    have e : ford .f64 (some b) (some c) = some (compare (signed false m (i - -1074).toNat) (signed false n (j - -1074).toNat)) := by
      show FloatKind.f64.format.order b c = _
      unfold Format.order
      rw [h2, g2, order_num false false m n i j (-1074) h3 g3]
    rw [e] at hle
    have es : ∀ a u, signed false a u = ((a * 2 ^ u : Nat) : Int) := fun a u => by unfold signed; rw [Nat.shiftLeft_eq]; rfl
    rw [es, es] at hle
    rcases Nat.lt_or_ge (n * 2 ^ (j - -1074).toNat) (m * 2 ^ (i - -1074).toNat) with h | h
    · rw [compare_gt (by omega)] at hle; cases hle
    · exact h
  have key : ∃ k p, (Datum.number false m i).quotient (FloatKind.f64.format.fractionBits + 2) (Datum.number false n j) = some (.number false k p) ∧ leP k p 0 := by
    refine ⟨2 * (m <<< (FloatKind.f64.format.fractionBits + 2 + n.log2 - m.log2) / n) + (m <<< (FloatKind.f64.format.fractionBits + 2 + n.log2 - m.log2) % n != 0).toNat, i - j - ((FloatKind.f64.format.fractionBits + 2 + n.log2 - m.log2 : Nat) : Int) - 1, by simp only [Datum.quotient, if_neg hn]; rfl, ?_⟩
    generalize FloatKind.f64.format.fractionBits + 2 = d
    generalize hmore : d + n.log2 - m.log2 = more
    by_cases hm : m = 0
    · left; subst hm; simp
    · right
      have a1 : 2 ^ m.log2 ≤ m := Nat.log2_self_le hm
      have a2 : n < 2 ^ (n.log2 + 1) := Nat.lt_log2_self
      have a3 : 2 ^ (m.log2 + (i - -1074).toNat) < 2 ^ (n.log2 + 1 + (j - -1074).toNat) := by
        rw [Nat.pow_add, Nat.pow_add]
        calc 2 ^ m.log2 * 2 ^ (i - -1074).toNat ≤ m * 2 ^ (i - -1074).toNat := Nat.mul_le_mul_right _ a1
          _ ≤ n * 2 ^ (j - -1074).toNat := hval
          _ < 2 ^ (n.log2 + 1) * 2 ^ (j - -1074).toNat := Nat.mul_lt_mul_of_pos_right a2 (Nat.two_pow_pos _)
      have a4 : m.log2 + (i - -1074).toNat < n.log2 + 1 + (j - -1074).toNat := (Nat.pow_lt_pow_iff_right (by omega)).1 a3
      obtain ⟨D, hD⟩ : ∃ D : Nat, (D : Int) = j - i + more := ⟨(j - i + more).toNat, by omega⟩
      have hdiv : m <<< more ≤ 2 ^ D * n := by
        rw [Nat.shiftLeft_eq]
        have b1 : m * 2 ^ more * 2 ^ (i - -1074).toNat ≤ 2 ^ D * n * 2 ^ (i - -1074).toNat := by
          calc m * 2 ^ more * 2 ^ (i - -1074).toNat = m * 2 ^ (i - -1074).toNat * 2 ^ more := by rw [Nat.mul_assoc, Nat.mul_assoc, Nat.mul_comm (2 ^ more)]
            _ ≤ n * 2 ^ (j - -1074).toNat * 2 ^ more := Nat.mul_le_mul_right _ hval
            _ = n * (2 ^ D * 2 ^ (i - -1074).toNat) := by
                rw [Nat.mul_assoc, ← Nat.pow_add, ← Nat.pow_add]
                congr 2; omega
            _ = 2 ^ D * n * 2 ^ (i - -1074).toNat := by rw [← Nat.mul_assoc, Nat.mul_comm n]
        exact Nat.le_of_mul_le_mul_right b1 (Nat.two_pow_pos _)
      have hnp : 0 < n := Nat.pos_of_ne_zero hn
      have hq : m <<< more / n ≤ 2 ^ D := Nat.div_le_of_le_mul (by rw [Nat.mul_comm]; exact hdiv)
      refine ⟨by omega, ?_⟩
      have e1 : (0 - (i - j - more - 1)).toNat = D + 1 := by omega
      rw [e1, Nat.pow_succ]
      rcases Nat.lt_or_eq_of_le hq with h5 | h5
      · have : ((m <<< more % n != 0).toNat) ≤ 1 := by cases (m <<< more % n != 0) <;> decide
        omega
      · have h6 : m <<< more % n = 0 := by
          have := Nat.div_add_mod (m <<< more) n
          rw [h5, Nat.mul_comm] at this
          omega
        rw [h5, h6]
        simp; omega
  obtain ⟨k, p, hs, hl⟩ := key
  have e1 : fop .quo .f64 (some b) (some c) = some (FloatKind.f64.format.nearest false k p) := by
    simp only [fop, Option.bind_some, floatBits, Format.div, h2, g2, hs]; rfl
  rw [e1]
  exact near_nnm k p 0 hl (by omega) (by omega)

/-- the rounds that make the tangent smaller -/
def smallC (t : Option Nat) : Option Nat := fop .quo .f64 t (fop .add .f64 (some 4607182418800017408) (fsqrt (fop .add .f64 (some 4607182418800017408) (fop .mul .f64 t t))))
def tanC (u p : Option Nat) (k : Int) : Option Nat := fop .sub .f64 (fop .quo .f64 (some 4607182418800017408) (some (floatOfInt .f64 k))) (fop .mul .f64 u p)
def tanPoly (u : Option Nat) : Option Nat := tanC u (tanC u (tanC u (tanC u (tanC u (tanC u (tanC u (tanC u (some 0) 15) 13) 11) 9) 7) 5) 3) 1
def eighthTail (t : Option Nat) : Option Nat := fop .quo .f64 (fop .mul .f64 (some 4620693217682128896) (fop .mul .f64 t (tanPoly (fop .mul .f64 t t)))) (some 4618760256179416344)
def eighthC (t : Option Nat) : Option Nat := eighthTail (smallC (smallC (smallC t)))

theorem nnm_mono {x : Option Nat} {e e' : Int} (h : nnm x e) (he : e ≤ e') : nnm x e' := by
  obtain ⟨b, m, i, h1, h2, h3, h4⟩ := h
  exact ⟨b, m, i, h1, h2, h3, leP_mono h4 he⟩
theorem nnm_small {t : Option Nat} (h : nnm t 0) : nnm (smallC t) 0 := by
  have h1 := nnm_sq h (by omega) (by omega)
  have h2 := (one_add h1 (by omega) (by omega)).1
  have h3 := nnm_sqrt (e := 1) (nnm_mono h2 (by omega)) (by omega) (by omega)
  have h4 := (one_add h3 (by omega) (by omega)).2
  have := nnm_quo h h4 (by omega) (by omega)
  exact nnm_mono this (by omega)
theorem posc (d : Int) (c : Nat) (hc : floatOfInt .f64 d = c) (m : Nat) (i : Int) (h : FloatKind.f64.format.read c = .number false m i) (hi : -1074 ≤ i) (hm : m ≠ 0 ∧ 2 ^ (0 - i).toNat ≤ m) : posC (some (floatOfInt .f64 d)) 0 := by
  rw [hc]; exact ⟨c, m, i, rfl, h, hi, hm⟩
theorem mag_tan {u p : Option Nat} {k e : Int} (hu : magC u 0) (hp : magC p e) (hk : posC (some (floatOfInt .f64 k)) 0) (h0 : 0 ≤ e) (h1 : e ≤ 100) : magC (tanC u p k) (e + 1) := by
  have g1 := mag_quo mag_one hk (by omega) (by omega)
  have g2 := mag_mul hu hp (by omega) (by omega)
  exact magC_mono (mag_sub g1 g2 (by omega) (by omega)) (by omega)
theorem mag_tanPoly {u : Option Nat} (hu : magC u 0) : magC (tanPoly u) 10 := by
  have z : magC (some 0) 0 := ⟨0, false, 0, -1074, rfl, by decide, by omega, .inl rfl⟩
  have h1 := mag_tan hu z (posc 15 4624633867356078080 (by decide) 8444249301319680 (-49) (by decide) (by omega) (by decide)) (by omega) (by omega)
  have h2 := mag_tan hu h1 (posc 13 4623507967449235456 (by decide) 7318349394477056 (-49) (by decide) (by omega) (by decide)) (by omega) (by omega)
  have h3 := mag_tan hu h2 (posc 11 4622382067542392832 (by decide) 6192449487634432 (-49) (by decide) (by omega) (by decide)) (by omega) (by omega)
  have h4 := mag_tan hu h3 (posc 9 4621256167635550208 (by decide) 5066549580791808 (-49) (by decide) (by omega) (by decide)) (by omega) (by omega)
  have h5 := mag_tan hu h4 (posc 7 4619567317775286272 (by decide) 7881299347898368 (-50) (by decide) (by omega) (by decide)) (by omega) (by omega)
  have h6 := mag_tan hu h5 (posc 5 4617315517961601024 (by decide) 5629499534213120 (-50) (by decide) (by omega) (by decide)) (by omega) (by omega)
  have h7 := mag_tan hu h6 (posc 3 4613937818241073152 (by decide) 6755399441055744 (-51) (by decide) (by omega) (by decide)) (by omega) (by omega)
  have h8 := mag_tan hu h7 (posc 1 4607182418800017408 (by decide) 4503599627370496 (-52) (by decide) (by omega) (by decide)) (by omega) (by omega)
  exact magC_mono h8 (by omega)
theorem mag_eighth {t : Option Nat} (h : nnm t 0) : magC (eighthC t) 12 := by
  have h3 := nnm_small (nnm_small (nnm_small h))
  have hu := (nnm_sq h3 (by omega) (by omega)).mag
  have hp := mag_tanPoly (magC_mono hu (by omega))
  have g1 := mag_mul h3.mag hp (by omega) (by omega)
  have h8 : magC (some 4620693217682128896) 3 := mag_num _ false (2 ^ 52) (-49) 3 (by decide) (by omega) (by decide)
  have g2 := mag_mul h8 g1 (by omega) (by omega)
  have ht : posC (some 4618760256179416344) 2 := ⟨_, 7074237752028440, -50, rfl, by decide, by omega, (show geP _ _ _ from ⟨by decide, by decide⟩)⟩
  exact magC_mono (mag_quo g2 ht (by omega) (by omega)) (by omega)

/-- the angle of a point whose coordinates are finite, and not both 0 -/
def tangentC (A B : Option Nat) : Option Nat := if fcmp .gtr (ford .f64 A B) then fop .quo .f64 B A else fop .quo .f64 A B
def turnC (A B ang : Option Nat) : Option Nat := if fcmp .gtr (ford .f64 A B) then fop .sub .f64 (some 4598175219545276416) ang else ang
def sideC (X ang : Option Nat) : Option Nat := if fcmp .lss (ford .f64 X (some 0)) then fop .sub .f64 (some 4602678819172646912) ang else ang
def downC (Y ang : Option Nat) : Option Nat := if fcmp .lss (ford .f64 Y (some 0)) then fneg ang else ang
def angleW (Y X : Option Nat) : Option Nat := downC Y (sideC X (turnC (fabs Y) (fabs X) (eighthC (tangentC (fabs Y) (fabs X)))))

/-- the class of a finite number -/
def isNum (Y : Option Nat) : Prop := ∃ b s m i, Y = some b ∧ FloatKind.f64.format.read b = .number s m i ∧ -1074 ≤ i

theorem zero_of (b : Nat) (s : Bool) (i : Int) (hr : FloatKind.f64.format.read b = .number s 0 i) (hi : -1074 ≤ i) : fcmp .eql (ford .f64 (some b) (some 0)) = true := by
  have e : ford .f64 (some b) (some 0) = some .eq := by
    show FloatKind.f64.format.order b 0 = _
    have h0 : FloatKind.f64.format.read 0 = .number false 0 (-1074) := by decide
    unfold Format.order
    rw [hr, h0, order_num s false 0 0 i (-1074) (-1074) hi (by omega)]
    have e1 : ∀ s' u, signed s' 0 u = 0 := fun s' u => by unfold signed; cases s' <;> simp
    rw [e1, e1]; rfl
  rw [e]; rfl

theorem gtr_val (b c : Nat) (m n : Nat) (i j : Int) (h2 : FloatKind.f64.format.read b = .number false m i) (h3 : -1074 ≤ i) (g2 : FloatKind.f64.format.read c = .number false n j) (g3 : -1074 ≤ j) :
    fcmp .gtr (ford .f64 (some b) (some c)) = decide (n * 2 ^ (j - -1074).toNat < m * 2 ^ (i - -1074).toNat) := by
  have e : ford .f64 (some b) (some c) = some (compare (signed false m (i - -1074).toNat) (signed false n (j - -1074).toNat)) := by
    show FloatKind.f64.format.order b c = _
    unfold Format.order
    rw [h2, g2, order_num false false m n i j (-1074) h3 g3]
  have es : ∀ a u, signed false a u = ((a * 2 ^ u : Nat) : Int) := fun a u => by unfold signed; rw [Nat.shiftLeft_eq]; rfl
  rw [e, es, es]
  generalize n * 2 ^ (j - -1074).toNat = B
  generalize m * 2 ^ (i - -1074).toNat = A
  rcases Nat.lt_trichotomy A B with h | h | h
  · rw [compare_lt (by omega)]; simp [fcmp]; omega
  · rw [compare_eq (by omega)]; simp [fcmp]; omega
  · rw [compare_gt (by omega)]; simp [fcmp]; omega

theorem angle_mag {Y X : Option Nat} (hY : isNum Y) (hX : isNum X) (hz : fcmp .eql (ford .f64 Y (some 0)) = false ∨ fcmp .eql (ford .f64 X (some 0)) = false) : magC (angleW Y X) 20 := by
  obtain ⟨b, s, m, i, rfl, h2, h3⟩ := hY
  obtain ⟨c, t, n, j, rfl, g2, g3⟩ := hX
  have hA : FloatKind.f64.format.read (absW b) = .number false m i := by rw [read_abs, h2]; rfl
  have hB : FloatKind.f64.format.read (absW c) = .number false n j := by rw [read_abs, g2]; rfl
  have ht : nnm (tangentC (fabs (some b)) (fabs (some c))) 0 := by
    show nnm (tangentC (some (absW b)) (some (absW c))) 0
    unfold tangentC
    have v := gtr_val _ _ m n i j hA h3 hB g3
    by_cases hc : n * 2 ^ (j - -1074).toNat < m * 2 ^ (i - -1074).toNat
    · rw [v, decide_eq_true hc, if_pos rfl]
      refine quo_one ⟨_, _, _, rfl, hB, g3⟩ ⟨_, _, _, rfl, hA, h3, ?_⟩ ?_
      · intro hm; rw [hm, Nat.zero_mul] at hc; omega
      · rw [gtr_val _ _ n m j i hB g3 hA h3]; exact decide_eq_false (by omega)
    · rw [v, decide_eq_false hc, if_neg (by decide)]
      refine quo_one ⟨_, _, _, rfl, hA, h3⟩ ⟨_, _, _, rfl, hB, g3, ?_⟩ (by rw [v]; simpa using hc)
      intro hn
      subst hn
      have hm : m = 0 := by
        rcases Nat.eq_zero_or_pos m with h | h
        · exact h
        · exfalso
          have : 0 < m * 2 ^ (i - -1074).toNat := Nat.mul_pos h (Nat.two_pow_pos _)
          omega
      subst hm
      rcases hz with hz | hz
      · rw [zero_of b s i h2 h3] at hz; cases hz
      · rw [zero_of c t j g2 g3] at hz; cases hz
  have h1 := mag_eighth ht
  have hq : magC (some 4598175219545276416) 0 := mag_num _ false (2 ^ 52) (-54) 0 (by decide) (by omega) (by decide)
  have h4 : ∀ a, magC a 12 → magC (turnC (fabs (some b)) (fabs (some c)) a) 13 := fun a ha => by
    unfold turnC
    split
    · exact magC_mono (mag_sub hq ha (by omega) (by omega)) (by omega)
    · exact magC_mono ha (by omega)
  have h5 : ∀ a, magC a 13 → magC (sideC (some c) a) 14 := fun a ha => by
    unfold sideC
    split
    · exact magC_mono (mag_sub mag_half ha (by omega) (by omega)) (by omega)
    · exact magC_mono ha (by omega)
  have h6 : ∀ a, magC a 14 → magC (downC (some b) a) 20 := fun a ha => by
    unfold downC
    split
    · exact magC_mono (mag_neg ha) (by omega)
    · exact magC_mono ha (by omega)
  exact h6 _ (h5 _ (h4 _ h1))

theorem isNum_wide {x : Option Nat} (h : fin32 x = true) (hx : ∀ b, x = some b → nanW .f32 b = false) : isNum (fwide x) := by
  cases x with
  | none => cases h
  | some b =>
    rcases wide_read b (hx b rfl) with ⟨s, h1, h2⟩ | ⟨s, m, e, m', e', h1, h2, hm2, he, he2, he3, hv⟩
    · simp only [fin32, h1] at h; cases h
    · exact ⟨_, s, m', e', rfl, h2, he3⟩

theorem ford_wide0 (x : Option Nat) (hx : ∀ b, x = some b → nanW .f32 b = false) : ford .f64 (fwide x) (some 0) = ford .f32 x (some 0) := by
  have e : fwide (some 0) = some 0 := by decide
  rw [← e, ford_wide x (some 0) hx (fun b hb => by cases hb; decide)]
  rfl

end Go.Proofs.Ytdepfikbjehjiaa.Flt
