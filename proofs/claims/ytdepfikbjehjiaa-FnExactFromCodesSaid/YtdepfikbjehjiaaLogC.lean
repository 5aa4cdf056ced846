/- The logarithm, on classes. -/
import Derived.Test.YtdepfikbjehjiaaAngC
namespace Go.Proofs.Ytdepfikbjehjiaa.Flt
open Ieee Go.RowKit

def halC (x : Option Nat) : Option Nat := fop .quo .f64 x (some 4611686018427387904)
def dblC (x : Option Nat) : Option Nat := fop .mul .f64 x (some 4611686018427387904)
def itC (f : Option Nat → Option Nat) : Nat → Option Nat → Option Nat
  | 0, x => x
  | n + 1, x => f (itC f n x)
theorem itC_succ (f : Option Nat → Option Nat) (n : Nat) (x : Option Nat) : itC f n (f x) = itC f (n + 1) x := by
  induction n with
  | zero => rfl
  | succ n ih => show f (itC f n (f x)) = f (itC f (n + 1) x); rw [ih]

/-- a number between two powers of two -/
def rg (x : Option Nat) (f e : Int) : Prop := ∃ b m i, x = some b ∧ FloatKind.f64.format.read b = .number false m i ∧ -1074 ≤ i ∧ geP m i f ∧ leP m i e

theorem ford_val (b c : Nat) (m n : Nat) (i j : Int) (h2 : FloatKind.f64.format.read b = .number false m i) (h3 : -1074 ≤ i) (g2 : FloatKind.f64.format.read c = .number false n j) (g3 : -1074 ≤ j) :
    ford .f64 (some b) (some c) = some (compare ((m * 2 ^ (i - -1074).toNat : Nat) : Int) ((n * 2 ^ (j - -1074).toNat : Nat) : Int)) := by
  have es : ∀ a u, signed false a u = ((a * 2 ^ u : Nat) : Int) := fun a u => by unfold signed; rw [Nat.shiftLeft_eq]; rfl
  rw [← es, ← es]
  show FloatKind.f64.format.order b c = _
  unfold Format.order
  rw [h2, g2, order_num false false m n i j (-1074) h3 g3]
theorem geq_val (b c : Nat) (m n : Nat) (i j B : Int) (hB : B = -1074) (h2 : FloatKind.f64.format.read b = .number false m i) (h3 : B ≤ i) (g2 : FloatKind.f64.format.read c = .number false n j) (g3 : B ≤ j) :
    fcmp .geq (ford .f64 (some b) (some c)) = decide (n * 2 ^ (j - B).toNat ≤ m * 2 ^ (i - B).toNat) := by
  subst hB
  rw [ford_val b c m n i j h2 h3 g2 g3]
  generalize n * 2 ^ (j - -1074).toNat = B
  generalize m * 2 ^ (i - -1074).toNat = A
  rcases Nat.lt_trichotomy A B with h | h | h
  · rw [compare_lt (by omega)]; simp [fcmp]; omega
  · rw [compare_eq (by omega)]; simp [fcmp]; omega
  · rw [compare_gt (by omega)]; simp [fcmp]; omega
theorem lss_val (b c : Nat) (m n : Nat) (i j B : Int) (hB : B = -1074) (h2 : FloatKind.f64.format.read b = .number false m i) (h3 : B ≤ i) (g2 : FloatKind.f64.format.read c = .number false n j) (g3 : B ≤ j) :
    fcmp .lss (ford .f64 (some b) (some c)) = decide (m * 2 ^ (i - B).toNat < n * 2 ^ (j - B).toNat) := by
  subst hB
  rw [ford_val b c m n i j h2 h3 g2 g3]
  generalize n * 2 ^ (j - -1074).toNat = B
  generalize m * 2 ^ (i - -1074).toNat = A
  rcases Nat.lt_trichotomy A B with h | h | h
  · rw [compare_lt (by omega)]; simp [fcmp]; omega
  · rw [compare_eq (by omega)]; simp [fcmp]; omega
  · rw [compare_gt (by omega)]; simp [fcmp]; omega

theorem ge_iff {m : Nat} {i f B : Int} (hi : B ≤ i) (hf : B ≤ f) (h : 2 ^ (f - B).toNat ≤ m * 2 ^ (i - B).toNat) : geP m i f := by
  have hp := Nat.two_pow_pos (f - B).toNat
  refine ⟨by rintro rfl; rw [Nat.zero_mul] at h; omega, ?_⟩
  by_cases hc : f ≤ i
  · have e : (f - i).toNat = 0 := by omega
    rw [e]
    rcases Nat.eq_zero_or_pos m with h0 | h0
    · subst h0; rw [Nat.zero_mul] at h; omega
    · exact h0
  · have e : (f - B).toNat = (f - i).toNat + (i - B).toNat := by omega
    rw [e, Nat.pow_add] at h
    exact Nat.le_of_mul_le_mul_right h (Nat.two_pow_pos _)
theorem ge_val {m : Nat} {i f B : Int} (hi : B ≤ i) (hf : B ≤ f) (h : geP m i f) : 2 ^ (f - B).toNat ≤ m * 2 ^ (i - B).toNat := by
  obtain ⟨_, h2⟩ := h
  refine Nat.le_trans ?_ (Nat.mul_le_mul_right _ h2)
  rw [← Nat.pow_add]
  exact Nat.pow_le_pow_right (by omega) (by omega)
theorem le_of {m : Nat} {i e B : Int} (hi : B ≤ i) (he : B ≤ e) (h : m * 2 ^ (i - B).toNat ≤ 2 ^ (e - B).toNat) : leP m i e := by
  rcases Nat.eq_zero_or_pos m with h0 | h0
  · exact .inl h0
  · right
    have h1 : 2 ^ (i - B).toNat ≤ 2 ^ (e - B).toNat := by
      refine Nat.le_trans ?_ h
      exact Nat.le_mul_of_pos_left _ h0
    have h2 : (i - B).toNat ≤ (e - B).toNat := (Nat.pow_le_pow_iff_right (by omega)).1 h1
    refine ⟨by omega, ?_⟩
    have e1 : (e - B).toNat = (e - i).toNat + (i - B).toNat := by omega
    rw [e1, Nat.pow_add] at h
    exact Nat.le_of_mul_le_mul_right h (Nat.two_pow_pos _)

theorem read_three : FloatKind.f64.format.read 4609434218613702656 = .number false 6755399441055744 (-52) := by decide
theorem read_three4 : FloatKind.f64.format.read 4604930618986332160 = .number false 6755399441055744 (-53) := by decide
theorem read_two : FloatKind.f64.format.read 4611686018427387904 = .number false 4503599627370496 (-51) := by decide
theorem base_ex : ∃ B : Int, B = -1074 := ⟨_, rfl⟩

theorem rg_geq {x : Option Nat} {f e : Int} (h : rg x f e) (hg : fcmp .geq (ford .f64 x (some 4609434218613702656)) = true) : rg x 0 e := by
  obtain ⟨b, m, i, rfl, h2, h3, h4, h5⟩ := h
  obtain ⟨B, hB⟩ := base_ex
  rw [geq_val b _ m _ i _ B hB h2 (by omega) read_three (by omega)] at hg
  have hg := of_decide_eq_true hg
  refine ⟨b, m, i, rfl, h2, h3, ge_iff (B := B) (by omega) (by omega) (Nat.le_trans ?_ hg), h5⟩
  have e1 : (0 - B).toNat = 52 + (-52 - B).toNat := by omega
  rw [e1, Nat.pow_add]
  exact Nat.mul_le_mul_right _ (by decide)
theorem rg_geq_not {x : Option Nat} {f e : Int} (h : rg x f e) (hg : fcmp .geq (ford .f64 x (some 4609434218613702656)) = false) : rg x f 1 := by
  obtain ⟨b, m, i, rfl, h2, h3, h4, h5⟩ := h
  obtain ⟨B, hB⟩ := base_ex
  rw [geq_val b _ m _ i _ B hB h2 (by omega) read_three (by omega)] at hg
  have hg := of_decide_eq_false hg
  refine ⟨b, m, i, rfl, h2, h3, h4, le_of (B := B) (by omega) (by omega) (Nat.le_trans (Nat.le_of_lt (Nat.lt_of_not_le hg)) ?_)⟩
  have e1 : (1 - B).toNat = 53 + (-52 - B).toNat := by omega
  rw [e1, Nat.pow_add]
  exact Nat.mul_le_mul_right _ (by decide)
theorem rg_zero_geq {x : Option Nat} {f : Int} (h : rg x f 0) : fcmp .geq (ford .f64 x (some 4609434218613702656)) = false := by
  obtain ⟨b, m, i, rfl, h2, h3, h4, h5⟩ := h
  obtain ⟨B, hB⟩ := base_ex
  rw [geq_val b _ m _ i _ B hB h2 (by omega) read_three (by omega)]
  apply decide_eq_false
  have h6 := leP_scale h5 (show B ≤ i by omega) (show B ≤ 0 by omega)
  have e1 : (0 - B).toNat = 52 + (-52 - B).toNat := by omega
  rw [e1, Nat.pow_add] at h6
  have h7 : 2 ^ 52 * 2 ^ (-52 - B).toNat < 6755399441055744 * 2 ^ (-52 - B).toNat := Nat.mul_lt_mul_of_pos_right (by decide) (Nat.two_pow_pos _)
  exact Nat.not_le_of_lt (Nat.lt_of_le_of_lt h6 h7)
theorem rg_lss {x : Option Nat} {f e : Int} (h : rg x f e) (hg : fcmp .lss (ford .f64 x (some 4604930618986332160)) = true) : rg x f 0 := by
  obtain ⟨b, m, i, rfl, h2, h3, h4, h5⟩ := h
  obtain ⟨B, hB⟩ := base_ex
  rw [lss_val b _ m _ i _ B hB h2 (by omega) read_three4 (by omega)] at hg
  have hg := of_decide_eq_true hg
  refine ⟨b, m, i, rfl, h2, h3, h4, le_of (B := B) (by omega) (by omega) (Nat.le_trans (Nat.le_of_lt hg) ?_)⟩
  have e1 : (0 - B).toNat = 53 + (-53 - B).toNat := by omega
  rw [e1, Nat.pow_add]
  exact Nat.mul_le_mul_right _ (by decide)
theorem rg_zero_lss {x : Option Nat} {e : Int} (h : rg x 0 e) : fcmp .lss (ford .f64 x (some 4604930618986332160)) = false := by
  obtain ⟨b, m, i, rfl, h2, h3, h4, h5⟩ := h
  obtain ⟨B, hB⟩ := base_ex
  rw [lss_val b _ m _ i _ B hB h2 (by omega) read_three4 (by omega)]
  apply decide_eq_false
  have h6 := ge_val (show B ≤ i by omega) (show B ≤ 0 by omega) h4
  have e1 : (0 - B).toNat = 53 + (-53 - B).toNat := by omega
  rw [e1, Nat.pow_add] at h6
  have h7 : 6755399441055744 * 2 ^ (-53 - B).toNat ≤ 2 ^ 53 * 2 ^ (-53 - B).toNat := Nat.mul_le_mul_right _ (by decide)
  exact Nat.not_lt_of_le (Nat.le_trans h7 h6)

theorem near_rg (m : Nat) (place f e : Int) (h : leP m place e) (hg : geP m place f) (h0 : -1074 ≤ e) (h1 : e ≤ 1022) (h2 : -1074 ≤ f) : rg (some (FloatKind.f64.format.nearest false m place)) f e := by
  obtain ⟨m', i', g1, g2, g3, g4⟩ := near64 false m place e h h0 h1
  exact ⟨_, m', i', rfl, g1, g3, g4 hg.1 f h2 hg, g2⟩
theorem rg_dbl {x : Option Nat} {f e : Int} (h : rg x f e) (h0 : -1000 ≤ e) (h1 : e ≤ 1000) (hf : -1000 ≤ f) : rg (dblC x) (f + 1) (e + 1) := by
  obtain ⟨b, m, i, rfl, h2, h3, h4, h5⟩ := h
  have e1 : dblC (some b) = some (FloatKind.f64.format.nearest false (m * 4503599627370496) (i + -51)) := by
    simp only [dblC, fop, Option.bind_some, floatBits, Format.mul, h2, read_two]; rfl
  rw [e1]
  have hl : leP 4503599627370496 (-51) 1 := .inr ⟨by omega, by decide⟩
  refine near_rg _ _ _ _ (leP_mul h5 hl) ?_ (by omega) (by omega) (by omega)
  refine ⟨Nat.mul_ne_zero h4.1 (by decide), ?_⟩
  have h6 : 2 ^ (f + 1 - (i + -51)).toNat ≤ 2 ^ (f - i).toNat * 2 ^ 52 := by
    rw [← Nat.pow_add]; exact Nat.pow_le_pow_right (by omega) (by omega)
  exact Nat.le_trans h6 (Nat.mul_le_mul h4.2 (by decide))

theorem read_small (b : Nat) (s : Bool) (m : Nat) (i : Int) (h : FloatKind.f64.format.read b = .number s m i) : m < 2 ^ 53 := by
  have hB : FloatKind.f64.format.binade = 2 ^ 52 := by decide
  unfold Format.read at h
  dsimp only at h
  rw [hB] at h
  have h53 : (2 : Nat) ^ 53 = 2 * 2 ^ 52 := by decide
  generalize (2 : Nat) ^ 52 = B at h h53
  generalize FloatKind.f64.format.signWeight = S at h
  split at h
  · rename_i hlt
    simp only [Datum.number.injEq] at h
    omega
  · split at h
    · simp only [Datum.number.injEq] at h
      obtain ⟨_, h, _⟩ := h
      have : b % S % B < B := Nat.mod_lt _ (by
        rcases Nat.eq_zero_or_pos B with h0 | h0
        · rename_i hlt _; omega
        · exact h0)
      omega
    · split at h <;> cases h

theorem rg_hal {x : Option Nat} {e : Int} (h : rg x 0 e) (h0 : -1000 ≤ e) (h1 : e ≤ 1000) : rg (halC x) (-1) (e - 1) := by
  obtain ⟨b, m, i, rfl, h2, h3, h4, h5⟩ := h
  have hg : geP 4503599627370496 (-51) 1 := ⟨by decide, by decide⟩
  obtain ⟨r, k, p, hs, hl⟩ := quot_le (s := false) (t := false) h5 hg (FloatKind.f64.format.fractionBits + 2)
  have hm := read_small b false m i h2
  have hm0 := h4.1
  have hlog : m.log2 < 53 := by
    have a1 : 2 ^ m.log2 ≤ m := Nat.log2_self_le hm0
    exact (Nat.pow_lt_pow_iff_right (by omega : 1 < 2)).1 (Nat.lt_of_le_of_lt a1 hm)
  have key : r = false ∧ geP k p (-1) := by
    have hd : FloatKind.f64.format.fractionBits + 2 + (4503599627370496 : Nat).log2 = 106 := by decide
    have hn : (4503599627370496 : Nat) ≠ 0 := by decide
    simp only [Datum.quotient, if_neg hn, Option.some.injEq, Datum.number.injEq, hd] at hs
    obtain ⟨e1, e2, e3⟩ := hs
    refine ⟨e1.symm, ?_⟩
    obtain ⟨t, ht⟩ : ∃ t, 106 - m.log2 = t + 52 := ⟨54 - m.log2, by omega⟩
    rw [ht] at e2 e3
    have e4 : m <<< (t + 52) / 4503599627370496 = m * 2 ^ t := by
      rw [Nat.shiftLeft_eq, Nat.pow_add, ← Nat.mul_assoc]
      exact Nat.mul_div_cancel _ (by decide)
    rw [e4] at e2
    have hpos : 0 < m * 2 ^ t := Nat.mul_pos (Nat.pos_of_ne_zero hm0) (Nat.two_pow_pos _)
    refine ⟨by omega, ?_⟩
    have h6 : 2 ^ (-1 - p).toNat ≤ 2 ^ ((0 - i).toNat + t + 1) := Nat.pow_le_pow_right (by omega) (by omega)
    have h7 : 2 ^ ((0 - i).toNat + t + 1) ≤ 2 * (m * 2 ^ t) := by
      rw [Nat.pow_succ, Nat.pow_add, Nat.mul_comm _ 2]
      exact Nat.mul_le_mul_left _ (Nat.mul_le_mul_right _ h4.2)
    omega
  obtain ⟨rfl, hk⟩ := key
  have e1 : halC (some b) = some (FloatKind.f64.format.nearest false k p) := by
    simp only [halC, fop, Option.bind_some, floatBits, Format.div, h2, read_two, hs]; rfl
  rw [e1]
  exact near_rg k p _ _ hl hk (by omega) (by omega) (by omega)

theorem rg_mono {x : Option Nat} {f f' e e' : Int} (h : rg x f e) (hf : f' ≤ f) (he : e ≤ e') : rg x f' e' := by
  obtain ⟨b, m, i, h1, h2, h3, h4, h5⟩ := h
  exact ⟨b, m, i, h1, h2, h3, ⟨h4.1, Nat.le_trans (Nat.pow_le_pow_right (by omega) (by omega)) h4.2⟩, leP_mono h5 he⟩

/-- how often the two loops go -/
def stops (X : Option Nat) (N M : Nat) : Prop := (∀ k, k < N → fcmp .geq (ford .f64 (itC halC k X) (some 4609434218613702656)) = true) ∧ fcmp .geq (ford .f64 (itC halC N X) (some 4609434218613702656)) = false ∧
  (∀ k, k < M → fcmp .lss (ford .f64 (itC dblC k (itC halC N X)) (some 4604930618986332160)) = true) ∧ fcmp .lss (ford .f64 (itC dblC M (itC halC N X)) (some 4604930618986332160)) = false

theorem hal_ex (e : Nat) (he : e ≤ 200) : ∀ x, rg x (-149) e → ∃ N, N ≤ e ∧ (∀ k, k < N → fcmp .geq (ford .f64 (itC halC k x) (some 4609434218613702656)) = true) ∧ fcmp .geq (ford .f64 (itC halC N x) (some 4609434218613702656)) = false ∧ rg (itC halC N x) (-149) 1 := by
  induction e with
  | zero => exact fun x h => ⟨0, Nat.le_refl _, fun k hk => absurd hk (Nat.not_lt_zero k), rg_zero_geq h, rg_mono h (by omega) (by omega)⟩
  | succ e ih =>
    intro x h
    cases hg : fcmp .geq (ford .f64 x (some 4609434218613702656)) with
    | false => exact ⟨0, Nat.zero_le _, fun k hk => absurd hk (Nat.not_lt_zero k), hg, rg_geq_not h hg⟩
    | true =>
      have h1 := rg_hal (rg_geq h hg) (by omega) (by omega)
      obtain ⟨N, hN, ha, hb, hc⟩ := ih (by omega) (halC x) (rg_mono h1 (by omega) (by omega))
      refine ⟨N + 1, by omega, fun k hk => ?_, by rw [← itC_succ]; exact hb, by rw [← itC_succ]; exact hc⟩
      cases k with
      | zero => exact hg
      | succ k => rw [← itC_succ]; exact ha k (by omega)
theorem dbl_ex (d : Nat) (hd : d ≤ 200) : ∀ x, rg x (-(d : Int)) 1 → ∃ M, M ≤ d ∧ (∀ k, k < M → fcmp .lss (ford .f64 (itC dblC k x) (some 4604930618986332160)) = true) ∧ fcmp .lss (ford .f64 (itC dblC M x) (some 4604930618986332160)) = false ∧ nnm (itC dblC M x) 1 := by
  have hn : ∀ x f, rg x f 1 → nnm x 1 := fun x f h => by
    obtain ⟨b, m, i, h1, h2, h3, h4, h5⟩ := h
    exact ⟨b, m, i, h1, h2, h3, h5⟩
  induction d with
  | zero => exact fun x h => ⟨0, Nat.le_refl _, fun k hk => absurd hk (Nat.not_lt_zero k), rg_zero_lss (rg_mono h (by omega) (Int.le_refl _)), hn _ _ h⟩
  | succ d ih =>
    intro x h
    cases hg : fcmp .lss (ford .f64 x (some 4604930618986332160)) with
    | false => exact ⟨0, Nat.zero_le _, fun k hk => absurd hk (Nat.not_lt_zero k), hg, hn _ _ h⟩
    | true =>
      have h1 := rg_dbl (rg_lss h hg) (by omega) (by omega) (by omega)
      obtain ⟨M, hM, ha, hb, hc⟩ := ih (by omega) (dblC x) (rg_mono h1 (by omega) (by omega))
      refine ⟨M + 1, by omega, fun k hk => ?_, by rw [← itC_succ]; exact hb, by rw [← itC_succ]; exact hc⟩
      cases k with
      | zero => exact hg
      | succ k => rw [← itC_succ]; exact ha k (by omega)
theorem stops_ex (x : Option Nat) (h : rg x (-149) 200) : ∃ N M, N ≤ 200 ∧ M ≤ 149 ∧ stops x N M ∧ nnm (itC dblC M (itC halC N x)) 1 := by
  obtain ⟨N, hN, a1, a2, a3⟩ := hal_ex 200 (by omega) x h
  obtain ⟨M, hM, b1, b2, b3⟩ := dbl_ex 149 (by omega) _ a3
  exact ⟨N, M, hN, hM, ⟨a1, a2, b1, b2⟩, b3⟩

/-- what follows the loops -/
def logStep (u q : Option Nat) (k : Int) : Option Nat := fop .add .f64 (fop .quo .f64 (some 4607182418800017408) (some (floatOfInt .f64 k))) (fop .mul .f64 u q)
def logPoly (u : Option Nat) : Option Nat := logStep u (logStep u (logStep u (logStep u (logStep u (logStep u (logStep u (logStep u (logStep u (logStep u (logStep u (logStep u (logStep u (some 0) 25) 23) 21) 19) 17) 15) 13) 11) 9) 7) 5) 3) 1
def logS (Z : Option Nat) : Option Nat := fop .quo .f64 (fop .sub .f64 Z (some 4607182418800017408)) (fop .add .f64 Z (some 4607182418800017408))
def logTail (Z : Option Nat) (e : Int) : Option Nat :=
  fop .add .f64 (fop .mul .f64 (some 4611686018427387904) (fop .mul .f64 (logS Z) (logPoly (fop .mul .f64 (logS Z) (logS Z))))) (fop .mul .f64 (some (floatOfInt .f64 e)) (some 4604418534313441775))
def logC (X : Option Nat) (N M : Nat) : Option Nat := logTail (itC dblC M (itC halC N X)) ((N : Int) - M)

theorem sub_one {y : Option Nat} (hy : nnm y 1) : magC (fop .sub .f64 y (some 4607182418800017408)) 0 := by
  obtain ⟨c, n, j, rfl, g2, g3, g4⟩ := hy
  have ho : FloatKind.f64.format.read 4607182418800017408 = .number false (2 ^ 52) (-52) := by decide
  have hsum : ∃ r k, (Datum.number false n j).sum (Datum.number false (2 ^ 52) (-52)).opposite = some (.number r k (min j (-52))) ∧ k ≤ 2 ^ (0 - min j (-52)).toNat := by
    refine ⟨_, _, rfl, ?_⟩
    generalize hB : min j (-52) = B
    have h1 := leP_scale g4 (show B ≤ j by omega) (show B ≤ 1 by omega)
    have e1 : (1 - B).toNat = (0 - B).toNat + 1 := by omega
    have e2 : 2 ^ 52 * 2 ^ (-52 - B).toNat = 2 ^ (0 - B).toNat := by rw [← Nat.pow_add]; congr 1; omega
    rw [e1, Nat.pow_succ] at h1
    unfold signed
    simp only [Nat.shiftLeft_eq, e2]
    generalize n * 2 ^ (j - B).toNat = A at h1
    generalize 2 ^ (0 - B).toNat = S at h1
    simp only [Bool.not_false, if_true, Bool.false_eq_true, if_false]
    omega
  obtain ⟨r, k, hs, hk⟩ := hsum
  have e1 : fop .sub .f64 (some c) (some 4607182418800017408) = some (FloatKind.f64.format.nearest r k (min j (-52))) := by
    simp only [fop, Option.bind_some, floatBits, Format.sub, g2, ho, hs]; rfl
  rw [e1]
  exact near_mag r k _ 0 (.inr ⟨by omega, hk⟩) (by omega) (by omega)
theorem add_one {y : Option Nat} {e : Int} (hy : nnm y e) (h0 : 0 ≤ e) (h1 : e ≤ 1000) : posC (fop .add .f64 y (some 4607182418800017408)) 0 := by
  obtain ⟨c, n, j, rfl, g2, g3, g4⟩ := hy
  have ho : FloatKind.f64.format.read 4607182418800017408 = .number false (2 ^ 52) (-52) := by decide
  obtain ⟨r, k, p, hs, hl⟩ := sum_le (s := false) (t := false) (n := 2 ^ 52) (j := -52) (f := 0) g4 (.inr ⟨by omega, by decide⟩)
  have hl' : leP k p (e + 1) := leP_mono hl (by omega)
  have key : r = false ∧ k ≠ 0 ∧ geP k p 0 := by
    simp only [Datum.sum, Option.some.injEq, Datum.number.injEq] at hs
    obtain ⟨e1, e2, e3⟩ := hs
    have es : ∀ a u, signed false a u = ((a * 2 ^ u : Nat) : Int) := fun a u => by unfold signed; rw [Nat.shiftLeft_eq]; rfl
    rw [es, es] at e1 e2
    have hbig : 2 ^ 52 * 2 ^ (-52 - min j (-52)).toNat = 2 ^ (0 - min j (-52)).toNat := by
      rw [← Nat.pow_add]; congr 1; omega
    rw [hbig] at e1 e2
    have hp2 : 0 < 2 ^ (0 - min j (-52)).toNat := Nat.two_pow_pos _
    obtain ⟨A, hA⟩ : ∃ A, A = 2 ^ (0 - min j (-52)).toNat := ⟨_, rfl⟩
    rw [← hA] at e1 e2 hp2
    generalize n * 2 ^ (j - min j (-52)).toNat = B at *
    have hne : ((B : Int) + (A : Int)) ≠ 0 := by omega
    have hnl : ¬ ((B : Int) + (A : Int)) < 0 := by omega
    rw [if_neg hne] at e1
    have hk : k = B + A := by rw [← e2]; omega
    refine ⟨by rw [← e1]; simpa using hnl, by omega, by omega, ?_⟩
    rw [← e3, ← hA, hk]; omega
  obtain ⟨rfl, hk0, hge⟩ := key
  have e1 : fop .add .f64 (some c) (some 4607182418800017408) = some (FloatKind.f64.format.nearest false k p) := by
    simp only [fop, Option.bind_some, floatBits, Format.add, ho, g2, hs]; rfl
  rw [e1]
  obtain ⟨m', i', q1, q2, q3, q4⟩ := near64 false k p (e + 1) hl' (by omega) (by omega)
  exact ⟨_, m', i', rfl, q1, q3, q4 hk0 0 (by omega) hge⟩

theorem posd (d : Int) (c : Nat) (hc : floatOfInt .f64 d = c) (h : ∃ m i, FloatKind.f64.format.read c = .number false m i ∧ -1074 ≤ i ∧ m ≠ 0 ∧ 2 ^ (0 - i).toNat ≤ m) : posC (some (floatOfInt .f64 d)) 0 := by
  obtain ⟨m, i, h1, h2, h3⟩ := h
  exact posc d c hc m i h1 h2 h3
theorem mag_step {u p : Option Nat} {k e : Int} (hu : magC u 0) (hp : magC p e) (hk : posC (some (floatOfInt .f64 k)) 0) (h0 : 0 ≤ e) (h1 : e ≤ 100) : magC (logStep u p k) (e + 1) := by
  have g1 := mag_quo mag_one hk (by omega) (by omega)
  have g2 := mag_mul hu hp (by omega) (by omega)
  exact magC_mono (mag_add g1 g2 (by omega) (by omega)) (by omega)
theorem mag_logPoly {u : Option Nat} (hu : magC u 0) : magC (logPoly u) 13 := by
  have z : magC (some 0) 0 := ⟨0, false, 0, -1074, rfl, by decide, by omega, .inl rfl⟩
  have h1 := mag_step hu z (posd 25 4627730092099895296 (by decide) ⟨7036874417766400, -48, by decide, by omega, by decide⟩) (by omega) (by omega)
  have h2 := mag_step hu h1 (posd 23 4627167142146473984 (by decide) ⟨6473924464345088, -48, by decide, by omega, by decide⟩) (by omega) (by omega)
  have h3 := mag_step hu h2 (posd 21 4626604192193052672 (by decide) ⟨5910974510923776, -48, by decide, by omega, by decide⟩) (by omega) (by omega)
  have h4 := mag_step hu h3 (posd 19 4626041242239631360 (by decide) ⟨5348024557502464, -48, by decide, by omega, by decide⟩) (by omega) (by omega)
  have h5 := mag_step hu h4 (posd 17 4625478292286210048 (by decide) ⟨4785074604081152, -48, by decide, by omega, by decide⟩) (by omega) (by omega)
  have h6 := mag_step hu h5 (posd 15 4624633867356078080 (by decide) ⟨8444249301319680, -49, by decide, by omega, by decide⟩) (by omega) (by omega)
  have h7 := mag_step hu h6 (posd 13 4623507967449235456 (by decide) ⟨7318349394477056, -49, by decide, by omega, by decide⟩) (by omega) (by omega)
  have h8 := mag_step hu h7 (posd 11 4622382067542392832 (by decide) ⟨6192449487634432, -49, by decide, by omega, by decide⟩) (by omega) (by omega)
  have h9 := mag_step hu h8 (posd 9 4621256167635550208 (by decide) ⟨5066549580791808, -49, by decide, by omega, by decide⟩) (by omega) (by omega)
  have h10 := mag_step hu h9 (posd 7 4619567317775286272 (by decide) ⟨7881299347898368, -50, by decide, by omega, by decide⟩) (by omega) (by omega)
  have h11 := mag_step hu h10 (posd 5 4617315517961601024 (by decide) ⟨5629499534213120, -50, by decide, by omega, by decide⟩) (by omega) (by omega)
  have h12 := mag_step hu h11 (posd 3 4613937818241073152 (by decide) ⟨6755399441055744, -51, by decide, by omega, by decide⟩) (by omega) (by omega)
  have h13 := mag_step hu h12 (posd 1 4607182418800017408 (by decide) ⟨4503599627370496, -52, by decide, by omega, by decide⟩) (by omega) (by omega)
  exact magC_mono h13 (by omega)
theorem mag_logTail {Z : Option Nat} (hZ : nnm Z 1) (e : Int) (he : e.natAbs ≤ 256) : magC (logTail Z e) 15 := by
  have hs : magC (logS Z) 0 := mag_quo (sub_one hZ) (add_one hZ (by omega) (by omega)) (by omega) (by omega)
  have hu := mag_mul hs hs (by omega) (by omega)
  have hp := mag_logPoly (magC_mono hu (by omega))
  have g1 := mag_mul hs hp (by omega) (by omega)
  have h2 : magC (some 4611686018427387904) 1 := mag_num _ false 4503599627370496 (-51) 1 (by decide) (by omega) (by decide)
  have g2 := mag_mul h2 g1 (by omega) (by omega)
  have g3 := mag_int e 8 (by have : (2 : Nat) ^ (8 : Int).toNat = 256 := by decide
                             omega) (by omega) (by omega)
  have hl : magC (some 4604418534313441775) 0 := mag_num _ false 6243314768165359 (-53) 0 (by decide) (by omega) (by decide)
  have g4 := mag_mul g3 hl (by omega) (by omega)
  exact magC_mono (mag_add g2 g4 (by omega) (by omega)) (by omega)
end Go.Proofs.Ytdepfikbjehjiaa.Flt
