/- The numbers of a pitch. -/
import Derived.Test.YthinjgiakaflpaaA3
import Derived.Test.YthinjgiakaflpaaBelow
namespace Go.Proofs.Ythinjgiakaflpaa
open Go.RowKit Flt
set_option linter.unusedVariables false

open Ieee

/-- a number from nothing to 1, or no more than its sign -/
def Unit (b : Nat) : Prop := ∃ s m i, FloatKind.f32.format.read b = .number s m i ∧ leP m i 0 ∧ -149 ≤ i ∧ (s = false ∨ m = 0)
theorem near_zero (s : Bool) (p : Int) : FloatKind.f32.format.read (FloatKind.f32.format.nearest s 0 p) = .number s 0 (-149) := by
  unfold Format.nearest
  rw [if_pos rfl]
  cases s <;> decide
/-- what is at most 1 in its order is so in its size -/
theorem le_one {b m : Nat} {s : Bool} {i : Int} (hr : FloatKind.f32.format.read b = .number s m i) (hi : -149 ≤ i) (hs : s = false ∨ m = 0) (h : fcmp .gtr (FloatKind.f32.format.order b 1065353216) = false) : leP m i 0 := by
  rcases hs with rfl | h0
  rotate_left
  · exact .inl h0
  have ho : FloatKind.f32.format.order b 1065353216 = some (compare (signed false m (i - -149).toNat) (signed false 8388608 (-23 - -149 : Int).toNat)) := by
    unfold Format.order; rw [hr, one_read]; exact order_num false false m 8388608 i (-23) (-149) hi (by omega)
  rw [ho] at h
  have hle : signed false m (i - -149).toNat ≤ signed false 8388608 (-23 - -149 : Int).toNat := by
    rcases Int.lt_or_le (signed false 8388608 (-23 - -149 : Int).toNat) (signed false m (i - -149).toNat) with g | g
    · rw [compare_gt g] at h; cases h
    · exact g
  rw [signedV, signedV, show (-23 - -149 : Int).toNat = 126 from by decide] at hle
  simp only [Bool.false_eq_true, if_false] at hle
  unfold leP
  by_cases hm0 : m = 0
  · exact .inl hm0
  right
  have e23 : 8388608 = 2 ^ 23 := by decide
  have hle2 : m * 2 ^ (i - -149).toNat ≤ 2 ^ 149 := by
    have h9 : 8388608 * 2 ^ 126 = 2 ^ 149 := by rw [e23, ← Nat.pow_add]
    generalize m * 2 ^ (i - -149).toNat = X at hle ⊢
    generalize 8388608 * 2 ^ 126 = Y at hle h9
    omega
  by_cases hi0 : i ≤ 0
  · refine ⟨hi0, ?_⟩
    have e : (149 : Nat) = (0 - i).toNat + (i - -149).toNat := by omega
    rw [e, Nat.pow_add] at hle2
    exact Nat.le_of_mul_le_mul_right hle2 (Nat.two_pow_pos _)
  · exfalso
    obtain ⟨k, hk⟩ : ∃ k, (i - -149).toNat = 149 + 1 + k := ⟨(i - -149).toNat - 150, by omega⟩
    rw [hk, Nat.pow_add, Nat.pow_succ] at hle2
    have p1 := Nat.two_pow_pos 149
    have p2 := Nat.two_pow_pos k
    generalize 2 ^ 149 = A at hle2 p1
    generalize 2 ^ k = B at hle2 p2
    have h5 : 1 * (A * 2 * 1) ≤ m * (A * 2 * B) := Nat.mul_le_mul (by omega) (Nat.mul_le_mul_left _ p2)
    omega
theorem least_read {w : Nat} (h1 : fcmp .geq (ford .f32 (cls .f32 w) (some 0)) = true) (h2 : fin32 (cls .f32 w) = true) : cls .f32 w = some w ∧ ∃ s m i, FloatKind.f32.format.read w = .number s m i ∧ m < 16777216 ∧ -149 ≤ i ∧ (s = false ∨ m = 0) := by
  obtain ⟨hc, s, m, i, hr, g1, g2, _⟩ := fin_read h2
  refine ⟨hc, s, m, i, hr, g1, g2, ?_⟩
  cases s
  · exact .inl rfl
  · right
    rw [hc] at h1
    have hz : FloatKind.f32.format.read 0 = .number false 0 (-149) := by decide
    have ho : FloatKind.f32.format.order w 0 = some (compare (signed true m (i - -149).toNat) (signed false 0 (-149 - -149 : Int).toNat)) := by
      unfold Format.order; rw [hr, hz]; exact order_num true false m 0 i (-149) (-149) g2 (by omega)
    have h3 : fcmp .geq (FloatKind.f32.format.order w 0) = true := h1
    rw [ho] at h3
    have e0 : signed false 0 (-149 - -149 : Int).toNat = 0 := by decide
    rw [e0, signedV] at h3
    simp only [if_true] at h3
    have hp := Nat.two_pow_pos (i - -149).toNat
    rcases Nat.eq_zero_or_pos m with h4 | h4
    · exact h4
    · exfalso
      have h5 : 0 < m * 2 ^ (i - -149).toNat := Nat.mul_pos h4 hp
      generalize m * 2 ^ (i - -149).toNat = M at h3 h5
      rw [compare_lt (show -(M : Int) < 0 by omega)] at h3
      cases h3
theorem fin_of_leq {w b : Nat} (h1 : fcmp .geq (ford .f32 (cls .f32 w) (some 0)) = true) (h : fcmp .leq (ford .f32 (cls .f32 w) (some 1065353216)) = true) : fin32 (cls .f32 w) = true := by
  cases hc : cls .f32 w with
  | none => rw [hc] at h; cases h
  | some c =>
    have hb : c = w := cls_word hc
    subst hb
    have hn := cls_ok .f32 c c hc
    rw [hc] at h h1
    have h2 : fcmp .leq (FloatKind.f32.format.order c 1065353216) = true := h
    have h3 : fcmp .geq (FloatKind.f32.format.order c 0) = true := h1
    have hz : FloatKind.f32.format.read 0 = .number false 0 (-149) := by decide
    rcases read32 c hn with ⟨s, hr⟩ | ⟨s, m, i, hr, _⟩
    · exfalso
      unfold Format.order at h2 h3
      rw [hr, one_read] at h2
      rw [hr, hz] at h3
      cases s
      · cases h2
      · cases h3
    · show (!(FloatKind.f32.format.read c).isInfinity) = true
      rw [hr]; rfl
theorem share_unit {w : Nat} (h : shareC (cls .f32 w) = true) : cls .f32 w = some w ∧ Unit w := by
  have h' : fcmp .geq (ford .f32 (cls .f32 w) (some 0)) = true ∧ fcmp .leq (ford .f32 (cls .f32 w) (some 1065353216)) = true := by unfold shareC at h; simpa using h
  obtain ⟨hc, s, m, i, hr, g1, g2, g3⟩ := least_read h'.1 (fin_of_leq (b := 0) h'.1 h'.2)
  refine ⟨hc, s, m, i, hr, ?_, g2, g3⟩
  refine le_one hr g2 g3 ?_
  have h2 := h'.2
  rw [hc] at h2
  have h3 : fcmp .leq (FloatKind.f32.format.order w 1065353216) = true := h2
  cases ho : FloatKind.f32.format.order w 1065353216 with
  | none => rfl
  | some r => rw [ho] at h3; cases r <;> first | rfl | cases h3
/-- how far along a time is -/
def pitchX (T L : Option Nat) : Option Nat := if fcmp .gtr (ford .f32 (fop .quo .f32 T L) (some 1065353216)) then some 1065353216 else fop .quo .f32 T L
theorem quo_word {t l : Nat} (ht : leastC (cls .f32 t) = true) (hl : areaC (cls .f32 l) = true) : ∃ q, fop .quo .f32 (cls .f32 t) (cls .f32 l) = some q ∧ nanW .f32 q = false ∧ ((∃ s, FloatKind.f32.format.read q = .infinity s ∧ s = false) ∨ ∃ s m i, FloatKind.f32.format.read q = .number s m i ∧ -149 ≤ i ∧ (s = false ∨ m = 0)) := by
  have ht' : fcmp .geq (ford .f32 (cls .f32 t) (some 0)) = true ∧ fin32 (cls .f32 t) = true := by unfold leastC at ht; simpa using ht
  have hl' : fcmp .gtr (ford .f32 (cls .f32 l) (some 0)) = true ∧ fin32 (cls .f32 l) = true := by unfold areaC at hl; simpa using hl
  obtain ⟨ct, s, m, i, rt, _, _, hs⟩ := least_read ht'.1 ht'.2
  obtain ⟨n, j, cl, rl, hn, _⟩ := area_num l hl'.1 hl'.2
  rw [ct, cl]
  have e25 : FloatKind.f32.format.fractionBits + 2 = 25 := by decide
  obtain ⟨M, p, hq, hM⟩ : ∃ M p, floatBits .quo .f32 t l = some (FloatKind.f32.format.nearest (s ^^ false) M p) ∧ (m = 0 → M = 0) :=
    ⟨_, _, by simp only [floatBits, Format.div, rt, rl, e25, Datum.quotient]; rw [if_neg hn]; rfl, fun h0 => by subst h0; simp⟩
  have nq := floatBits_num hq
  refine ⟨_, hq, nq, ?_⟩
  have hsf : (s ^^ false) = s := by cases s <;> rfl
  rw [hsf] at nq ⊢
  rcases hs with rfl | h0
  · have hneg := near_neg false M p
    rcases read32 _ nq with ⟨s2, hr⟩ | ⟨s2, m2, i2, hr, _, h2, _⟩
    · left; rw [hr] at hneg; exact ⟨s2, hr, hneg⟩
    · right; rw [hr] at hneg; exact ⟨s2, m2, i2, hr, h2, .inl hneg⟩
  · right
    rw [hM h0]
    exact ⟨s, 0, -149, near_zero s p, by omega, .inr rfl⟩
theorem pitchX_unit {t l : Nat} (ht : leastC (cls .f32 t) = true) (hl : areaC (cls .f32 l) = true) : ∃ x, pitchX (cls .f32 t) (cls .f32 l) = some x ∧ nanW .f32 x = false ∧ Unit x := by
  obtain ⟨q, hq, nq, hr⟩ := quo_word ht hl
  unfold pitchX
  rw [hq]
  have e : ford .f32 (some q) (some 1065353216) = FloatKind.f32.format.order q 1065353216 := rfl
  rw [e]
  cases hg : fcmp .gtr (FloatKind.f32.format.order q 1065353216)
  · refine ⟨q, rfl, nq, ?_⟩
    rcases hr with ⟨s, hr, rfl⟩ | ⟨s, m, i, hr, hi, hs⟩
    · exfalso
      unfold Format.order at hg
      rw [hr, one_read] at hg
      cases hg
    · exact ⟨s, m, i, hr, le_one hr hi hs hg, hi, hs⟩
  · exact ⟨1065353216, rfl, by decide, false, 8388608, -23, one_read, .inr ⟨by omega, by decide⟩, by omega, .inl rfl⟩
theorem mul_unit {x y : Nat} (hx : Unit x) (hy : Unit y) : ∃ z, floatBits .mul .f32 x y = some z ∧ Unit z := by
  obtain ⟨s, m, i, rx, lx, ix, sx⟩ := hx
  obtain ⟨t, n, j, ry, ly, iy, sy⟩ := hy
  have hz : floatBits .mul .f32 x y = some (FloatKind.f32.format.nearest (s ^^ t) (m * n) (i + j)) := by
    simp only [floatBits, Format.mul, rx, ry, Datum.product]; rfl
  refine ⟨_, hz, ?_⟩
  by_cases h0 : m * n = 0
  · rw [h0]
    exact ⟨s ^^ t, 0, -149, near_zero _ _, .inl rfl, by omega, .inr rfl⟩
  have hm : m ≠ 0 := fun h => h0 (by rw [h, Nat.zero_mul])
  have hn : n ≠ 0 := fun h => h0 (by rw [h, Nat.mul_zero])
  have s0 : s = false := sx.resolve_right hm
  have t0 : t = false := sy.resolve_right hn
  subst s0 t0
  rcases lx with h | ⟨x1, x2⟩
  · exact absurd h hm
  rcases ly with h | ⟨y1, y2⟩
  · exact absurd h hn
  have hle : leP (m * n) (i + j) 0 := .inr ⟨by omega, by
    have : (0 - (i + j)).toNat = (0 - i).toNat + (0 - j).toNat := by omega
    rw [this, Nat.pow_add]
    exact Nat.mul_le_mul x2 y2⟩
  obtain ⟨m', i', q1, q2, _⟩ := near32 (false ^^ false) (m * n) (i + j) 0 hle (by omega) (by omega)
  refine ⟨_, m', i', q1, q2, ?_, .inl rfl⟩
  rcases read32 _ (floatBits_num hz) with ⟨s, hr2⟩ | ⟨s, m9, e9, hr2, _, hh, _⟩
  · rw [q1] at hr2; cases hr2
  · rw [q1] at hr2; simp only [Datum.number.injEq] at hr2; omega
theorem one_minus {y : Nat} (hy : Unit y) : ∃ d, floatBits .sub .f32 1065353216 y = some d ∧ ∃ m i, FloatKind.f32.format.read d = .number false m i ∧ leP m i 0 ∧ -149 ≤ i := by
  obtain ⟨s, m, e, hr, hl, he, hs⟩ := hy
  obtain ⟨T, hT⟩ : ∃ T : Int, signed false 8388608 (-23 - min (-23) e).toNat + signed (!s) m (e - min (-23) e).toNat = T := ⟨_, rfl⟩
  have hb : floatBits .sub .f32 1065353216 y = some (FloatKind.f32.format.nearest (if T = 0 then (false && !s) else decide (T < 0)) T.natAbs (min (-23) e)) := by
    rw [← hT]
    simp only [floatBits, Format.sub, one_read, hr, Datum.opposite, Datum.sum]
    rfl
  have nb := floatBits_num hb
  have hT0 : 0 ≤ T ∧ T.natAbs ≤ 8388608 * 2 ^ (-23 - min (-23) e).toNat := by
    rw [signedV, signedV] at hT
    rcases hs with rfl | h0
    · simp only [Bool.not_false, if_true, Bool.false_eq_true, if_false] at hT
      have hle : m * 2 ^ (e - min (-23) e).toNat ≤ 8388608 * 2 ^ (-23 - min (-23) e).toNat := by
        rcases hl with h | ⟨h1, h2⟩
        · rw [h]; simp
        · have e23 : 8388608 = 2 ^ 23 := by decide
          rw [e23, ← Nat.pow_add]
          refine Nat.le_trans (Nat.mul_le_mul_right _ h2) ?_
          rw [← Nat.pow_add]
          exact Nat.pow_le_pow_right (by omega) (by omega)
      generalize 8388608 * 2 ^ (-23 - min (-23) e).toNat = X at hT hle ⊢
      generalize m * 2 ^ (e - min (-23) e).toNat = Y at hT hle
      omega
    · subst h0
      simp only [Nat.zero_mul, Bool.false_eq_true, if_false] at hT
      generalize 8388608 * 2 ^ (-23 - min (-23) e).toNat = X at hT ⊢
      split at hT <;> omega
  have hsg : (if T = 0 then (false && !s) else decide (T < 0)) = false := by
    split
    · rfl
    · simp
      try omega
  rw [hsg] at hb nb
  have hle : leP T.natAbs (min (-23) e) 0 := by
    right
    refine ⟨by omega, Nat.le_trans hT0.2 ?_⟩
    have : 8388608 = 2 ^ 23 := by decide
    rw [this, ← Nat.pow_add]
    exact Nat.pow_le_pow_right (by omega) (by omega)
  obtain ⟨m', i', q1, q2, _⟩ := near32 false T.natAbs (min (-23) e) 0 hle (by omega) (by omega)
  refine ⟨_, hb, m', i', q1, q2, ?_⟩
  rcases read32 _ nb with ⟨s, hr2⟩ | ⟨s, m9, e9, hr2, _, hh, _⟩
  · rw [q1] at hr2; cases hr2
  · rw [q1] at hr2; simp only [Datum.number.injEq] at hr2; omega
/-- nothing and a number that is not below it -/
theorem zero_add {b : Nat} (hn : nanW .f32 b = false) (hb : b < 4294967296) (hg : (FloatKind.f32.format.read b).neg = false) (hf : fin32 (some b) = true) : fop .add .f32 (some 0) (some b) = some b := by
  have hz : FloatKind.f32.format.read 0 = .number false 0 (-149) := by decide
  rcases read32 b hn with ⟨s, hr⟩ | ⟨s, m, i, hr, hm, hi, _⟩
  · unfold fin32 at hf; dsimp only at hf; rw [hr] at hf; cases hf
  · rw [hr] at hg
    have hs : s = false := hg
    subst hs
    have hb2 : b % 2147483648 = b := by
      have hS : FloatKind.f32.format.signWeight = 2147483648 := by decide
      have hnb : (b / 2147483648 % 2 == 1) = false := by
        have h9 := hr
        unfold Format.read at h9
        rw [hS] at h9
        dsimp only at h9
        split at h9
        · simp only [Datum.number.injEq] at h9; exact h9.1
        · split at h9
          · simp only [Datum.number.injEq] at h9; exact h9.1
          · split at h9 <;> cases h9
      have h3 : ¬ (b / 2147483648 % 2 = 1) := by simpa using hnb
      omega
    have hmin : min (-149 : Int) i = -149 := by omega
    show floatBits .add .f32 0 b = some b
    have hv : floatBits .add .f32 0 b = some (FloatKind.f32.format.nearest (if signed false 0 (-149 - min (-149) i).toNat + signed false m (i - min (-149) i).toNat = 0 then (false && false) else decide (signed false 0 (-149 - min (-149) i).toNat + signed false m (i - min (-149) i).toNat < 0)) (signed false 0 (-149 - min (-149) i).toNat + signed false m (i - min (-149) i).toNat).natAbs (min (-149) i)) := by
      simp only [floatBits, Format.add, hz, hr, Datum.sum]
      rfl
    rw [hv, hmin, signedV, signedV]
    simp only [Nat.zero_mul, Bool.false_eq_true, if_false]
    have hsh := nearest_shift false m (i - -149).toNat i (by simpa using hm) hi
    have hpl : i - ((i - -149).toNat : Int) = -149 := by omega
    rw [hpl, write_read b false m i hr, hb2] at hsh
    generalize m * 2 ^ (i - -149).toNat = X at hsh ⊢
    have e1 : (((0 : Nat) : Int) + (X : Int)).natAbs = X := by omega
    have e2 : (if ((0 : Nat) : Int) + (X : Int) = 0 then (false && false) else decide (((0 : Nat) : Int) + (X : Int) < 0)) = false := by
      split
      · rfl
      · simp
        try omega
    rw [e1, e2, hsh]

theorem near_lt (s : Bool) (m : Nat) (p : Int) : FloatKind.f32.format.nearest s m p < 4294967296 := by
  have hI : FloatKind.f32.format.infRung = 2139095040 := by decide
  have hS : FloatKind.f32.format.signWeight = 2147483648 := by decide
  have key : ∀ r, r ≤ 2139095040 → FloatKind.f32.format.word s r < 4294967296 := by
    intro r hr
    unfold Format.word
    rw [hS]
    split <;> omega
  unfold Format.nearest
  split
  · exact key 0 (by omega)
  · exact key _ (by rw [hI]; exact Nat.min_le_right _ _)
/-- where a tune begins -/
def pitch0 (b f X : Option Nat) : Option Nat := fop .mul .f32 b (fop .sub .f32 (some 1065353216) (fop .mul .f32 f X))
theorem pitch0_ok {b f x : Nat} (hb : areaC (cls .f32 b) = true) (hf : shareC (cls .f32 f) = true) (hx : Unit x) : ∃ p, pitch0 (cls .f32 b) (cls .f32 f) (some x) = some p ∧ nanW .f32 p = false ∧ fop .add .f32 (some 0) (some p) = some p := by
  have hb' : fcmp .gtr (ford .f32 (cls .f32 b) (some 0)) = true ∧ fin32 (cls .f32 b) = true := by unfold areaC at hb; simpa using hb
  obtain ⟨mb, ib, cb, rb, _, gb, _⟩ := area_num b hb'.1 hb'.2
  obtain ⟨cf, uf⟩ := share_unit hf
  obtain ⟨y, hy, uy⟩ := mul_unit uf hx
  obtain ⟨d, hd, md, jd, rd, ld, hid⟩ := one_minus uy
  have hp : floatBits .mul .f32 b d = some (FloatKind.f32.format.nearest (false ^^ false) (mb * md) (ib + jd)) := by
    simp only [floatBits, Format.mul, rb, rd, Datum.product]; rfl
  have np := floatBits_num hp
  obtain ⟨r, e1, f1⟩ := mul_share_fin (x := b) hb'.2 rd ld hid
  rw [cb] at e1
  have e2 : fop .mul .f32 (some b) (some d) = some (FloatKind.f32.format.nearest (false ^^ false) (mb * md) (ib + jd)) := hp
  have hr : cls .f32 r = some (FloatKind.f32.format.nearest (false ^^ false) (mb * md) (ib + jd)) := e1.symm.trans e2
  refine ⟨_, ?_, np, zero_add np (near_lt _ _ _) (near_neg _ _ _) (by rw [← hr]; exact f1)⟩
  unfold pitch0
  rw [cf, cb]
  have e3 : fop .mul .f32 (some f) (some x) = some y := hy
  have e4 : fop .sub .f32 (some 1065353216) (some y) = some d := hd
  rw [e3, e4, e2]
/-- accents added one after another -/
def pitchK (P T : Option Nat) (ys : List Nat) : Nat → Option Nat
  | 0 => P
  | k + 1 => fop .add .f32 (pitchK P T ys k) (bumpC (cls .f32 (ys.getD (k * 3) 0)) (cls .f32 (ys.getD (k * 3 + 1) 0)) (cls .f32 (ys.getD (k * 3 + 2) 0)) T)
theorem add_num {x : Nat} (hx : nanW .f32 x = false) {Y : Option Nat} (hY : fin32 Y = true) (hYn : ∀ y, Y = some y → nanW .f32 y = false) : ∃ z, fop .add .f32 (some x) Y = some z ∧ nanW .f32 z = false := by
  cases Y with
  | none => cases hY
  | some y =>
    obtain ⟨z, hz⟩ : ∃ z, floatBits .add .f32 x y = some z := by
      rcases read32 y (hYn y rfl) with ⟨s, hr⟩ | ⟨s, m, i, hr, _⟩
      · exfalso
        have h9 : (!(FloatKind.f32.format.read y).isInfinity) = true := hY
        rw [hr] at h9; cases h9
      · rcases read32 x hx with ⟨t, hr2⟩ | ⟨t, n, j, hr2, _⟩
        · exact ⟨_, by simp only [floatBits, Format.add, hr, hr2, Datum.sum]; rfl⟩
        · exact ⟨_, by simp only [floatBits, Format.add, hr, hr2, Datum.sum]; rfl⟩
    exact ⟨z, hz, floatBits_num hz⟩
theorem mul_num {X Y : Option Nat} : ∀ y, fop .mul .f32 X Y = some y → nanW .f32 y = false := by
  intro y hy
  cases X with
  | none => cases hy
  | some u =>
    cases Y with
    | none => cases hy
    | some v => exact floatBits_num (show floatBits .mul .f32 u v = some y from hy)
theorem bump_num {A S W T : Option Nat} : ∀ y, bumpC A S W T = some y → nanW .f32 y = false := by
  intro y hy
  unfold bumpC at hy
  split at hy
  · exact mul_num y hy
  · cases hy; decide
theorem pitchK_num {p t n : Nat} {ys : List Nat} (hp : nanW .f32 p = false) (ht : fin32 (cls .f32 t) = true) (ha : accsB ys n = true) : ∀ k, k ≤ n → ∃ s, pitchK (some p) (cls .f32 t) ys k = some s ∧ nanW .f32 s = false
  | 0, _ => ⟨p, rfl, hp⟩
  | k + 1, hk => by
    obtain ⟨s, h1, h2⟩ := pitchK_num hp ht ha k (by omega)
    have hA : accC (cls .f32 (ys.getD (k * 3) 0)) (cls .f32 (ys.getD (k * 3 + 1) 0)) (cls .f32 (ys.getD (k * 3 + 2) 0)) = true := by
      unfold accsB at ha
      exact List.all_eq_true.1 ha k (List.mem_range.2 (by omega))
    have hf := (bump_ok hA ht).2
    show ∃ s, fop .add .f32 (pitchK (some p) (cls .f32 t) ys k) _ = some s ∧ _
    rw [h1]
    exact add_num h2 hf bump_num
theorem scale_bound {m n a b N p q : Nat} (h1 : m * 2 ^ a ≤ N * 2 ^ p) (h2 : n * 2 ^ b ≤ 2 ^ q) : m * n * 2 ^ (a + b) ≤ N * 2 ^ (p + q) := by
  rw [Nat.pow_add, Nat.pow_add]
  have h3 := Nat.mul_le_mul h1 h2
  have e1 : m * n * (2 ^ a * 2 ^ b) = m * 2 ^ a * (n * 2 ^ b) := by rw [Nat.mul_assoc, Nat.mul_assoc, ← Nat.mul_assoc n, Nat.mul_comm n, Nat.mul_assoc]
  have e2 : N * (2 ^ p * 2 ^ q) = N * 2 ^ p * 2 ^ q := by rw [Nat.mul_assoc]
  rw [e1, e2]
  exact h3

end Go.Proofs.Ythinjgiakaflpaa
