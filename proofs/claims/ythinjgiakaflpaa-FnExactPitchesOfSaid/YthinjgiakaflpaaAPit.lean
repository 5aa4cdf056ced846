/- The numbers of a pitch. -/
import Derived.Test.YthinjgiakaflpaaA3
import Derived.Test.YthinjgiakaflpaaBelow
import Derived.Test.YthinjgiakaflpaaF7
import Derived.Test.YthinjgiakaflpaaA8
import Derived.Test.YthinjgiakaflpaaT9
import Derived.Test.YthinjgiakaflpaaTail2
namespace Go.Proofs.Ythinjgiakaflpaa
open Go.RowKit Flt
set_option linter.unusedVariables false


open Ieee

/-- a number from nothing to 1, or no more than its sign -/
def Unit (b : Nat) : Prop := ∃ s m i, FloatKind.f32.format.read b = .number s m i ∧ leP m i 0 ∧ -149 ≤ i ∧ (s = false ∨ m = 0)
theorem near_zero (s : Bool) (p : Int) : FloatKind.f32.format.read (FloatKind.f32.format.nearest s 0 p) = .number s 0 (-149) := by
  unfold Format.nearest
  rw [if_pos rfl]
  cases s <;> decide
/-- what is at most 1 in its order is so in its size -/
theorem le_one {b m : Nat} {s : Bool} {i : Int} (hr : FloatKind.f32.format.read b = .number s m i) (hi : -149 ≤ i) (hs : s = false ∨ m = 0) (h : fcmp .gtr (FloatKind.f32.format.order b 1065353216) = false) : leP m i 0 := by
  rcases hs with rfl | h0
  rotate_left
  · exact .inl h0
  have ho : FloatKind.f32.format.order b 1065353216 = some (compare (signed false m (i - -149).toNat) (signed false 8388608 (-23 - -149 : Int).toNat)) := by
    unfold Format.order; rw [hr, one_read]; exact order_num false false m 8388608 i (-23) (-149) hi (by omega)
  rw [ho] at h
  have hle : signed false m (i - -149).toNat ≤ signed false 8388608 (-23 - -149 : Int).toNat := by
    rcases Int.lt_or_le (signed false 8388608 (-23 - -149 : Int).toNat) (signed false m (i - -149).toNat) with g | g
    · rw [compare_gt g] at h; cases h
    · exact g
  rw [signedV, signedV, show (-23 - -149 : Int).toNat = 126 from by decide] at hle
  simp only [Bool.false_eq_true, if_false] at hle
  unfold leP
  by_cases hm0 : m = 0
  · exact .inl hm0
  right
  have e23 : 8388608 = 2 ^ 23 := by decide
  have hle2 : m * 2 ^ (i - -149).toNat ≤ 2 ^ 149 := by
    have h9 : 8388608 * 2 ^ 126 = 2 ^ 149 := by rw [e23, ← Nat.pow_add]
    generalize m * 2 ^ (i - -149).toNat = X at hle ⊢
    generalize 8388608 * 2 ^ 126 = Y at hle h9
    omega
  by_cases hi0 : i ≤ 0
  · refine ⟨hi0, ?_⟩
    have e : (149 : Nat) = (0 - i).toNat + (i - -149).toNat := by omega
    rw [e, Nat.pow_add] at hle2
    exact Nat.le_of_mul_le_mul_right hle2 (Nat.two_pow_pos _)
  · exfalso
    obtain ⟨k, hk⟩ : ∃ k, (i - -149).toNat = 149 + 1 + k := ⟨(i - -149).toNat - 150, by omega⟩
    rw [hk, Nat.pow_add, Nat.pow_succ] at hle2
    have p1 := Nat.two_pow_pos 149
    have p2 := Nat.two_pow_pos k
    generalize 2 ^ 149 = A at hle2 p1
    generalize 2 ^ k = B at hle2 p2
    have h5 : 1 * (A * 2 * 1) ≤ m * (A * 2 * B) := Nat.mul_le_mul (by omega) (Nat.mul_le_mul_left _ p2)
    omega
theorem least_read {w : Nat} (h1 : fcmp .geq (ford .f32 (cls .f32 w) (some 0)) = true) (h2 : fin32 (cls .f32 w) = true) : cls .f32 w = some w ∧ ∃ s m i, FloatKind.f32.format.read w = .number s m i ∧ m < 16777216 ∧ -149 ≤ i ∧ (s = false ∨ m = 0) := by
  obtain ⟨hc, s, m, i, hr, g1, g2, _⟩ := fin_read h2
  refine ⟨hc, s, m, i, hr, g1, g2, ?_⟩
  cases s
  · exact .inl rfl
  · right
    rw [hc] at h1
    have hz : FloatKind.f32.format.read 0 = .number false 0 (-149) := by decide
    have ho : FloatKind.f32.format.order w 0 = some (compare (signed true m (i - -149).toNat) (signed false 0 (-149 - -149 : Int).toNat)) := by
      unfold Format.order; rw [hr, hz]; exact order_num true false m 0 i (-149) (-149) g2 (by omega)
    have h3 : fcmp .geq (FloatKind.f32.format.order w 0) = true := h1
    rw [ho] at h3
    have e0 : signed false 0 (-149 - -149 : Int).toNat = 0 := by decide
    rw [e0, signedV] at h3
    simp only [if_true] at h3
    have hp := Nat.two_pow_pos (i - -149).toNat
    rcases Nat.eq_zero_or_pos m with h4 | h4
    · exact h4
    · exfalso
      have h5 : 0 < m * 2 ^ (i - -149).toNat := Nat.mul_pos h4 hp
      generalize m * 2 ^ (i - -149).toNat = M at h3 h5
      rw [compare_lt (show -(M : Int) < 0 by omega)] at h3
      cases h3
theorem fin_of_leq {w b : Nat} (h1 : fcmp .geq (ford .f32 (cls .f32 w) (some 0)) = true) (h : fcmp .leq (ford .f32 (cls .f32 w) (some 1065353216)) = true) : fin32 (cls .f32 w) = true := by
  cases hc : cls .f32 w with
  | none => rw [hc] at h; cases h
  | some c =>
    have hb : c = w := cls_word hc
    subst hb
    have hn := cls_ok .f32 c c hc
    rw [hc] at h h1
    have h2 : fcmp .leq (FloatKind.f32.format.order c 1065353216) = true := h
    have h3 : fcmp .geq (FloatKind.f32.format.order c 0) = true := h1
    have hz : FloatKind.f32.format.read 0 = .number false 0 (-149) := by decide
    rcases read32 c hn with ⟨s, hr⟩ | ⟨s, m, i, hr, _⟩
    · exfalso
      unfold Format.order at h2 h3
      rw [hr, one_read] at h2
      rw [hr, hz] at h3
      cases s
      · cases h2
      · cases h3
    · show (!(FloatKind.f32.format.read c).isInfinity) = true
      rw [hr]; rfl
theorem share_unit {w : Nat} (h : shareC (cls .f32 w) = true) : cls .f32 w = some w ∧ Unit w := by
  have h' : fcmp .geq (ford .f32 (cls .f32 w) (some 0)) = true ∧ fcmp .leq (ford .f32 (cls .f32 w) (some 1065353216)) = true := by unfold shareC at h; simpa using h
  obtain ⟨hc, s, m, i, hr, g1, g2, g3⟩ := least_read h'.1 (fin_of_leq (b := 0) h'.1 h'.2)
  refine ⟨hc, s, m, i, hr, ?_, g2, g3⟩
  refine le_one hr g2 g3 ?_
  have h2 := h'.2
  rw [hc] at h2
  have h3 : fcmp .leq (FloatKind.f32.format.order w 1065353216) = true := h2
  cases ho : FloatKind.f32.format.order w 1065353216 with
  | none => rfl
  | some r => rw [ho] at h3; cases r <;> first | rfl | cases h3
/-- how far along a time is -/
def pitchX (T L : Option Nat) : Option Nat := if fcmp .gtr (ford .f32 (fop .quo .f32 T L) (some 1065353216)) then some 1065353216 else fop .quo .f32 T L
theorem quo_word {t l : Nat} (ht : leastC (cls .f32 t) = true) (hl : areaC (cls .f32 l) = true) : ∃ q, fop .quo .f32 (cls .f32 t) (cls .f32 l) = some q ∧ nanW .f32 q = false ∧ ((∃ s, FloatKind.f32.format.read q = .infinity s ∧ s = false) ∨ ∃ s m i, FloatKind.f32.format.read q = .number s m i ∧ -149 ≤ i ∧ (s = false ∨ m = 0)) := by
  have ht' : fcmp .geq (ford .f32 (cls .f32 t) (some 0)) = true ∧ fin32 (cls .f32 t) = true := by unfold leastC at ht; simpa using ht
  have hl' : fcmp .gtr (ford .f32 (cls .f32 l) (some 0)) = true ∧ fin32 (cls .f32 l) = true := by unfold areaC at hl; simpa using hl
  obtain ⟨ct, s, m, i, rt, _, _, hs⟩ := least_read ht'.1 ht'.2
  obtain ⟨n, j, cl, rl, hn, _⟩ := area_num l hl'.1 hl'.2
  rw [ct, cl]
  have e25 : FloatKind.f32.format.fractionBits + 2 = 25 := by decide
  obtain ⟨M, p, hq, hM⟩ : ∃ M p, floatBits .quo .f32 t l = some (FloatKind.f32.format.nearest (s ^^ false) M p) ∧ (m = 0 → M = 0) :=
    ⟨_, _, by simp only [floatBits, Format.div, rt, rl, e25, Datum.quotient]; rw [if_neg hn]; rfl, fun h0 => by subst h0; simp⟩
  have nq := floatBits_num hq
  refine ⟨_, hq, nq, ?_⟩
  have hsf : (s ^^ false) = s := by cases s <;> rfl
  rw [hsf] at nq ⊢
  rcases hs with rfl | h0
  · have hneg := near_neg false M p
    rcases read32 _ nq with ⟨s2, hr⟩ | ⟨s2, m2, i2, hr, _, h2, _⟩
    · left; rw [hr] at hneg; exact ⟨s2, hr, hneg⟩
    · right; rw [hr] at hneg; exact ⟨s2, m2, i2, hr, h2, .inl hneg⟩
  · right
    rw [hM h0]
    exact ⟨s, 0, -149, near_zero s p, by omega, .inr rfl⟩
theorem pitchX_unit {t l : Nat} (ht : leastC (cls .f32 t) = true) (hl : areaC (cls .f32 l) = true) : ∃ x, pitchX (cls .f32 t) (cls .f32 l) = some x ∧ nanW .f32 x = false ∧ Unit x := by
  obtain ⟨q, hq, nq, hr⟩ := quo_word ht hl
  unfold pitchX
  rw [hq]
  have e : ford .f32 (some q) (some 1065353216) = FloatKind.f32.format.order q 1065353216 := rfl
  rw [e]
  cases hg : fcmp .gtr (FloatKind.f32.format.order q 1065353216)
  · refine ⟨q, rfl, nq, ?_⟩
    rcases hr with ⟨s, hr, rfl⟩ | ⟨s, m, i, hr, hi, hs⟩
    · exfalso
      unfold Format.order at hg
      rw [hr, one_read] at hg
      cases hg
    · exact ⟨s, m, i, hr, le_one hr hi hs hg, hi, hs⟩
  · exact ⟨1065353216, rfl, by decide, false, 8388608, -23, one_read, .inr ⟨by omega, by decide⟩, by omega, .inl rfl⟩
theorem mul_unit {x y : Nat} (hx : Unit x) (hy : Unit y) : ∃ z, floatBits .mul .f32 x y = some z ∧ Unit z := by
  obtain ⟨s, m, i, rx, lx, ix, sx⟩ := hx
  obtain ⟨t, n, j, ry, ly, iy, sy⟩ := hy
  have hz : floatBits .mul .f32 x y = some (FloatKind.f32.format.nearest (s ^^ t) (m * n) (i + j)) := by
    simp only [floatBits, Format.mul, rx, ry, Datum.product]; rfl
  refine ⟨_, hz, ?_⟩
  by_cases h0 : m * n = 0
  · rw [h0]
    exact ⟨s ^^ t, 0, -149, near_zero _ _, .inl rfl, by omega, .inr rfl⟩
  have hm : m ≠ 0 := fun h => h0 (by rw [h, Nat.zero_mul])
  have hn : n ≠ 0 := fun h => h0 (by rw [h, Nat.mul_zero])
  have s0 : s = false := sx.resolve_right hm
  have t0 : t = false := sy.resolve_right hn
  subst s0 t0
  rcases lx with h | ⟨x1, x2⟩
  · exact absurd h hm
  rcases ly with h | ⟨y1, y2⟩
  · exact absurd h hn
  have hle : leP (m * n) (i + j) 0 := .inr ⟨by omega, by
    have : (0 - (i + j)).toNat = (0 - i).toNat + (0 - j).toNat := by omega
    rw [this, Nat.pow_add]
    exact Nat.mul_le_mul x2 y2⟩
  obtain ⟨m', i', q1, q2, _⟩ := near32 (false ^^ false) (m * n) (i + j) 0 hle (by omega) (by omega)
  refine ⟨_, m', i', q1, q2, ?_, .inl rfl⟩
  rcases read32 _ (floatBits_num hz) with ⟨s, hr2⟩ | ⟨s, m9, e9, hr2, _, hh, _⟩
  · rw [q1] at hr2; cases hr2
  · rw [q1] at hr2; simp only [Datum.number.injEq] at hr2; omega
theorem one_minus {y : Nat} (hy : Unit y) : ∃ d, floatBits .sub .f32 1065353216 y = some d ∧ ∃ m i, FloatKind.f32.format.read d = .number false m i ∧ leP m i 0 ∧ -149 ≤ i := by
  obtain ⟨s, m, e, hr, hl, he, hs⟩ := hy
  obtain ⟨T, hT⟩ : ∃ T : Int, signed false 8388608 (-23 - min (-23) e).toNat + signed (!s) m (e - min (-23) e).toNat = T := ⟨_, rfl⟩
  have hb : floatBits .sub .f32 1065353216 y = some (FloatKind.f32.format.nearest (if T = 0 then (false && !s) else decide (T < 0)) T.natAbs (min (-23) e)) := by
    rw [← hT]
    simp only [floatBits, Format.sub, one_read, hr, Datum.opposite, Datum.sum]
    rfl
  have nb := floatBits_num hb
  have hT0 : 0 ≤ T ∧ T.natAbs ≤ 8388608 * 2 ^ (-23 - min (-23) e).toNat := by
    rw [signedV, signedV] at hT
    rcases hs with rfl | h0
    · simp only [Bool.not_false, if_true, Bool.false_eq_true, if_false] at hT
      have hle : m * 2 ^ (e - min (-23) e).toNat ≤ 8388608 * 2 ^ (-23 - min (-23) e).toNat := by
        rcases hl with h | ⟨h1, h2⟩
        · rw [h]; simp
        · have e23 : 8388608 = 2 ^ 23 := by decide
          rw [e23, ← Nat.pow_add]
          refine Nat.le_trans (Nat.mul_le_mul_right _ h2) ?_
          rw [← Nat.pow_add]
          exact Nat.pow_le_pow_right (by omega) (by omega)
      generalize 8388608 * 2 ^ (-23 - min (-23) e).toNat = X at hT hle ⊢
      generalize m * 2 ^ (e - min (-23) e).toNat = Y at hT hle
      omega
    · subst h0
      simp only [Nat.zero_mul, Bool.false_eq_true, if_false] at hT
      generalize 8388608 * 2 ^ (-23 - min (-23) e).toNat = X at hT ⊢
      split at hT <;> omega
  have hsg : (if T = 0 then (false && !s) else decide (T < 0)) = false := by
    split
    · rfl
    · simp
      try omega
  rw [hsg] at hb nb
  have hle : leP T.natAbs (min (-23) e) 0 := by
    right
    refine ⟨by omega, Nat.le_trans hT0.2 ?_⟩
    have : 8388608 = 2 ^ 23 := by decide
    rw [this, ← Nat.pow_add]
    exact Nat.pow_le_pow_right (by omega) (by omega)
  obtain ⟨m', i', q1, q2, _⟩ := near32 false T.natAbs (min (-23) e) 0 hle (by omega) (by omega)
  refine ⟨_, hb, m', i', q1, q2, ?_⟩
  rcases read32 _ nb with ⟨s, hr2⟩ | ⟨s, m9, e9, hr2, _, hh, _⟩
  · rw [q1] at hr2; cases hr2
  · rw [q1] at hr2; simp only [Datum.number.injEq] at hr2; omega
/-- nothing and a number that is not below it -/
theorem zero_add {b : Nat} (hn : nanW .f32 b = false) (hb : b < 4294967296) (hg : (FloatKind.f32.format.read b).neg = false) (hf : fin32 (some b) = true) : fop .add .f32 (some 0) (some b) = some b := by
  have hz : FloatKind.f32.format.read 0 = .number false 0 (-149) := by decide
  rcases read32 b hn with ⟨s, hr⟩ | ⟨s, m, i, hr, hm, hi, _⟩
  · unfold fin32 at hf; dsimp only at hf; rw [hr] at hf; cases hf
  · rw [hr] at hg
    have hs : s = false := hg
    subst hs
    have hb2 : b % 2147483648 = b := by
      have hS : FloatKind.f32.format.signWeight = 2147483648 := by decide
      have hnb : (b / 2147483648 % 2 == 1) = false := by
        have h9 := hr
        unfold Format.read at h9
        rw [hS] at h9
        dsimp only at h9
        split at h9
        · simp only [Datum.number.injEq] at h9; exact h9.1
        · split at h9
          · simp only [Datum.number.injEq] at h9; exact h9.1
          · split at h9 <;> cases h9
      have h3 : ¬ (b / 2147483648 % 2 = 1) := by simpa using hnb
      omega
    have hmin : min (-149 : Int) i = -149 := by omega
    show floatBits .add .f32 0 b = some b
    have hv : floatBits .add .f32 0 b = some (FloatKind.f32.format.nearest (if signed false 0 (-149 - min (-149) i).toNat + signed false m (i - min (-149) i).toNat = 0 then (false && false) else decide (signed false 0 (-149 - min (-149) i).toNat + signed false m (i - min (-149) i).toNat < 0)) (signed false 0 (-149 - min (-149) i).toNat + signed false m (i - min (-149) i).toNat).natAbs (min (-149) i)) := by
      simp only [floatBits, Format.add, hz, hr, Datum.sum]
      rfl
    rw [hv, hmin, signedV, signedV]
    simp only [Nat.zero_mul, Bool.false_eq_true, if_false]
    have hsh := nearest_shift false m (i - -149).toNat i (by simpa using hm) hi
    have hpl : i - ((i - -149).toNat : Int) = -149 := by omega
    rw [hpl, write_read b false m i hr, hb2] at hsh
    generalize m * 2 ^ (i - -149).toNat = X at hsh ⊢
    have e1 : (((0 : Nat) : Int) + (X : Int)).natAbs = X := by omega
    have e2 : (if ((0 : Nat) : Int) + (X : Int) = 0 then (false && false) else decide (((0 : Nat) : Int) + (X : Int) < 0)) = false := by
      split
      · rfl
      · simp
        try omega
    rw [e1, e2, hsh]

theorem near_lt (s : Bool) (m : Nat) (p : Int) : FloatKind.f32.format.nearest s m p < 4294967296 := by
  have hI : FloatKind.f32.format.infRung = 2139095040 := by decide
  have hS : FloatKind.f32.format.signWeight = 2147483648 := by decide
  have key : ∀ r, r ≤ 2139095040 → FloatKind.f32.format.word s r < 4294967296 := by
    intro r hr
    unfold Format.word
    rw [hS]
    split <;> omega
  unfold Format.nearest
  split
  · exact key 0 (by omega)
  · exact key _ (by rw [hI]; exact Nat.min_le_right _ _)
/-- where a tune begins -/
def pitch0 (b f X : Option Nat) : Option Nat := fop .mul .f32 b (fop .sub .f32 (some 1065353216) (fop .mul .f32 f X))
theorem pitch0_ok {b f x : Nat} (hb : areaC (cls .f32 b) = true) (hf : shareC (cls .f32 f) = true) (hx : Unit x) : ∃ p, pitch0 (cls .f32 b) (cls .f32 f) (some x) = some p ∧ nanW .f32 p = false ∧ fop .add .f32 (some 0) (some p) = some p := by
  have hb' : fcmp .gtr (ford .f32 (cls .f32 b) (some 0)) = true ∧ fin32 (cls .f32 b) = true := by unfold areaC at hb; simpa using hb
  obtain ⟨mb, ib, cb, rb, _, gb, _⟩ := area_num b hb'.1 hb'.2
  obtain ⟨cf, uf⟩ := share_unit hf
  obtain ⟨y, hy, uy⟩ := mul_unit uf hx
  obtain ⟨d, hd, md, jd, rd, ld, hid⟩ := one_minus uy
  have hp : floatBits .mul .f32 b d = some (FloatKind.f32.format.nearest (false ^^ false) (mb * md) (ib + jd)) := by
    simp only [floatBits, Format.mul, rb, rd, Datum.product]; rfl
  have np := floatBits_num hp
  obtain ⟨r, e1, f1⟩ := mul_share_fin (x := b) hb'.2 rd ld hid
  rw [cb] at e1
  have e2 : fop .mul .f32 (some b) (some d) = some (FloatKind.f32.format.nearest (false ^^ false) (mb * md) (ib + jd)) := hp
  have hr : cls .f32 r = some (FloatKind.f32.format.nearest (false ^^ false) (mb * md) (ib + jd)) := e1.symm.trans e2
  refine ⟨_, ?_, np, zero_add np (near_lt _ _ _) (near_neg _ _ _) (by rw [← hr]; exact f1)⟩
  unfold pitch0
  rw [cf, cb]
  have e3 : fop .mul .f32 (some f) (some x) = some y := hy
  have e4 : fop .sub .f32 (some 1065353216) (some y) = some d := hd
  rw [e3, e4, e2]
/-- accents added one after another -/
def pitchK (P T : Option Nat) (ys : List Nat) : Nat → Option Nat
  | 0 => P
  | k + 1 => fop .add .f32 (pitchK P T ys k) (bumpC (cls .f32 (ys.getD (k * 3) 0)) (cls .f32 (ys.getD (k * 3 + 1) 0)) (cls .f32 (ys.getD (k * 3 + 2) 0)) T)
theorem add_num {x : Nat} (hx : nanW .f32 x = false) {Y : Option Nat} (hY : fin32 Y = true) (hYn : ∀ y, Y = some y → nanW .f32 y = false) : ∃ z, fop .add .f32 (some x) Y = some z ∧ nanW .f32 z = false := by
  cases Y with
  | none => cases hY
  | some y =>
    obtain ⟨z, hz⟩ : ∃ z, floatBits .add .f32 x y = some z := by
      rcases read32 y (hYn y rfl) with ⟨s, hr⟩ | ⟨s, m, i, hr, _⟩
      · exfalso
        have h9 : (!(FloatKind.f32.format.read y).isInfinity) = true := hY
        rw [hr] at h9; cases h9
      · rcases read32 x hx with ⟨t, hr2⟩ | ⟨t, n, j, hr2, _⟩
        · exact ⟨_, by simp only [floatBits, Format.add, hr, hr2, Datum.sum]; rfl⟩
        · exact ⟨_, by simp only [floatBits, Format.add, hr, hr2, Datum.sum]; rfl⟩
    exact ⟨z, hz, floatBits_num hz⟩
theorem mul_num {X Y : Option Nat} : ∀ y, fop .mul .f32 X Y = some y → nanW .f32 y = false := by
  intro y hy
  cases X with
  | none => cases hy
  | some u =>
    cases Y with
    | none => cases hy
    | some v => exact floatBits_num (show floatBits .mul .f32 u v = some y from hy)
theorem bump_num {A S W T : Option Nat} : ∀ y, bumpC A S W T = some y → nanW .f32 y = false := by
  intro y hy
  unfold bumpC at hy
  split at hy
  · exact mul_num y hy
  · cases hy; decide
theorem pitchK_num {p t n : Nat} {ys : List Nat} (hp : nanW .f32 p = false) (ht : fin32 (cls .f32 t) = true) (ha : accsB ys n = true) : ∀ k, k ≤ n → ∃ s, pitchK (some p) (cls .f32 t) ys k = some s ∧ nanW .f32 s = false
  | 0, _ => ⟨p, rfl, hp⟩
  | k + 1, hk => by
    obtain ⟨s, h1, h2⟩ := pitchK_num hp ht ha k (by omega)
    have hA : accC (cls .f32 (ys.getD (k * 3) 0)) (cls .f32 (ys.getD (k * 3 + 1) 0)) (cls .f32 (ys.getD (k * 3 + 2) 0)) = true := by
      unfold accsB at ha
      exact List.all_eq_true.1 ha k (List.mem_range.2 (by omega))
    have hf := (bump_ok hA ht).2
    show ∃ s, fop .add .f32 (pitchK (some p) (cls .f32 t) ys k) _ = some s ∧ _
    rw [h1]
    exact add_num h2 hf bump_num
theorem scale_bound {m n a b N p q : Nat} (h1 : m * 2 ^ a ≤ N * 2 ^ p) (h2 : n * 2 ^ b ≤ 2 ^ q) : m * n * 2 ^ (a + b) ≤ N * 2 ^ (p + q) := by
  rw [Nat.pow_add, Nat.pow_add]
  have h3 := Nat.mul_le_mul h1 h2
  have e1 : m * n * (2 ^ a * 2 ^ b) = m * 2 ^ a * (n * 2 ^ b) := by rw [Nat.mul_assoc, Nat.mul_assoc, ← Nat.mul_assoc n, Nat.mul_comm n, Nat.mul_assoc]
  have e2 : N * (2 ^ p * 2 ^ q) = N * 2 ^ p * 2 ^ q := by rw [Nat.mul_assoc]
  rw [e1, e2]
  exact h3



open Ieee

theorem three_read : FloatKind.f32.format.read 1061158912 = .number false 12582912 (-24) := by decide
theorem four_read : FloatKind.f32.format.read 1082130432 = .number false 8388608 (-21) := by decide
/-- what is left behind three quarters is at most a quarter -/
theorem rise_part {x : Nat} (hx : Unit x) (hg : fcmp .gtr (ford .f32 (some x) (some 1061158912)) = true) : ∃ d, floatBits .sub .f32 x 1061158912 = some d ∧ ∃ m j, FloatKind.f32.format.read d = .number false m j ∧ -149 ≤ j ∧ m * 2 ^ (j + 149).toNat ≤ 2 ^ 147 := by
  obtain ⟨s, m, i, hr, hl, hi, hs⟩ := hx
  have hg' : fcmp .gtr (FloatKind.f32.format.order x 1061158912) = true := hg
  have ho : FloatKind.f32.format.order x 1061158912 = some (compare (signed s m (i - min i (-24)).toNat) (signed false 12582912 (-24 - min i (-24)).toNat)) := by
    unfold Format.order; rw [hr, three_read]; rfl
  rw [ho] at hg'
  have hgt : signed false 12582912 (-24 - min i (-24)).toNat < signed s m (i - min i (-24)).toNat := by
    rcases Int.lt_trichotomy (signed s m (i - min i (-24)).toNat) (signed false 12582912 (-24 - min i (-24)).toNat) with g | g | g
    · rw [compare_lt g] at hg'; cases hg'
    · rw [compare_eq g] at hg'; cases hg'
    · exact g
  have hs0 : s = false := by
    rcases hs with h | h
    · exact h
    · subst h
      rw [signedV, signedV] at hgt
      simp only [Nat.zero_mul, Bool.false_eq_true, if_false] at hgt
      generalize 12582912 * 2 ^ (-24 - min i (-24)).toNat = X at hgt
      split at hgt <;> omega
  subst hs0
  obtain ⟨T, hT⟩ : ∃ T : Int, signed false m (i - min i (-24)).toNat + signed (!false) 12582912 (-24 - min i (-24)).toNat = T := ⟨_, rfl⟩
  have hb : floatBits .sub .f32 x 1061158912 = some (FloatKind.f32.format.nearest (if T = 0 then (false && !false) else decide (T < 0)) T.natAbs (min i (-24))) := by
    rw [← hT]
    simp only [floatBits, Format.sub, three_read, hr, Datum.opposite, Datum.sum]
    rfl
  rw [signedV, signedV] at hT hgt
  simp only [Bool.not_false, if_true, Bool.false_eq_true, if_false] at hT hgt
  have hm1 : m * 2 ^ (i - min i (-24)).toNat ≤ 16777216 * 2 ^ (-24 - min i (-24)).toNat := by
    rcases hl with h | ⟨h1, h2⟩
    · rw [h]; simp
    · have e24 : 16777216 = 2 ^ 24 := by decide
      rw [e24, ← Nat.pow_add]
      refine Nat.le_trans (Nat.mul_le_mul_right _ h2) ?_
      rw [← Nat.pow_add]
      exact Nat.pow_le_pow_right (by omega) (by omega)
  have hT2 : 0 < T ∧ T.natAbs ≤ 4194304 * 2 ^ (-24 - min i (-24)).toNat := by
    generalize 2 ^ (-24 - min i (-24)).toNat = Y at hT hgt hm1 ⊢
    generalize m * 2 ^ (i - min i (-24)).toNat = X at hT hgt hm1
    omega
  have hsg : (if T = 0 then (false && !false) else decide (T < 0)) = false := by
    rw [if_neg (by omega)]
    simp
    omega
  rw [hsg] at hb
  have hfit : T.natAbs * 2 ^ (min i (-24) - -149).toNat ≤ 1 * 2 ^ (-2 - -149 : Int).toNat := by
    refine Nat.le_trans (Nat.mul_le_mul_right _ hT2.2) ?_
    have e22 : 4194304 = 2 ^ 22 := by decide
    rw [e22, ← Nat.pow_add, ← Nat.pow_add, Nat.one_mul]
    exact Nat.pow_le_pow_right (by omega) (by omega)
  obtain ⟨m', i', q1, q2, q3⟩ := near_below false T.natAbs 1 (min i (-24)) (-2) (-149) (by omega) (by omega) (by omega) (by omega) (by omega) hfit
  refine ⟨_, hb, m', i', q1, q2, ?_⟩
  rw [Nat.one_mul, show (-2 + 149 : Int).toNat = 147 from by decide] at q3
  exact q3
theorem rise_fin {r d m : Nat} {j : Int} (hr : fin32 (cls .f32 r) = true) (rd : FloatKind.f32.format.read d = .number false m j) (hj : -149 ≤ j) (hm : m * 2 ^ (j + 149).toNat ≤ 2 ^ 147) : fin32 (fop .mul .f32 (fop .mul .f32 (cls .f32 r) (some d)) (some 1082130432)) = true := by
  obtain ⟨cr, s, mr, ir, rr, g1, g2, g3⟩ := fin_read hr
  rw [cr]
  have h1 : floatBits .mul .f32 r d = some (FloatKind.f32.format.nearest (s ^^ false) (mr * m) (ir + j)) := by
    simp only [floatBits, Format.mul, rr, rd, Datum.product]; rfl
  have hr1 : mr * 2 ^ (ir + 149).toNat ≤ 16777215 * 2 ^ 253 := Nat.mul_le_mul (by omega) (Nat.pow_le_pow_right (by omega) (by omega))
  have hb1 := scale_bound hr1 hm
  have e1 : (ir + 149).toNat + (j + 149).toNat = (ir + j - -298).toNat := by omega
  have e2 : 253 + 147 = (102 - -298 : Int).toNat := by decide
  rw [e1, e2] at hb1
  obtain ⟨m1, i1, q1, q2, q3⟩ := near_below (s ^^ false) (mr * m) 16777215 (ir + j) 102 (-298) (by omega) (by omega) (by omega) (by omega) (by omega) hb1
  have h2 : floatBits .mul .f32 (FloatKind.f32.format.nearest (s ^^ false) (mr * m) (ir + j)) 1082130432 = some (FloatKind.f32.format.nearest ((s ^^ false) ^^ false) (m1 * 8388608) (i1 + -21)) := by
    simp only [floatBits, Format.mul, q1, four_read, Datum.product]; rfl
  have h4 : 8388608 * 2 ^ 128 ≤ 2 ^ 151 := by
    have e23 : 8388608 = 2 ^ 23 := by decide
    rw [e23, ← Nat.pow_add]
    exact Nat.le_refl _
  have hb2 := scale_bound q3 h4
  have e3 : (i1 + 149).toNat + 128 = (i1 + -21 - -298).toNat := by omega
  have e4 : (102 + 149 : Int).toNat + 151 = (104 - -298 : Int).toNat := by decide
  rw [e3, e4] at hb2
  obtain ⟨m2, i2, p1, _, _⟩ := near_below ((s ^^ false) ^^ false) (m1 * 8388608) 16777215 (i1 + -21) 104 (-298) (by omega) (by omega) (by omega) (by omega) (by omega) hb2
  have f1 : fop .mul .f32 (some r) (some d) = some (FloatKind.f32.format.nearest (s ^^ false) (mr * m) (ir + j)) := h1
  have f2 : fop .mul .f32 (some (FloatKind.f32.format.nearest (s ^^ false) (mr * m) (ir + j))) (some 1082130432) = some (FloatKind.f32.format.nearest ((s ^^ false) ^^ false) (m1 * 8388608) (i1 + -21)) := h2
  rw [f1, f2]
  exact fin_of_read p1
/-- the end of a tune -/
def riseC (r X S : Option Nat) : Option Nat := if fcmp .gtr (ford .f32 X (some 1061158912)) then fop .add .f32 S (fop .mul .f32 (fop .mul .f32 r (fop .sub .f32 X (some 1061158912))) (some 1082130432)) else S
theorem rise_num {r x s : Nat} (hr : fin32 (cls .f32 r) = true) (hx : Unit x) (hs : nanW .f32 s = false) : ∃ z, riseC (cls .f32 r) (some x) (some s) = some z ∧ nanW .f32 z = false := by
  unfold riseC
  cases hg : fcmp .gtr (ford .f32 (some x) (some 1061158912))
  · exact ⟨s, rfl, hs⟩
  · simp only [if_true]
    obtain ⟨d, hd, m, j, rd, hj, hm⟩ := rise_part hx hg
    have e : fop .sub .f32 (some x) (some 1061158912) = some d := hd
    rw [e]
    exact add_num hs (rise_fin hr rd hj hm) mul_num
/-- the pitch before it is looked at, and the pitch -/
def pitchS (b f r : Option Nat) (ys : List Nat) (n : Nat) (T L : Option Nat) : Option Nat := riseC r (pitchX T L) (pitchK (pitch0 b f (pitchX T L)) T ys n)
def pitchG (S : Option Nat) : Option Nat := if fcmp .gtr (ford .f32 S (some 0)) then S else some 0
def pitchR (b f r : Option Nat) (ys : List Nat) (n : Nat) (T L : Option Nat) : Option Nat × Bool := if tuneV b f r ys n && (leastC T && areaC L) then (finR (pitchG (pitchS b f r ys n T L)), fin32 (pitchG (pitchS b f r ys n T L))) else (some 0, false)
theorem tune_parts {b f r : Option Nat} {ys : List Nat} {n : Nat} (h : tuneV b f r ys n = true) : n ≤ 8 ∧ areaC b = true ∧ shareC f = true ∧ fin32 r = true ∧ accsB ys n = true := by
  unfold tuneV at h
  simpa using h
theorem pitchS_num {b f r t l n : Nat} {ys : List Nat} (hV : tuneV (cls .f32 b) (cls .f32 f) (cls .f32 r) ys n = true) (ht : leastC (cls .f32 t) = true) (hl : areaC (cls .f32 l) = true) :
    fop .add .f32 (some 0) (pitch0 (cls .f32 b) (cls .f32 f) (pitchX (cls .f32 t) (cls .f32 l))) = pitch0 (cls .f32 b) (cls .f32 f) (pitchX (cls .f32 t) (cls .f32 l)) ∧
    fcmp .leq (ford .f32 (pitchS (cls .f32 b) (cls .f32 f) (cls .f32 r) ys n (cls .f32 t) (cls .f32 l)) (some 0)) = !fcmp .gtr (ford .f32 (pitchS (cls .f32 b) (cls .f32 f) (cls .f32 r) ys n (cls .f32 t) (cls .f32 l)) (some 0)) := by
  obtain ⟨_, h1, h2, h3, h4⟩ := tune_parts hV
  obtain ⟨x, hx, nx, ux⟩ := pitchX_unit ht hl
  obtain ⟨p, hp, np, hz⟩ := pitch0_ok h1 h2 ux
  have htf : fin32 (cls .f32 t) = true := by unfold leastC at ht; simp at ht; exact ht.2
  obtain ⟨s, hs, ns⟩ := pitchK_num np htf h4 n (Nat.le_refl _)
  obtain ⟨z, hz2, nz⟩ := rise_num h3 ux ns
  unfold pitchS
  rw [hx, hp, hs, hz2]
  exact ⟨hz, leq_not nz⟩



open Ieee

theorem pitchK_succ (P T : Option Nat) (ys : List Nat) (k : Nat) : pitchK P T ys (k + 1) = fop .add .f32 (pitchK P T ys k) (bumpC (cls .f32 (ys.getD (k * 3) 0)) (cls .f32 (ys.getD (k * 3 + 1) 0)) (cls .f32 (ys.getD (k * 3 + 2) 0)) T) := rfl
set_option maxHeartbeats 2000000 in
set_option maxRecDepth 100000 in
theorem l06BumpAt_any (b o x y z t : Nat) (w : World) (h : Cell3 w b o x y z) (hb : b < w.heap.size) : Calls Try.prog 67 #[.pointer (some ⟨b, o, none⟩), .float .f32 t] w fun e w' => ∃ r, e = .returned (.float .f32 r) ∧ Is .f32 r (bumpC (cls .f32 x) (cls .f32 y) (cls .f32 z) (cls .f32 t)) ∧ ∃ m, w' = w.drewN m := by
  obtain ⟨c0, c1, c2⟩ := h
  unfold bumpC bumpW
  cases hG : fcmp .gtr (ford .f32 (fop .sub .f32 (some 1065353216) (fop .mul .f32 (fop .quo .f32 (fop .sub .f32 (cls .f32 t) (cls .f32 x)) (cls .f32 z)) (fop .quo .f32 (fop .sub .f32 (cls .f32 t) (cls .f32 x)) (cls .f32 z)))) (some 0))
  all_goals
    go_enter Try.func67, Try.ntmps67
    go_wp2_with fail
    refine wp_region_many (by kernel_rfl) (by kernel_rfl) (by kernel_rfl) ?_
    repeat (with_reducible refine wpM_cons ?_; first
      | (refine wpM_fa rfl rfl rfl rfl rfl (by first | assumption | exact is_const (by decide) | exact is_int _ | exact is_self _ _) (by first | assumption | exact is_const (by decide) | exact is_int _ | exact is_self _ _) ?_; intro r hr hrw)
      | (refine wpM_quiet rfl (fun K hK => ?_); go_simp; refine hK _ ?_; clear hK K))
    with_reducible refine wpM_nil ?_
    intro w3 hw3
    obtain ⟨nq, hw3⟩ := hw3
    subst hw3
    go_wp2_with (first | (refine wpList_fa rfl rfl rfl rfl rfl (by first | assumption | exact is_const (by decide) | exact is_self _ _) (by first | assumption | exact is_const (by decide) | exact is_self _ _) ?_; intro q nq hq hqw) | (refine wpList_fcmp rfl rfl rfl rfl rfl (by first | assumption | exact is_const (by decide) | exact is_self _ _) (by first | assumption | exact is_const (by decide) | exact is_self _ _) ?_; rw [hG]))
    go_ret
    first
      | exact ⟨_, rfl, is_const (by decide), _, rfl⟩
      | (refine ⟨_, rfl, ?_, _, rfl⟩; first | assumption | (simp only [if_true]; assumption))

set_option maxHeartbeats 4000000 in
set_option maxRecDepth 100000 in
theorem l06Pitch_any (x0 b f ri : Nat) (a : Option Addr) (n c t l : Nat) (ys : List Nat) (R : Option Nat) (O : Bool) (w : World) (hb : Box w x0 #[.float .f32 b, .float .f32 f, .float .f32 ri, .slice a n c]) (h : HoldsA w a n ys) (hn : n ≤ 1048576) (hR : (finR (pitchG (riseC (cls .f32 ri) (pitchX (cls .f32 t) (cls .f32 l)) (pitchK (fop .add .f32 (some 0) (pitch0 (cls .f32 b) (cls .f32 f) (pitchX (cls .f32 t) (cls .f32 l)))) (cls .f32 t) ys n))), fin32 (pitchG (riseC (cls .f32 ri) (pitchX (cls .f32 t) (cls .f32 l)) (pitchK (fop .add .f32 (some 0) (pitch0 (cls .f32 b) (cls .f32 f) (pitchX (cls .f32 t) (cls .f32 l)))) (cls .f32 t) ys n)))) = (R, O)) :
    Calls Try.prog 104 #[.pointer (some ⟨x0, 0, none⟩), .float .f32 t, .float .f32 l] w fun e w' => ∃ v, e = .returned (.tuple #[.float .f32 v, .bool O]) ∧ Is .f32 v R ∧ Ext w w' := by
  have HH := hid h
  have HN := hid hn
  have HBX := hid hb
  have HRR := hid hR
  obtain ⟨d0, d1, d2, d3, dl⟩ := Box.cells4 hb
  clear h hn hb hR
  cases hg1 : fcmp .gtr (ford .f32 (fop .quo .f32 (cls .f32 t) (cls .f32 l)) (some 1065353216))
  · have XE : (pitchX (cls .f32 t) (cls .f32 l)) = fop .quo .f32 (cls .f32 t) (cls .f32 l) := by unfold pitchX; rw [hg1]; rfl
    have HXE := hid XE
    clear XE
    go_enter Try.func104, Try.ntmps104
    go_wp2_with (first | (refine wpList_fa rfl rfl rfl rfl rfl (by first | assumption | exact is_const (by decide) | exact is_self _ _) (by first | assumption | exact is_const (by decide) | exact is_self _ _) ?_; intro q nq hq hqw) | (refine wpList_fcmp rfl rfl rfl rfl rfl (by first | assumption | exact is_const (by decide) | exact is_self _ _) (by first | assumption | exact is_const (by decide) | exact is_self _ _) ?_; rw [hg1]))
    have hqx := hid hq
    refine wp_region_many (by kernel_rfl) (by kernel_rfl) (by kernel_rfl) ?_
    repeat (with_reducible refine wpM_cons ?_; first
      | (refine wpM_fa rfl rfl rfl rfl rfl (by first | assumption | exact is_const (by decide) | exact is_int _ | exact is_self _ _) (by first | assumption | exact is_const (by decide) | exact is_int _ | exact is_self _ _) ?_; intro r hr hrw)
      | (refine wpM_quiet rfl (fun K hK => ?_); go_simp; refine hK _ ?_; clear hK K))
    with_reducible refine wpM_nil ?_
    intro w3 hw3
    obtain ⟨nq, hw3⟩ := hw3
    subst hw3
    have HA := hid (show Is .f32 r (fop .add .f32 (some 0) (pitch0 (cls .f32 b) (cls .f32 f) (pitchX (cls .f32 t) (cls .f32 l)))) from by unfold pitch0; rw [HXE.out]; assumption)
    generalize r = p0 at HA ⊢
    clear hr hrw
    go_wp2_with fail
    go_loopw [9, 10] (fun v i wr => ∃ (k p : Nat), k ≤ n ∧ i = .int .i64 k ∧ v = .float .f32 p ∧ Hid (Is .f32 p (pitchK (fop .add .f32 (some 0) (pitch0 (cls .f32 b) (cls .f32 f) (pitchX (cls .f32 t) (cls .f32 l)))) (cls .f32 t) ys k)) ∧ Hid (Ext w wr)) (fun _ i _ => n - (intOf i).toNat)
    case atStart => exact ⟨0, p0, Nat.zero_le _, rfl, rfl, HA, hid (by (repeat with_reducible (first | exact Ext.refl _ | exact ext_alloc _ _ | refine Ext.drewN ?_ _ | refine Ext.drew1 ?_ | refine Ext.set ?_ (by dsimp only; omega) _ | refine Ext.alloc ?_ _)))⟩
    case round =>
      obtain ⟨k, p, hk, rfl, rfl, ha, he⟩ := hrel
      have hn2 : n ≤ 1048576 := HN.out
      clear d0 d1 d2 d3 dl
      obtain ⟨d0, d1, d2, d3, dl⟩ := Box.cells4 (Box.ext HBX.out he.out)
      by_cases hlt : k < n
      · obtain ⟨_, h0 | ⟨g, off, rfl, hbl, hcell⟩⟩ := HoldsA.ext HH.out he.out
        · omega
        have hc3 := hcell k hlt
        have HSU := hid (pitchK_succ (fop .add .f32 (some 0) (pitch0 (cls .f32 b) (cls .f32 f) (pitchX (cls .f32 t) (cls .f32 l)))) (cls .f32 t) ys k)
        clear hcell
        generalize ys.getD (k * 3) 0 = x at hc3 HSU
        generalize ys.getD (k * 3 + 1) 0 = y at hc3 HSU
        generalize ys.getD (k * 3 + 2) 0 = z at hc3 HSU
        generalize pitchK (fop .add .f32 (some 0) (pitch0 (cls .f32 b) (cls .f32 f) (pitchX (cls .f32 t) (cls .f32 l)))) (cls .f32 t) ys k = K at ha HSU
        have hac : Is .f32 p K := ha.out
        have HC3 := hid (And.intro hc3 hbl)
        clear hc3
        have hi0 : (0 : Int) ≤ (k : Int) := by omega
        have hi1 : (k : Int) < (n : Int) := by omega
        go_wp2_with (first | (go_at_call 67; with_reducible refine (l06BumpAt_any _ _ x y z t _ HC3.out.1 HC3.out.2).mono ?_; rintro e w' ⟨q, rfl, hq, m, rfl⟩) | (refine wpList_fa rfl rfl rfl rfl rfl (by first | assumption | exact is_const (by decide) | exact is_self _ _) (by first | assumption | exact is_const (by decide) | exact is_self _ _) ?_; intro q nq hq hqw))
        go_roundw
        case rel => exact ⟨k + 1, _, by omega, by go_num, rfl, hid (by rw [HSU.out]; assumption), hid (Ext.trans he.out (by (repeat with_reducible (first | exact Ext.refl _ | exact ext_alloc _ _ | refine Ext.drewN ?_ _ | refine Ext.drew1 ?_ | refine Ext.set ?_ (by dsimp only; omega) _ | refine Ext.alloc ?_ _))))⟩
        case measure => simp [intOf]; omega
      · have hkn : k = n := by omega
        subst hkn
        obtain ⟨SS, hSS⟩ : ∃ SS, SS = riseC (cls .f32 ri) (pitchX (cls .f32 t) (cls .f32 l)) (pitchK (fop .add .f32 (some 0) (pitch0 (cls .f32 b) (cls .f32 f) (pitchX (cls .f32 t) (cls .f32 l)))) (cls .f32 t) ys k) := ⟨_, rfl⟩
        have HRO := hid (show R = finR (pitchG SS) ∧ O = fin32 (pitchG SS) from by have h9 := HRR.out; rw [← hSS] at h9; simp only [Prod.mk.injEq] at h9; exact ⟨h9.1.symm, h9.2.symm⟩)
        have HSS := hid hSS
        clear hSS HRR
        generalize pitchK (fop .add .f32 (some 0) (pitch0 (cls .f32 b) (cls .f32 f) (pitchX (cls .f32 t) (cls .f32 l)))) (cls .f32 t) ys k = K at ha HSS
        have hac : Is .f32 p K := ha.out
        have hx : Is .f32 q (pitchX (cls .f32 t) (cls .f32 l)) := by rw [HXE.out]; exact hqx.out
        generalize (pitchX (cls .f32 t) (cls .f32 l)) = X0 at hx HSS
        cases h34 : fcmp .gtr (ford .f32 X0 (some 1061158912))
        · have eS : SS = K := by rw [HSS.out]; unfold riseC; rw [h34]; rfl
          cases hg : fcmp .gtr (ford .f32 K (some 0))
          · have hR2 : pitchG SS = some 0 := by rw [eS]; unfold pitchG; rw [hg]; rfl
            clear eS HSS
            have HR2 := hid (show O = fin32 (some 0) ∧ R = finR (some 0) from by have h9 := HRO.out; rw [hR2] at h9; exact ⟨h9.2, h9.1⟩)
            clear hR2 HRO
            go_wp2_with (first | (refine wpList_fcmp rfl rfl rfl rfl rfl (by first | assumption | exact is_const (by decide) | exact is_self _ _) (by first | assumption | exact is_const (by decide) | exact is_self _ _) ?_; rw [h34]) | (refine wpList_fa rfl rfl rfl rfl rfl (by first | assumption | exact is_const (by decide) | exact is_self _ _) (by first | assumption | exact is_const (by decide) | exact is_self _ _) ?_; intro q nq hq hqw) | (refine wpList_fcmp rfl rfl rfl rfl rfl (by first | assumption | exact is_const (by decide) | exact is_self _ _) (by first | assumption | exact is_const (by decide) | exact is_self _ _) ?_; rw [hg]) | (go_at_call 66; refine (l02Number_any _ (some 0) (is_const (by decide)) _).mono ?_; rintro e w' ⟨v, rfl, hv, m, rfl⟩))
            go_returns
            rw [HR2.out.1, HR2.out.2]
            refine ⟨_, rfl, hv, ?_⟩
            exact Ext.trans he.out (by (repeat with_reducible (first | exact Ext.refl _ | exact ext_alloc _ _ | refine Ext.drewN ?_ _ | refine Ext.drew1 ?_ | refine Ext.set ?_ (by dsimp only; omega) _ | refine Ext.alloc ?_ _)))
          · have hR2 : pitchG SS = K := by rw [eS]; unfold pitchG; rw [hg]; rfl
            clear eS HSS
            have HR2 := hid (show O = fin32 K ∧ R = finR K from by have h9 := HRO.out; rw [hR2] at h9; exact ⟨h9.2, h9.1⟩)
            clear hR2 HRO
            go_wp2_with (first | (refine wpList_fcmp rfl rfl rfl rfl rfl (by first | assumption | exact is_const (by decide) | exact is_self _ _) (by first | assumption | exact is_const (by decide) | exact is_self _ _) ?_; rw [h34]) | (refine wpList_fa rfl rfl rfl rfl rfl (by first | assumption | exact is_const (by decide) | exact is_self _ _) (by first | assumption | exact is_const (by decide) | exact is_self _ _) ?_; intro q nq hq hqw) | (refine wpList_fcmp rfl rfl rfl rfl rfl (by first | assumption | exact is_const (by decide) | exact is_self _ _) (by first | assumption | exact is_const (by decide) | exact is_self _ _) ?_; rw [hg]) | (go_at_call 66; refine (l02Number_any _ K (by assumption) _).mono ?_; rintro e w' ⟨v, rfl, hv, m, rfl⟩))
            go_returns
            rw [HR2.out.1, HR2.out.2]
            refine ⟨_, rfl, hv, ?_⟩
            exact Ext.trans he.out (by (repeat with_reducible (first | exact Ext.refl _ | exact ext_alloc _ _ | refine Ext.drewN ?_ _ | refine Ext.drew1 ?_ | refine Ext.set ?_ (by dsimp only; omega) _ | refine Ext.alloc ?_ _)))
        · have eS : SS = (fop .add .f32 K (fop .mul .f32 (fop .mul .f32 (cls .f32 ri) (fop .sub .f32 X0 (some 1061158912))) (some 1082130432))) := by rw [HSS.out]; unfold riseC; rw [h34]; rfl
          cases hg : fcmp .gtr (ford .f32 (fop .add .f32 K (fop .mul .f32 (fop .mul .f32 (cls .f32 ri) (fop .sub .f32 X0 (some 1061158912))) (some 1082130432))) (some 0))
          · have hR2 : pitchG SS = some 0 := by rw [eS]; unfold pitchG; rw [hg]; rfl
            clear eS HSS
            have HR2 := hid (show O = fin32 (some 0) ∧ R = finR (some 0) from by have h9 := HRO.out; rw [hR2] at h9; exact ⟨h9.2, h9.1⟩)
            clear hR2 HRO
            go_wp2_with (first | (refine wpList_fcmp rfl rfl rfl rfl rfl (by first | assumption | exact is_const (by decide) | exact is_self _ _) (by first | assumption | exact is_const (by decide) | exact is_self _ _) ?_; rw [h34]) | (refine wpList_fa rfl rfl rfl rfl rfl (by first | assumption | exact is_const (by decide) | exact is_self _ _) (by first | assumption | exact is_const (by decide) | exact is_self _ _) ?_; intro q nq hq hqw) | (refine wpList_fcmp rfl rfl rfl rfl rfl (by first | assumption | exact is_const (by decide) | exact is_self _ _) (by first | assumption | exact is_const (by decide) | exact is_self _ _) ?_; rw [hg]) | (go_at_call 66; refine (l02Number_any _ (some 0) (is_const (by decide)) _).mono ?_; rintro e w' ⟨v, rfl, hv, m, rfl⟩))
            go_returns
            rw [HR2.out.1, HR2.out.2]
            refine ⟨_, rfl, hv, ?_⟩
            exact Ext.trans he.out (by (repeat with_reducible (first | exact Ext.refl _ | exact ext_alloc _ _ | refine Ext.drewN ?_ _ | refine Ext.drew1 ?_ | refine Ext.set ?_ (by dsimp only; omega) _ | refine Ext.alloc ?_ _)))
          · have hR2 : pitchG SS = (fop .add .f32 K (fop .mul .f32 (fop .mul .f32 (cls .f32 ri) (fop .sub .f32 X0 (some 1061158912))) (some 1082130432))) := by rw [eS]; unfold pitchG; rw [hg]; rfl
            clear eS HSS
            have HR2 := hid (show O = fin32 (fop .add .f32 K (fop .mul .f32 (fop .mul .f32 (cls .f32 ri) (fop .sub .f32 X0 (some 1061158912))) (some 1082130432))) ∧ R = finR (fop .add .f32 K (fop .mul .f32 (fop .mul .f32 (cls .f32 ri) (fop .sub .f32 X0 (some 1061158912))) (some 1082130432))) from by have h9 := HRO.out; rw [hR2] at h9; exact ⟨h9.2, h9.1⟩)
            clear hR2 HRO
            go_wp2_with (first | (refine wpList_fcmp rfl rfl rfl rfl rfl (by first | assumption | exact is_const (by decide) | exact is_self _ _) (by first | assumption | exact is_const (by decide) | exact is_self _ _) ?_; rw [h34]) | (refine wpList_fa rfl rfl rfl rfl rfl (by first | assumption | exact is_const (by decide) | exact is_self _ _) (by first | assumption | exact is_const (by decide) | exact is_self _ _) ?_; intro q nq hq hqw) | (refine wpList_fcmp rfl rfl rfl rfl rfl (by first | assumption | exact is_const (by decide) | exact is_self _ _) (by first | assumption | exact is_const (by decide) | exact is_self _ _) ?_; rw [hg]) | (go_at_call 66; refine (l02Number_any _ (fop .add .f32 K (fop .mul .f32 (fop .mul .f32 (cls .f32 ri) (fop .sub .f32 X0 (some 1061158912))) (some 1082130432))) (by assumption) _).mono ?_; rintro e w' ⟨v, rfl, hv, m, rfl⟩))
            go_returns
            rw [HR2.out.1, HR2.out.2]
            refine ⟨_, rfl, hv, ?_⟩
            exact Ext.trans he.out (by (repeat with_reducible (first | exact Ext.refl _ | exact ext_alloc _ _ | refine Ext.drewN ?_ _ | refine Ext.drew1 ?_ | refine Ext.set ?_ (by dsimp only; omega) _ | refine Ext.alloc ?_ _)))

  · have XE : (pitchX (cls .f32 t) (cls .f32 l)) = some 1065353216 := by unfold pitchX; rw [hg1]; rfl
    have HXE := hid XE
    clear XE
    go_enter Try.func104, Try.ntmps104
    go_wp2_with (first | (refine wpList_fa rfl rfl rfl rfl rfl (by first | assumption | exact is_const (by decide) | exact is_self _ _) (by first | assumption | exact is_const (by decide) | exact is_self _ _) ?_; intro q nq hq hqw) | (refine wpList_fcmp rfl rfl rfl rfl rfl (by first | assumption | exact is_const (by decide) | exact is_self _ _) (by first | assumption | exact is_const (by decide) | exact is_self _ _) ?_; rw [hg1]))
    refine wp_region_many (by kernel_rfl) (by kernel_rfl) (by kernel_rfl) ?_
    repeat (with_reducible refine wpM_cons ?_; first
      | (refine wpM_fa rfl rfl rfl rfl rfl (by first | assumption | exact is_const (by decide) | exact is_int _ | exact is_self _ _) (by first | assumption | exact is_const (by decide) | exact is_int _ | exact is_self _ _) ?_; intro r hr hrw)
      | (refine wpM_quiet rfl (fun K hK => ?_); go_simp; refine hK _ ?_; clear hK K))
    with_reducible refine wpM_nil ?_
    intro w3 hw3
    obtain ⟨nq, hw3⟩ := hw3
    subst hw3
    have HA := hid (show Is .f32 r (fop .add .f32 (some 0) (pitch0 (cls .f32 b) (cls .f32 f) (pitchX (cls .f32 t) (cls .f32 l)))) from by unfold pitch0; rw [HXE.out]; assumption)
    generalize r = p0 at HA ⊢
    clear hr hrw
    go_wp2_with fail
    go_loopw [9, 10] (fun v i wr => ∃ (k p : Nat), k ≤ n ∧ i = .int .i64 k ∧ v = .float .f32 p ∧ Hid (Is .f32 p (pitchK (fop .add .f32 (some 0) (pitch0 (cls .f32 b) (cls .f32 f) (pitchX (cls .f32 t) (cls .f32 l)))) (cls .f32 t) ys k)) ∧ Hid (Ext w wr)) (fun _ i _ => n - (intOf i).toNat)
    case atStart => exact ⟨0, p0, Nat.zero_le _, rfl, rfl, HA, hid (by (repeat with_reducible (first | exact Ext.refl _ | exact ext_alloc _ _ | refine Ext.drewN ?_ _ | refine Ext.drew1 ?_ | refine Ext.set ?_ (by dsimp only; omega) _ | refine Ext.alloc ?_ _)))⟩
    case round =>
      obtain ⟨k, p, hk, rfl, rfl, ha, he⟩ := hrel
      have hn2 : n ≤ 1048576 := HN.out
      clear d0 d1 d2 d3 dl
      obtain ⟨d0, d1, d2, d3, dl⟩ := Box.cells4 (Box.ext HBX.out he.out)
      by_cases hlt : k < n
      · obtain ⟨_, h0 | ⟨g, off, rfl, hbl, hcell⟩⟩ := HoldsA.ext HH.out he.out
        · omega
        have hc3 := hcell k hlt
        have HSU := hid (pitchK_succ (fop .add .f32 (some 0) (pitch0 (cls .f32 b) (cls .f32 f) (pitchX (cls .f32 t) (cls .f32 l)))) (cls .f32 t) ys k)
        clear hcell
        generalize ys.getD (k * 3) 0 = x at hc3 HSU
        generalize ys.getD (k * 3 + 1) 0 = y at hc3 HSU
        generalize ys.getD (k * 3 + 2) 0 = z at hc3 HSU
        generalize pitchK (fop .add .f32 (some 0) (pitch0 (cls .f32 b) (cls .f32 f) (pitchX (cls .f32 t) (cls .f32 l)))) (cls .f32 t) ys k = K at ha HSU
        have hac : Is .f32 p K := ha.out
        have HC3 := hid (And.intro hc3 hbl)
        clear hc3
        have hi0 : (0 : Int) ≤ (k : Int) := by omega
        have hi1 : (k : Int) < (n : Int) := by omega
        go_wp2_with (first | (go_at_call 67; with_reducible refine (l06BumpAt_any _ _ x y z t _ HC3.out.1 HC3.out.2).mono ?_; rintro e w' ⟨q, rfl, hq, m, rfl⟩) | (refine wpList_fa rfl rfl rfl rfl rfl (by first | assumption | exact is_const (by decide) | exact is_self _ _) (by first | assumption | exact is_const (by decide) | exact is_self _ _) ?_; intro q nq hq hqw))
        go_roundw
        case rel => exact ⟨k + 1, _, by omega, by go_num, rfl, hid (by rw [HSU.out]; assumption), hid (Ext.trans he.out (by (repeat with_reducible (first | exact Ext.refl _ | exact ext_alloc _ _ | refine Ext.drewN ?_ _ | refine Ext.drew1 ?_ | refine Ext.set ?_ (by dsimp only; omega) _ | refine Ext.alloc ?_ _))))⟩
        case measure => simp [intOf]; omega
      · have hkn : k = n := by omega
        subst hkn
        obtain ⟨SS, hSS⟩ : ∃ SS, SS = riseC (cls .f32 ri) (pitchX (cls .f32 t) (cls .f32 l)) (pitchK (fop .add .f32 (some 0) (pitch0 (cls .f32 b) (cls .f32 f) (pitchX (cls .f32 t) (cls .f32 l)))) (cls .f32 t) ys k) := ⟨_, rfl⟩
        have HRO := hid (show R = finR (pitchG SS) ∧ O = fin32 (pitchG SS) from by have h9 := HRR.out; rw [← hSS] at h9; simp only [Prod.mk.injEq] at h9; exact ⟨h9.1.symm, h9.2.symm⟩)
        have HSS := hid hSS
        clear hSS HRR
        generalize pitchK (fop .add .f32 (some 0) (pitch0 (cls .f32 b) (cls .f32 f) (pitchX (cls .f32 t) (cls .f32 l)))) (cls .f32 t) ys k = K at ha HSS
        have hac : Is .f32 p K := ha.out
        have hx : Is .f32 1065353216 (pitchX (cls .f32 t) (cls .f32 l)) := by rw [HXE.out]; exact is_const (by decide)
        generalize (pitchX (cls .f32 t) (cls .f32 l)) = X0 at hx HSS
        cases h34 : fcmp .gtr (ford .f32 X0 (some 1061158912))
        · have eS : SS = K := by rw [HSS.out]; unfold riseC; rw [h34]; rfl
          cases hg : fcmp .gtr (ford .f32 K (some 0))
          · have hR2 : pitchG SS = some 0 := by rw [eS]; unfold pitchG; rw [hg]; rfl
            clear eS HSS
            have HR2 := hid (show O = fin32 (some 0) ∧ R = finR (some 0) from by have h9 := HRO.out; rw [hR2] at h9; exact ⟨h9.2, h9.1⟩)
            clear hR2 HRO
            go_wp2_with (first | (refine wpList_fcmp rfl rfl rfl rfl rfl (by first | assumption | exact is_const (by decide) | exact is_self _ _) (by first | assumption | exact is_const (by decide) | exact is_self _ _) ?_; rw [h34]) | (refine wpList_fa rfl rfl rfl rfl rfl (by first | assumption | exact is_const (by decide) | exact is_self _ _) (by first | assumption | exact is_const (by decide) | exact is_self _ _) ?_; intro q nq hq hqw) | (refine wpList_fcmp rfl rfl rfl rfl rfl (by first | assumption | exact is_const (by decide) | exact is_self _ _) (by first | assumption | exact is_const (by decide) | exact is_self _ _) ?_; rw [hg]) | (go_at_call 66; refine (l02Number_any _ (some 0) (is_const (by decide)) _).mono ?_; rintro e w' ⟨v, rfl, hv, m, rfl⟩))
            go_returns
            rw [HR2.out.1, HR2.out.2]
            refine ⟨_, rfl, hv, ?_⟩
            exact Ext.trans he.out (by (repeat with_reducible (first | exact Ext.refl _ | exact ext_alloc _ _ | refine Ext.drewN ?_ _ | refine Ext.drew1 ?_ | refine Ext.set ?_ (by dsimp only; omega) _ | refine Ext.alloc ?_ _)))
          · have hR2 : pitchG SS = K := by rw [eS]; unfold pitchG; rw [hg]; rfl
            clear eS HSS
            have HR2 := hid (show O = fin32 K ∧ R = finR K from by have h9 := HRO.out; rw [hR2] at h9; exact ⟨h9.2, h9.1⟩)
            clear hR2 HRO
            go_wp2_with (first | (refine wpList_fcmp rfl rfl rfl rfl rfl (by first | assumption | exact is_const (by decide) | exact is_self _ _) (by first | assumption | exact is_const (by decide) | exact is_self _ _) ?_; rw [h34]) | (refine wpList_fa rfl rfl rfl rfl rfl (by first | assumption | exact is_const (by decide) | exact is_self _ _) (by first | assumption | exact is_const (by decide) | exact is_self _ _) ?_; intro q nq hq hqw) | (refine wpList_fcmp rfl rfl rfl rfl rfl (by first | assumption | exact is_const (by decide) | exact is_self _ _) (by first | assumption | exact is_const (by decide) | exact is_self _ _) ?_; rw [hg]) | (go_at_call 66; refine (l02Number_any _ K (by assumption) _).mono ?_; rintro e w' ⟨v, rfl, hv, m, rfl⟩))
            go_returns
            rw [HR2.out.1, HR2.out.2]
            refine ⟨_, rfl, hv, ?_⟩
            exact Ext.trans he.out (by (repeat with_reducible (first | exact Ext.refl _ | exact ext_alloc _ _ | refine Ext.drewN ?_ _ | refine Ext.drew1 ?_ | refine Ext.set ?_ (by dsimp only; omega) _ | refine Ext.alloc ?_ _)))
        · have eS : SS = (fop .add .f32 K (fop .mul .f32 (fop .mul .f32 (cls .f32 ri) (fop .sub .f32 X0 (some 1061158912))) (some 1082130432))) := by rw [HSS.out]; unfold riseC; rw [h34]; rfl
          cases hg : fcmp .gtr (ford .f32 (fop .add .f32 K (fop .mul .f32 (fop .mul .f32 (cls .f32 ri) (fop .sub .f32 X0 (some 1061158912))) (some 1082130432))) (some 0))
          · have hR2 : pitchG SS = some 0 := by rw [eS]; unfold pitchG; rw [hg]; rfl
            clear eS HSS
            have HR2 := hid (show O = fin32 (some 0) ∧ R = finR (some 0) from by have h9 := HRO.out; rw [hR2] at h9; exact ⟨h9.2, h9.1⟩)
            clear hR2 HRO
            go_wp2_with (first | (refine wpList_fcmp rfl rfl rfl rfl rfl (by first | assumption | exact is_const (by decide) | exact is_self _ _) (by first | assumption | exact is_const (by decide) | exact is_self _ _) ?_; rw [h34]) | (refine wpList_fa rfl rfl rfl rfl rfl (by first | assumption | exact is_const (by decide) | exact is_self _ _) (by first | assumption | exact is_const (by decide) | exact is_self _ _) ?_; intro q nq hq hqw) | (refine wpList_fcmp rfl rfl rfl rfl rfl (by first | assumption | exact is_const (by decide) | exact is_self _ _) (by first | assumption | exact is_const (by decide) | exact is_self _ _) ?_; rw [hg]) | (go_at_call 66; refine (l02Number_any _ (some 0) (is_const (by decide)) _).mono ?_; rintro e w' ⟨v, rfl, hv, m, rfl⟩))
            go_returns
            rw [HR2.out.1, HR2.out.2]
            refine ⟨_, rfl, hv, ?_⟩
            exact Ext.trans he.out (by (repeat with_reducible (first | exact Ext.refl _ | exact ext_alloc _ _ | refine Ext.drewN ?_ _ | refine Ext.drew1 ?_ | refine Ext.set ?_ (by dsimp only; omega) _ | refine Ext.alloc ?_ _)))
          · have hR2 : pitchG SS = (fop .add .f32 K (fop .mul .f32 (fop .mul .f32 (cls .f32 ri) (fop .sub .f32 X0 (some 1061158912))) (some 1082130432))) := by rw [eS]; unfold pitchG; rw [hg]; rfl
            clear eS HSS
            have HR2 := hid (show O = fin32 (fop .add .f32 K (fop .mul .f32 (fop .mul .f32 (cls .f32 ri) (fop .sub .f32 X0 (some 1061158912))) (some 1082130432))) ∧ R = finR (fop .add .f32 K (fop .mul .f32 (fop .mul .f32 (cls .f32 ri) (fop .sub .f32 X0 (some 1061158912))) (some 1082130432))) from by have h9 := HRO.out; rw [hR2] at h9; exact ⟨h9.2, h9.1⟩)
            clear hR2 HRO
            go_wp2_with (first | (refine wpList_fcmp rfl rfl rfl rfl rfl (by first | assumption | exact is_const (by decide) | exact is_self _ _) (by first | assumption | exact is_const (by decide) | exact is_self _ _) ?_; rw [h34]) | (refine wpList_fa rfl rfl rfl rfl rfl (by first | assumption | exact is_const (by decide) | exact is_self _ _) (by first | assumption | exact is_const (by decide) | exact is_self _ _) ?_; intro q nq hq hqw) | (refine wpList_fcmp rfl rfl rfl rfl rfl (by first | assumption | exact is_const (by decide) | exact is_self _ _) (by first | assumption | exact is_const (by decide) | exact is_self _ _) ?_; rw [hg]) | (go_at_call 66; refine (l02Number_any _ (fop .add .f32 K (fop .mul .f32 (fop .mul .f32 (cls .f32 ri) (fop .sub .f32 X0 (some 1061158912))) (some 1082130432))) (by assumption) _).mono ?_; rintro e w' ⟨v, rfl, hv, m, rfl⟩))
            go_returns
            rw [HR2.out.1, HR2.out.2]
            refine ⟨_, rfl, hv, ?_⟩
            exact Ext.trans he.out (by (repeat with_reducible (first | exact Ext.refl _ | exact ext_alloc _ _ | refine Ext.drewN ?_ _ | refine Ext.drew1 ?_ | refine Ext.set ?_ (by dsimp only; omega) _ | refine Ext.alloc ?_ _)))




open Ieee
set_option maxHeartbeats 2000000 in
theorem l06Timed_drew (x0 b f ri : Nat) (a : Option Addr) (n c l : Nat) (ys : List Nat) (V : Bool) (w : World) (hb : Box w x0 #[.float .f32 b, .float .f32 f, .float .f32 ri, .slice a n c]) (h : HoldsA w a n ys) (hn : n ≤ 1048576) (hV : (tuneV (cls .f32 b) (cls .f32 f) (cls .f32 ri) ys n && areaC (cls .f32 l)) = V) :
    Calls Try.prog 102 #[.pointer (some ⟨x0, 0, none⟩), .float .f32 l] w fun e w' => e = .returned (.bool V) ∧ ∃ m, w' = w.drewN m := by
  have HH := hid h
  have HN := hid hn
  have HBX := hid hb
  clear h hn hb
  cases hT : tuneV (cls .f32 b) (cls .f32 f) (cls .f32 ri) ys n
  · have e : V = false := by rw [← hV, hT]; rfl
    subst e
    clear hV
    go_enter Try.func102, Try.ntmps102
    go_wp2_with (go_at_call 93; with_reducible refine (l06Tune_drew x0 b f ri a n c ys false _ HBX.out HH.out HN.out hT).mono ?_; rintro e w' ⟨rfl, m, rfl⟩)
    go_ret
    exact ⟨rfl, _, rfl⟩
  cases hL : areaC (cls .f32 l)
  all_goals
    rw [hT, hL] at hV
    subst hV
    go_enter Try.func102, Try.ntmps102
    go_wp2_with (first | (go_at_call 93; with_reducible refine (l06Tune_drew x0 b f ri a n c ys true _ HBX.out HH.out HN.out hT).mono ?_; rintro e w' ⟨rfl, m, rfl⟩) | (go_at_call 108; with_reducible refine (l02Above_any l _).mono ?_; rintro e w' ⟨rfl, m2, rfl⟩; rw [hL]))
    go_ret
    exact ⟨rfl, _, rfl⟩

set_option maxHeartbeats 4000000 in
set_option maxRecDepth 100000 in
theorem sPitch_any (b f ri : Nat) (a : Option Addr) (n c t l : Nat) (ys : List Nat) (R : Option Nat) (O : Bool) (w : World) (h : HoldsA w a n ys) (hn : n ≤ 1048576) (hR : pitchR (cls .f32 b) (cls .f32 f) (cls .f32 ri) ys n (cls .f32 t) (cls .f32 l) = (R, O)) :
    Calls Try.prog 54 #[.agg #[.float .f32 b, .float .f32 f, .float .f32 ri, .slice a n c], .float .f32 t, .float .f32 l] w fun e w' => ∃ v, e = .returned (.tuple #[.float .f32 v, .bool O]) ∧ Is .f32 v R ∧ Ext w w' := by
  have HH := hid h
  have HN := hid hn
  clear h hn
  cases hV : (tuneV (cls .f32 b) (cls .f32 f) (cls .f32 ri) ys n && areaC (cls .f32 l))
  · have e : R = some 0 ∧ O = false := by
      unfold pitchR at hR
      have h9 : (tuneV (cls .f32 b) (cls .f32 f) (cls .f32 ri) ys n && (leastC (cls .f32 t) && areaC (cls .f32 l))) = false := by
        revert hV; cases tuneV (cls .f32 b) (cls .f32 f) (cls .f32 ri) ys n <;> cases areaC (cls .f32 l) <;> simp
      rw [h9] at hR
      cases hR; exact ⟨rfl, rfl⟩
    obtain ⟨rfl, rfl⟩ := e
    have HV := hid hV
    clear hR hV
    go_enter Try.func54, Try.ntmps54
    go_wp2_with (go_at_call 102; with_reducible refine (l06Timed_drew _ b f ri a n c l ys false _ (Box.ext (box_new (w := w) #[.float .f32 b, .float .f32 f, .float .f32 ri, .slice a n c] 72) (by (repeat with_reducible (first | exact Ext.refl _ | exact ext_alloc _ _ | refine Ext.drewN ?_ _ | refine Ext.drew1 ?_ | refine Ext.set ?_ (by dsimp only; omega) _ | refine Ext.alloc ?_ _)))) (HoldsA.ext HH.out (by (repeat with_reducible (first | exact Ext.refl _ | exact ext_alloc _ _ | refine Ext.drewN ?_ _ | refine Ext.drew1 ?_ | refine Ext.set ?_ (by dsimp only; omega) _ | refine Ext.alloc ?_ _)))) HN.out HV.out).mono ?_; rintro e w' ⟨rfl, m, rfl⟩)
    go_returns
    refine ⟨_, rfl, is_const (by decide), ?_⟩
    (repeat with_reducible (first | exact Ext.refl _ | exact ext_alloc _ _ | refine Ext.drewN ?_ _ | refine Ext.drew1 ?_ | refine Ext.set ?_ (by dsimp only; omega) _ | refine Ext.alloc ?_ _))
  cases hT : leastC (cls .f32 t)
  · have e : R = some 0 ∧ O = false := by
      unfold pitchR at hR
      rw [hT] at hR
      simp only [Bool.false_and, Bool.and_false, Bool.false_eq_true, if_false] at hR
      cases hR; exact ⟨rfl, rfl⟩
    obtain ⟨rfl, rfl⟩ := e
    have HV := hid hV
    clear hR hV
    go_enter Try.func54, Try.ntmps54
    go_wp2_with (first | (go_at_call 102; with_reducible refine (l06Timed_drew _ b f ri a n c l ys true _ (Box.ext (box_new (w := w) #[.float .f32 b, .float .f32 f, .float .f32 ri, .slice a n c] 72) (by (repeat with_reducible (first | exact Ext.refl _ | exact ext_alloc _ _ | refine Ext.drewN ?_ _ | refine Ext.drew1 ?_ | refine Ext.set ?_ (by dsimp only; omega) _ | refine Ext.alloc ?_ _)))) (HoldsA.ext HH.out (by (repeat with_reducible (first | exact Ext.refl _ | exact ext_alloc _ _ | refine Ext.drewN ?_ _ | refine Ext.drew1 ?_ | refine Ext.set ?_ (by dsimp only; omega) _ | refine Ext.alloc ?_ _)))) HN.out HV.out).mono ?_; rintro e w' ⟨rfl, m, rfl⟩) | (go_at_call 103; with_reducible refine (l02Least_drew t _).mono ?_; rintro e w' ⟨rfl, m2, rfl⟩; rw [hT]))
    go_returns
    refine ⟨_, rfl, is_const (by decide), ?_⟩
    (repeat with_reducible (first | exact Ext.refl _ | exact ext_alloc _ _ | refine Ext.drewN ?_ _ | refine Ext.drew1 ?_ | refine Ext.set ?_ (by dsimp only; omega) _ | refine Ext.alloc ?_ _))
  have hV2 : tuneV (cls .f32 b) (cls .f32 f) (cls .f32 ri) ys n = true ∧ areaC (cls .f32 l) = true := by simpa using hV
  have HR := hid (show (finR (pitchG (riseC (cls .f32 ri) (pitchX (cls .f32 t) (cls .f32 l)) (pitchK (fop .add .f32 (some 0) (pitch0 (cls .f32 b) (cls .f32 f) (pitchX (cls .f32 t) (cls .f32 l)))) (cls .f32 t) ys n))), fin32 (pitchG (riseC (cls .f32 ri) (pitchX (cls .f32 t) (cls .f32 l)) (pitchK (fop .add .f32 (some 0) (pitch0 (cls .f32 b) (cls .f32 f) (pitchX (cls .f32 t) (cls .f32 l)))) (cls .f32 t) ys n)))) = (R, O) from by
    rw [(pitchS_num hV2.1 hT hV2.2).1, ← hR]
    unfold pitchR pitchS
    rw [hV2.1, hV2.2, hT]
    rfl)
  have HV := hid hV
  clear hR hV hV2
  go_enter Try.func54, Try.ntmps54
  go_wp2_with (first | (go_at_call 102; with_reducible refine (l06Timed_drew _ b f ri a n c l ys true _ (Box.ext (box_new (w := w) #[.float .f32 b, .float .f32 f, .float .f32 ri, .slice a n c] 72) (by (repeat with_reducible (first | exact Ext.refl _ | exact ext_alloc _ _ | refine Ext.drewN ?_ _ | refine Ext.drew1 ?_ | refine Ext.set ?_ (by dsimp only; omega) _ | refine Ext.alloc ?_ _)))) (HoldsA.ext HH.out (by (repeat with_reducible (first | exact Ext.refl _ | exact ext_alloc _ _ | refine Ext.drewN ?_ _ | refine Ext.drew1 ?_ | refine Ext.set ?_ (by dsimp only; omega) _ | refine Ext.alloc ?_ _)))) HN.out HV.out).mono ?_; rintro e w' ⟨rfl, m, rfl⟩) | (go_at_call 103; with_reducible refine (l02Least_drew t _).mono ?_; rintro e w' ⟨rfl, m2, rfl⟩; rw [hT]) | (go_at_call 104; refine (l06Pitch_any _ b f ri a n c t l ys R O _ (Box.ext (box_new (w := w) #[.float .f32 b, .float .f32 f, .float .f32 ri, .slice a n c] 72) (by (repeat with_reducible (first | exact Ext.refl _ | exact ext_alloc _ _ | refine Ext.drewN ?_ _ | refine Ext.drew1 ?_ | refine Ext.set ?_ (by dsimp only; omega) _ | refine Ext.alloc ?_ _)))) (HoldsA.ext HH.out (by (repeat with_reducible (first | exact Ext.refl _ | exact ext_alloc _ _ | refine Ext.drewN ?_ _ | refine Ext.drew1 ?_ | refine Ext.set ?_ (by dsimp only; omega) _ | refine Ext.alloc ?_ _)))) HN.out HR.out).mono ?_; rintro e w1 ⟨v, rfl, hv, E1⟩))
  go_returns
  exact ⟨_, rfl, hv, Ext.trans (by (repeat with_reducible (first | exact Ext.refl _ | exact ext_alloc _ _ | refine Ext.drewN ?_ _ | refine Ext.drew1 ?_ | refine Ext.set ?_ (by dsimp only; omega) _ | refine Ext.alloc ?_ _))) E1⟩



open Ieee
set_option maxHeartbeats 4000000 in
set_option maxRecDepth 100000 in
theorem pitch_any (b f ri : Nat) (a : Option Addr) (n c t l : Nat) (ys : List Nat) (R : Option Nat) (O : Bool) (w : World) (h : HoldsA w a n ys) (hn : n ≤ 1048576) (hR : pitchR (cls .f32 b) (cls .f32 f) (cls .f32 ri) ys n (cls .f32 t) (cls .f32 l) = (R, O)) :
    Calls Try.prog 55 #[.agg #[.float .f32 b, .float .f32 f, .float .f32 ri, .slice a n c], .float .f32 t, .float .f32 l] w fun e w' => ∃ v, e = .returned (.tuple #[.float .f32 v, .bool O]) ∧ Is .f32 v R ∧ Ext w w' := by
  have HH := hid h
  have HN := hid hn
  clear h hn
  cases hV : tuneV (cls .f32 b) (cls .f32 f) (cls .f32 ri) ys n
  · have e : R = some 0 ∧ O = false := by
      unfold pitchR at hR
      rw [hV] at hR
      cases hR; exact ⟨rfl, rfl⟩
    obtain ⟨rfl, rfl⟩ := e
    have HV := hid hV
    clear hR hV
    go_enter Try.func55, Try.ntmps55
    go_wp2_with (first | (go_at_call 48; with_reducible refine (validTune_is b f ri a n c ys false _ (HoldsA.ext HH.out (by (repeat with_reducible (first | exact Ext.refl _ | exact ext_alloc _ _ | refine Ext.drewN ?_ _ | refine Ext.drew1 ?_ | refine Ext.set ?_ (by dsimp only; omega) _ | refine Ext.alloc ?_ _)))) HN.out HV.out).mono ?_; rintro e w1 ⟨rfl, E1⟩; have BX := hid (Box.ext (box_new (w := w) #[.float .f32 b, .float .f32 f, .float .f32 ri, .slice a n c] 72) E1); have EX1 := hid (Ext.trans (ext_alloc w (.cells #[.float .f32 b, .float .f32 f, .float .f32 ri, .slice a n c] 72)) E1); clear E1; obtain ⟨d0, d1, d2, d3, dl⟩ := Box.cells4 BX.out))
    go_returns
    refine ⟨_, rfl, is_const (by decide), ?_⟩
    exact Ext.trans EX1.out (by (repeat with_reducible (first | exact Ext.refl _ | exact ext_alloc _ _ | refine Ext.drewN ?_ _ | refine Ext.drew1 ?_ | refine Ext.set ?_ (by dsimp only; omega) _ | refine Ext.alloc ?_ _)))
  cases hT : leastC (cls .f32 t)
  · have e : R = some 0 ∧ O = false := by
      unfold pitchR at hR
      rw [hV, hT] at hR
      cases hR; exact ⟨rfl, rfl⟩
    obtain ⟨rfl, rfl⟩ := e
    have HV := hid hV
    clear hR hV
    go_enter Try.func55, Try.ntmps55
    go_wp2_with (first | (go_at_call 48; with_reducible refine (validTune_is b f ri a n c ys true _ (HoldsA.ext HH.out (by (repeat with_reducible (first | exact Ext.refl _ | exact ext_alloc _ _ | refine Ext.drewN ?_ _ | refine Ext.drew1 ?_ | refine Ext.set ?_ (by dsimp only; omega) _ | refine Ext.alloc ?_ _)))) HN.out HV.out).mono ?_; rintro e w1 ⟨rfl, E1⟩; have BX := hid (Box.ext (box_new (w := w) #[.float .f32 b, .float .f32 f, .float .f32 ri, .slice a n c] 72) E1); have EX1 := hid (Ext.trans (ext_alloc w (.cells #[.float .f32 b, .float .f32 f, .float .f32 ri, .slice a n c] 72)) E1); clear E1; obtain ⟨d0, d1, d2, d3, dl⟩ := Box.cells4 BX.out) | (go_at_call 76; with_reducible refine (isLeast_any t _).mono ?_; rintro e w' ⟨rfl, m2, rfl⟩; rw [hT]))
    go_returns
    refine ⟨_, rfl, is_const (by decide), ?_⟩
    exact Ext.trans EX1.out (by (repeat with_reducible (first | exact Ext.refl _ | exact ext_alloc _ _ | refine Ext.drewN ?_ _ | refine Ext.drew1 ?_ | refine Ext.set ?_ (by dsimp only; omega) _ | refine Ext.alloc ?_ _)))
  cases hL : areaC (cls .f32 l)
  · have e : R = some 0 ∧ O = false := by
      unfold pitchR at hR
      rw [hV, hT, hL] at hR
      cases hR; exact ⟨rfl, rfl⟩
    obtain ⟨rfl, rfl⟩ := e
    have HV := hid hV
    clear hR hV
    go_enter Try.func55, Try.ntmps55
    go_wp2_with (first | (go_at_call 48; with_reducible refine (validTune_is b f ri a n c ys true _ (HoldsA.ext HH.out (by (repeat with_reducible (first | exact Ext.refl _ | exact ext_alloc _ _ | refine Ext.drewN ?_ _ | refine Ext.drew1 ?_ | refine Ext.set ?_ (by dsimp only; omega) _ | refine Ext.alloc ?_ _)))) HN.out HV.out).mono ?_; rintro e w1 ⟨rfl, E1⟩; have BX := hid (Box.ext (box_new (w := w) #[.float .f32 b, .float .f32 f, .float .f32 ri, .slice a n c] 72) E1); have EX1 := hid (Ext.trans (ext_alloc w (.cells #[.float .f32 b, .float .f32 f, .float .f32 ri, .slice a n c] 72)) E1); clear E1; obtain ⟨d0, d1, d2, d3, dl⟩ := Box.cells4 BX.out) | (go_at_call 76; with_reducible refine (isLeast_any t _).mono ?_; rintro e w' ⟨rfl, m2, rfl⟩; rw [hT]) | (go_at_call 75; with_reducible refine (isExtent_any l _).mono ?_; rintro e w' ⟨rfl, m3, rfl⟩; rw [hL]))
    go_returns
    refine ⟨_, rfl, is_const (by decide), ?_⟩
    exact Ext.trans EX1.out (by (repeat with_reducible (first | exact Ext.refl _ | exact ext_alloc _ _ | refine Ext.drewN ?_ _ | refine Ext.drew1 ?_ | refine Ext.set ?_ (by dsimp only; omega) _ | refine Ext.alloc ?_ _)))
  have HRO0 := hid (show R = finR (pitchG (pitchS (cls .f32 b) (cls .f32 f) (cls .f32 ri) ys n (cls .f32 t) (cls .f32 l))) ∧ O = fin32 (pitchG (pitchS (cls .f32 b) (cls .f32 f) (cls .f32 ri) ys n (cls .f32 t) (cls .f32 l))) from by
    unfold pitchR at hR
    rw [hV, hT, hL] at hR
    simp only [Bool.and_self, if_true, Prod.mk.injEq] at hR
    exact ⟨hR.1.symm, hR.2.symm⟩)
  have HLE0 := hid (pitchS_num hV hT hL).2
  have HAC := hid (tune_parts hV).2.2.2.2
  have HTF := hid (show fin32 (cls .f32 t) = true from by unfold leastC at hT; simp at hT; exact hT.2)
  have HMIN := hid (fun (q : Nat) (hq : Is .f32 q (fop .quo .f32 (cls .f32 t) (cls .f32 l))) (hqw : Hid (q < 2 ^ FloatKind.f32.format.width)) => show (FloatKind.f32.format.order q 1065353216).isSome = true ∧ Is .f32 (minV q 1065353216) (pitchX (cls .f32 t) (cls .f32 l)) from by
    obtain ⟨q0, h1, h2, _⟩ := quo_word hT hL
    have h3 := hq.out
    rw [h1] at h3
    have h4 : q0 = q := cls_word h3
    subst h4
    obtain ⟨h5, h6⟩ := min_one h2 (by have h9 := hqw.out; rw [show FloatKind.f32.format.width = 32 from by decide] at h9; omega)
    refine ⟨h5, ?_⟩
    rw [h6]
    unfold pitchX
    rw [h1, h3]
    cases fcmp .gtr (ford .f32 (some q0) (some 1065353216))
    · exact h3
    · exact (show Is .f32 1065353216 (some 1065353216) from is_const (by decide)))
  have HV := hid hV
  clear hR hV
  go_enter Try.func55, Try.ntmps55
  go_wp2_with (first | (go_at_call 48; with_reducible refine (validTune_is b f ri a n c ys true _ (HoldsA.ext HH.out (by (repeat with_reducible (first | exact Ext.refl _ | exact ext_alloc _ _ | refine Ext.drewN ?_ _ | refine Ext.drew1 ?_ | refine Ext.set ?_ (by dsimp only; omega) _ | refine Ext.alloc ?_ _)))) HN.out HV.out).mono ?_; rintro e w1 ⟨rfl, E1⟩; have BX := hid (Box.ext (box_new (w := w) #[.float .f32 b, .float .f32 f, .float .f32 ri, .slice a n c] 72) E1); have EX1 := hid (Ext.trans (ext_alloc w (.cells #[.float .f32 b, .float .f32 f, .float .f32 ri, .slice a n c] 72)) E1); clear E1; obtain ⟨d0, d1, d2, d3, dl⟩ := Box.cells4 BX.out) | (go_at_call 76; with_reducible refine (isLeast_any t _).mono ?_; rintro e w' ⟨rfl, m2, rfl⟩; rw [hT]) | (go_at_call 75; with_reducible refine (isExtent_any l _).mono ?_; rintro e w' ⟨rfl, m3, rfl⟩; rw [hL]) | (refine wpList_fminV rfl rfl rfl rfl (HMIN.out _ hq hqw).1 ?_; have hx := (HMIN.out _ hq hqw).2; clear hq hqw; generalize minV _ 1065353216 = xw at hx ⊢) | (refine wpList_fa rfl rfl rfl rfl rfl (by first | assumption | exact is_const (by decide) | exact is_self _ _) (by first | assumption | exact is_const (by decide) | exact is_self _ _) ?_; intro q nq hq hqw))
  have HA := hid (show Is .f32 q (pitch0 (cls .f32 b) (cls .f32 f) (pitchX (cls .f32 t) (cls .f32 l))) from by unfold pitch0; assumption)
  generalize q = p0 at HA ⊢
  clear hq hqw
  go_loopw [9, 40] (fun v i wr => ∃ (k p : Nat), k ≤ n ∧ i = .int .i64 k ∧ v = .float .f32 p ∧ Hid (Is .f32 p (pitchK (pitch0 (cls .f32 b) (cls .f32 f) (pitchX (cls .f32 t) (cls .f32 l))) (cls .f32 t) ys k)) ∧ Hid (Ext w1 wr)) (fun _ i _ => n - (intOf i).toNat)
  case atStart => exact ⟨0, p0, Nat.zero_le _, rfl, rfl, HA, hid (by (repeat with_reducible (first | exact Ext.refl _ | exact ext_alloc _ _ | refine Ext.drewN ?_ _ | refine Ext.drew1 ?_ | refine Ext.set ?_ (by dsimp only; omega) _ | refine Ext.alloc ?_ _)))⟩
  case round =>
    obtain ⟨k, p, hk, rfl, rfl, ha, he⟩ := hrel
    have hn2 : n ≤ 1048576 := HN.out
    clear d0 d1 d2 d3 dl
    obtain ⟨d0, d1, d2, d3, dl⟩ := Box.cells4 (Box.ext BX.out he.out)
    by_cases hlt : k < n
    · obtain ⟨_, h0 | ⟨g, off, rfl, hbl, hcell⟩⟩ := HoldsA.ext HH.out (Ext.trans EX1.out he.out)
      · omega
      obtain ⟨e0, e1, e2⟩ := hcell k hlt
      have HSU := hid (pitchK_succ (pitch0 (cls .f32 b) (cls .f32 f) (pitchX (cls .f32 t) (cls .f32 l))) (cls .f32 t) ys k)
      have hac1 : accC (cls .f32 (ys.getD (k * 3) 0)) (cls .f32 (ys.getD (k * 3 + 1) 0)) (cls .f32 (ys.getD (k * 3 + 2) 0)) = true := List.all_eq_true.1 (show (List.range n).all (fun k => accC (cls .f32 (ys.getD (k * 3) 0)) (cls .f32 (ys.getD (k * 3 + 1) 0)) (cls .f32 (ys.getD (k * 3 + 2) 0))) = true from HAC.out) k (List.mem_range.2 hlt)
      clear hcell
      generalize ys.getD (k * 3) 0 = x at e0 HSU hac1
      generalize ys.getD (k * 3 + 1) 0 = y at e1 HSU hac1
      generalize ys.getD (k * 3 + 2) 0 = z at e2 HSU hac1
      generalize pitchK (pitch0 (cls .f32 b) (cls .f32 f) (pitchX (cls .f32 t) (cls .f32 l))) (cls .f32 t) ys k = K at ha HSU
      have hac : Is .f32 p K := ha.out
      have HC := hid hac1
      clear hac1
      have hi0 : (0 : Int) ≤ (k : Int) := by omega
      have hi1 : (k : Int) < (n : Int) := by omega
      go_wp2_with (first | (go_at_call 69; with_reducible refine (bumpOf_any x y z t _ HC.out HTF.out).mono ?_; rintro e w' ⟨q, rfl, hq, m, rfl⟩) | (refine wpList_fa rfl rfl rfl rfl rfl (by first | assumption | exact is_const (by decide) | exact is_self _ _) (by first | assumption | exact is_const (by decide) | exact is_self _ _) ?_; intro q nq hq hqw))
      go_roundw
      case rel => exact ⟨k + 1, _, by omega, by go_num, rfl, hid (by rw [HSU.out]; assumption), hid (Ext.trans he.out (by (repeat with_reducible (first | exact Ext.refl _ | exact ext_alloc _ _ | refine Ext.drewN ?_ _ | refine Ext.drew1 ?_ | refine Ext.set ?_ (by dsimp only; omega) _ | refine Ext.alloc ?_ _))))⟩
      case measure => simp [intOf]; omega
    · have hkn : k = n := by omega
      subst hkn
      obtain ⟨SS, hSS⟩ : ∃ SS, SS = riseC (cls .f32 ri) (pitchX (cls .f32 t) (cls .f32 l)) (pitchK (pitch0 (cls .f32 b) (cls .f32 f) (pitchX (cls .f32 t) (cls .f32 l))) (cls .f32 t) ys k) := ⟨_, rfl⟩
      have HRO := hid (show R = finR (pitchG SS) ∧ O = fin32 (pitchG SS) from by rw [hSS]; exact HRO0.out)
      have HLE := hid (show fcmp .leq (ford .f32 SS (some 0)) = !fcmp .gtr (ford .f32 SS (some 0)) from by rw [hSS]; exact HLE0.out)
      have HSS := hid hSS
      clear hSS HRO0 HLE0 HMIN
      generalize pitchK (pitch0 (cls .f32 b) (cls .f32 f) (pitchX (cls .f32 t) (cls .f32 l))) (cls .f32 t) ys k = K at ha HSS
      have hac : Is .f32 p K := ha.out
      generalize (pitchX (cls .f32 t) (cls .f32 l)) = X0 at hx HSS
      cases h34 : fcmp .gtr (ford .f32 X0 (some 1061158912))
      · have eS : SS = K := by rw [HSS.out]; unfold riseC; rw [h34]; rfl
        cases hg : fcmp .gtr (ford .f32 K (some 0))
        · have hle : fcmp .leq (ford .f32 K (some 0)) = true := by have h9 := HLE.out; rw [eS, hg] at h9; exact h9
          have hR2 : pitchG SS = some 0 := by rw [eS]; unfold pitchG; rw [hg]; rfl
          clear eS HLE HSS
          have HR2 := hid (show O = fin32 (some 0) ∧ R = finR (some 0) from by have h9 := HRO.out; rw [hR2] at h9; exact ⟨h9.2, h9.1⟩)
          clear hR2 HRO
          go_wp2_with (first | (refine wpList_fcmp rfl rfl rfl rfl rfl (by first | assumption | exact is_const (by decide) | exact is_self _ _) (by first | assumption | exact is_const (by decide) | exact is_self _ _) ?_; rw [h34]) | (refine wpList_fa rfl rfl rfl rfl rfl (by first | assumption | exact is_const (by decide) | exact is_self _ _) (by first | assumption | exact is_const (by decide) | exact is_self _ _) ?_; intro q nq hq hqw) | (refine wpList_fcmp rfl rfl rfl rfl rfl (by first | assumption | exact is_const (by decide) | exact is_self _ _) (by first | assumption | exact is_const (by decide) | exact is_self _ _) ?_; rw [hle]))
          go_returns
          rw [HR2.out.1, HR2.out.2]
          refine ⟨_, rfl, is_const (by decide), ?_⟩
          exact Ext.trans EX1.out (Ext.trans he.out (by (repeat with_reducible (first | exact Ext.refl _ | exact ext_alloc _ _ | refine Ext.drewN ?_ _ | refine Ext.drew1 ?_ | refine Ext.set ?_ (by dsimp only; omega) _ | refine Ext.alloc ?_ _))))
        · have hle : fcmp .leq (ford .f32 K (some 0)) = false := by have h9 := HLE.out; rw [eS, hg] at h9; exact h9
          have hR2 : pitchG SS = K := by rw [eS]; unfold pitchG; rw [hg]; rfl
          clear eS HLE HSS
          have HR2 := hid (show O = fin32 K ∧ R = finR K from by have h9 := HRO.out; rw [hR2] at h9; exact ⟨h9.2, h9.1⟩)
          clear hR2 HRO
          go_wp2_with (first | (refine wpList_fcmp rfl rfl rfl rfl rfl (by first | assumption | exact is_const (by decide) | exact is_self _ _) (by first | assumption | exact is_const (by decide) | exact is_self _ _) ?_; rw [h34]) | (refine wpList_fa rfl rfl rfl rfl rfl (by first | assumption | exact is_const (by decide) | exact is_self _ _) (by first | assumption | exact is_const (by decide) | exact is_self _ _) ?_; intro q nq hq hqw) | (refine wpList_fcmp rfl rfl rfl rfl rfl (by first | assumption | exact is_const (by decide) | exact is_self _ _) (by first | assumption | exact is_const (by decide) | exact is_self _ _) ?_; rw [hle]) | (go_at_call 105; refine (finiteOnly_any _ K (by assumption) _).mono ?_; rintro e w' ⟨v, rfl, hv, m, rfl⟩))
          go_returns
          rw [HR2.out.1, HR2.out.2]
          refine ⟨_, rfl, hv, ?_⟩
          exact Ext.trans EX1.out (Ext.trans he.out (by (repeat with_reducible (first | exact Ext.refl _ | exact ext_alloc _ _ | refine Ext.drewN ?_ _ | refine Ext.drew1 ?_ | refine Ext.set ?_ (by dsimp only; omega) _ | refine Ext.alloc ?_ _))))
      · have eS : SS = (fop .add .f32 K (fop .mul .f32 (fop .mul .f32 (cls .f32 ri) (fop .sub .f32 X0 (some 1061158912))) (some 1082130432))) := by rw [HSS.out]; unfold riseC; rw [h34]; rfl
        cases hg : fcmp .gtr (ford .f32 (fop .add .f32 K (fop .mul .f32 (fop .mul .f32 (cls .f32 ri) (fop .sub .f32 X0 (some 1061158912))) (some 1082130432))) (some 0))
        · have hle : fcmp .leq (ford .f32 (fop .add .f32 K (fop .mul .f32 (fop .mul .f32 (cls .f32 ri) (fop .sub .f32 X0 (some 1061158912))) (some 1082130432))) (some 0)) = true := by have h9 := HLE.out; rw [eS, hg] at h9; exact h9
          have hR2 : pitchG SS = some 0 := by rw [eS]; unfold pitchG; rw [hg]; rfl
          clear eS HLE HSS
          have HR2 := hid (show O = fin32 (some 0) ∧ R = finR (some 0) from by have h9 := HRO.out; rw [hR2] at h9; exact ⟨h9.2, h9.1⟩)
          clear hR2 HRO
          go_wp2_with (first | (refine wpList_fcmp rfl rfl rfl rfl rfl (by first | assumption | exact is_const (by decide) | exact is_self _ _) (by first | assumption | exact is_const (by decide) | exact is_self _ _) ?_; rw [h34]) | (refine wpList_fa rfl rfl rfl rfl rfl (by first | assumption | exact is_const (by decide) | exact is_self _ _) (by first | assumption | exact is_const (by decide) | exact is_self _ _) ?_; intro q nq hq hqw) | (refine wpList_fcmp rfl rfl rfl rfl rfl (by first | assumption | exact is_const (by decide) | exact is_self _ _) (by first | assumption | exact is_const (by decide) | exact is_self _ _) ?_; rw [hle]))
          go_returns
          rw [HR2.out.1, HR2.out.2]
          refine ⟨_, rfl, is_const (by decide), ?_⟩
          exact Ext.trans EX1.out (Ext.trans he.out (by (repeat with_reducible (first | exact Ext.refl _ | exact ext_alloc _ _ | refine Ext.drewN ?_ _ | refine Ext.drew1 ?_ | refine Ext.set ?_ (by dsimp only; omega) _ | refine Ext.alloc ?_ _))))
        · have hle : fcmp .leq (ford .f32 (fop .add .f32 K (fop .mul .f32 (fop .mul .f32 (cls .f32 ri) (fop .sub .f32 X0 (some 1061158912))) (some 1082130432))) (some 0)) = false := by have h9 := HLE.out; rw [eS, hg] at h9; exact h9
          have hR2 : pitchG SS = (fop .add .f32 K (fop .mul .f32 (fop .mul .f32 (cls .f32 ri) (fop .sub .f32 X0 (some 1061158912))) (some 1082130432))) := by rw [eS]; unfold pitchG; rw [hg]; rfl
          clear eS HLE HSS
          have HR2 := hid (show O = fin32 (fop .add .f32 K (fop .mul .f32 (fop .mul .f32 (cls .f32 ri) (fop .sub .f32 X0 (some 1061158912))) (some 1082130432))) ∧ R = finR (fop .add .f32 K (fop .mul .f32 (fop .mul .f32 (cls .f32 ri) (fop .sub .f32 X0 (some 1061158912))) (some 1082130432))) from by have h9 := HRO.out; rw [hR2] at h9; exact ⟨h9.2, h9.1⟩)
          clear hR2 HRO
          go_wp2_with (first | (refine wpList_fcmp rfl rfl rfl rfl rfl (by first | assumption | exact is_const (by decide) | exact is_self _ _) (by first | assumption | exact is_const (by decide) | exact is_self _ _) ?_; rw [h34]) | (refine wpList_fa rfl rfl rfl rfl rfl (by first | assumption | exact is_const (by decide) | exact is_self _ _) (by first | assumption | exact is_const (by decide) | exact is_self _ _) ?_; intro q nq hq hqw) | (refine wpList_fcmp rfl rfl rfl rfl rfl (by first | assumption | exact is_const (by decide) | exact is_self _ _) (by first | assumption | exact is_const (by decide) | exact is_self _ _) ?_; rw [hle]) | (go_at_call 105; refine (finiteOnly_any _ (fop .add .f32 K (fop .mul .f32 (fop .mul .f32 (cls .f32 ri) (fop .sub .f32 X0 (some 1061158912))) (some 1082130432))) (by assumption) _).mono ?_; rintro e w' ⟨v, rfl, hv, m, rfl⟩))
          go_returns
          rw [HR2.out.1, HR2.out.2]
          refine ⟨_, rfl, hv, ?_⟩
          exact Ext.trans EX1.out (Ext.trans he.out (by (repeat with_reducible (first | exact Ext.refl _ | exact ext_alloc _ _ | refine Ext.drewN ?_ _ | refine Ext.drew1 ?_ | refine Ext.set ?_ (by dsimp only; omega) _ | refine Ext.alloc ?_ _))))



open Ieee

/-- the times of pitches, and all pitches -/
def timeK (L : Option Nat) (N k : Nat) : Option Nat := fop .mul .f32 (some (floatOfInt .f32 (k : Int))) (fop .quo .f32 L (some (floatOfInt .f32 ((N : Int) - 1))))
def pitchesL (b f r : Option Nat) (ys : List Nat) (n : Nat) (L : Option Nat) (N : Nat) : List (Option Nat) × Bool :=
  if (List.range N).all (fun k => (pitchR b f r ys n (timeK L N k) L).2) then ((List.range N).map (fun k => (pitchR b f r ys n (timeK L N k) L).1), true) else ([], false)
def pitchesR (b f r : Option Nat) (ys : List Nat) (n : Nat) (L : Option Nat) (cnt : Int) : List (Option Nat) × Bool := if 2 ≤ cnt ∧ cnt ≤ 64 then pitchesL b f r ys n L cnt.toNat else ([], false)
theorem pitches_len (b f r : Option Nat) (ys : List Nat) (n : Nat) (L : Option Nat) (cnt : Int) : (pitchesR b f r ys n L cnt).1.length ≤ 64 := by
  unfold pitchesR pitchesL
  split
  · split
    · simp; omega
    · exact Nat.zero_le _
  · exact Nat.zero_le _
theorem pitches_bad {b f r : Option Nat} {ys : List Nat} {n : Nat} {L : Option Nat} {N k : Nat} (hk : k < N) (h : (pitchR b f r ys n (timeK L N k) L).2 = false) : pitchesL b f r ys n L N = ([], false) := by
  unfold pitchesL
  rw [if_neg]
  intro h2
  have h3 := List.all_eq_true.1 h2 k (List.mem_range.2 hk)
  rw [h] at h3
  cases h3
theorem pitches_good {b f r : Option Nat} {ys : List Nat} {n : Nat} {L : Option Nat} {N : Nat} (h : ∀ k, k < N → (pitchR b f r ys n (timeK L N k) L).2 = true) : pitchesL b f r ys n L N = ((List.range N).map (fun k => (pitchR b f r ys n (timeK L N k) L).1), true) := by
  unfold pitchesL
  rw [if_pos (List.all_eq_true.2 fun k hk => h k (List.mem_range.1 hk))]
theorem range_snoc (F : Nat → Option Nat) (k : Nat) : (List.range (k + 1)).map F = (List.range k).map F ++ [F k] := by simp [List.range_succ]
/-- a time that is finite is at least nothing -/
theorem time_least {l N k : Nat} (hl : areaC (cls .f32 l) = true) (hN : 2 ≤ N) (hN2 : N ≤ 64) (hk : k < N) (h : fin32 (timeK (cls .f32 l) N k) = true) : leastC (timeK (cls .f32 l) N k) = true := by
  have hl' : fcmp .gtr (ford .f32 (cls .f32 l) (some 0)) = true ∧ fin32 (cls .f32 l) = true := by unfold areaC at hl; simpa using hl
  obtain ⟨ml, il, cl, rl, _⟩ := area_num l hl'.1 hl'.2
  obtain ⟨mk, ik, rk, _⟩ := int_read (a := k) (by omega)
  obtain ⟨mc, ic, rc, _, _, _, gc⟩ := int_read (a := N - 1) (by omega)
  have hc0 : mc ≠ 0 := by
    rintro rfl
    rw [Nat.zero_mul] at gc
    have h1 := Nat.two_pow_pos 149
    have h2 : 0 < (N - 1) * 2 ^ 149 := Nat.mul_pos (by omega) h1
    omega
  have eN : ((N : Int) - 1) = ((N - 1 : Nat) : Int) := by omega
  have e25 : FloatKind.f32.format.fractionBits + 2 = 25 := by decide
  unfold leastC
  rw [h, Bool.and_true]
  unfold timeK at h ⊢
  rw [eN, cl] at h ⊢
  obtain ⟨M, p, hq⟩ : ∃ M p, floatBits .quo .f32 l (floatOfInt .f32 ((N - 1 : Nat) : Int)) = some (FloatKind.f32.format.nearest (false ^^ false) M p) :=
    ⟨_, _, by simp only [floatBits, Format.div, rl, rc, e25, Datum.quotient]; rw [if_neg hc0]; rfl⟩
  have nq := floatBits_num hq
  have sq := near_neg (false ^^ false) M p
  have f1 : fop .quo .f32 (some l) (some (floatOfInt .f32 ((N - 1 : Nat) : Int))) = some (FloatKind.f32.format.nearest (false ^^ false) M p) := hq
  rw [f1] at h ⊢
  generalize FloatKind.f32.format.nearest (false ^^ false) M p = q at nq sq h ⊢
  have hz : FloatKind.f32.format.read 0 = .number false 0 (-149) := by decide
  rcases read32 q nq with ⟨s, hr⟩ | ⟨s, m, i, hr, _, hi, _⟩
  · exfalso
    rw [hr] at sq
    have hs : s = false := sq
    subst hs
    by_cases h0 : mk = 0
    · have : fop .mul .f32 (some (floatOfInt .f32 (k : Int))) (some q) = none := by
        show floatBits .mul .f32 _ q = none
        simp only [floatBits, Format.mul, rk, hr, Datum.product]
        rw [if_pos h0]; rfl
      rw [this] at h; cases h
    · have : fop .mul .f32 (some (floatOfInt .f32 (k : Int))) (some q) = some (FloatKind.f32.format.write (.infinity false)) := by
        show floatBits .mul .f32 _ q = _
        simp only [floatBits, Format.mul, rk, hr, Datum.product]
        rw [if_neg h0]; rfl
      rw [this] at h
      revert h
      decide
  · rw [hr] at sq
    have hs : s = false := sq
    subst hs
    have hv : floatBits .mul .f32 (floatOfInt .f32 (k : Int)) q = some (FloatKind.f32.format.nearest (false ^^ false) (mk * m) (ik + i)) := by
      simp only [floatBits, Format.mul, rk, hr, Datum.product]; rfl
    have nv := floatBits_num hv
    have sv := near_neg (false ^^ false) (mk * m) (ik + i)
    have f2 : fop .mul .f32 (some (floatOfInt .f32 (k : Int))) (some q) = some (FloatKind.f32.format.nearest (false ^^ false) (mk * m) (ik + i)) := hv
    rw [f2] at h ⊢
    generalize FloatKind.f32.format.nearest (false ^^ false) (mk * m) (ik + i) = v at nv sv h ⊢
    show fcmp .geq (FloatKind.f32.format.order v 0) = true
    rcases read32 v nv with ⟨s, hr2⟩ | ⟨s, m2, i2, hr2, _, hi2, _⟩
    · rw [hr2] at sv
      have hs : s = false := sv
      subst hs
      unfold Format.order
      rw [hr2, hz]; rfl
    · rw [hr2] at sv
      have hs : s = false := sv
      subst hs
      have ho : FloatKind.f32.format.order v 0 = some (compare (signed false m2 (i2 - -149).toNat) (signed false 0 (-149 - -149 : Int).toNat)) := by
        unfold Format.order; rw [hr2, hz]; exact order_num false false m2 0 i2 (-149) (-149) hi2 (by omega)
      have e0 : signed false 0 (-149 - -149 : Int).toNat = 0 := by decide
      rw [ho, e0, signedV]
      simp only [Bool.false_eq_true, if_false]
      generalize m2 * 2 ^ (i2 - -149).toNat = X
      rcases Nat.eq_zero_or_pos X with rfl | hp
      · decide
      · rw [compare_gt (show (0 : Int) < (X : Int) by omega)]; rfl



open Ieee
set_option maxHeartbeats 4000000 in
set_option maxRecDepth 100000 in
theorem pitches_any (b f ri : Nat) (a : Option Addr) (n c l : Nat) (cnt : Int) (ys : List Nat) (R : List (Option Nat)) (O : Bool) (w : World) (h : HoldsA w a n ys) (hn : n ≤ 1048576) (hR : pitchesR (cls .f32 b) (cls .f32 f) (cls .f32 ri) ys n (cls .f32 l) cnt = (R, O)) :
    Calls Try.prog 57 #[.agg #[.float .f32 b, .float .f32 f, .float .f32 ri, .slice a n c], .float .f32 l, .int .i64 cnt] w fun e w' => ∃ v, e = .returned (.tuple #[v, .bool O]) ∧ ListIs w' w.heap.size R v ∧ Ext w w' := by
  have HH := hid h
  have HN := hid hn
  clear h hn
  by_cases h2 : cnt < 2
  · have e : R = [] ∧ O = false := by unfold pitchesR at hR; rw [if_neg (by omega)] at hR; cases hR; exact ⟨rfl, rfl⟩
    obtain ⟨rfl, rfl⟩ := e
    clear hR
    go_enter Try.func57, Try.ntmps57
    go_wp2_with fail
    go_returns
    refine ⟨_, rfl, nil_is _ _, ?_⟩
    (repeat with_reducible (first | exact Ext.refl _ | exact ext_alloc _ _ | refine Ext.drewN ?_ _ | refine Ext.drew1 ?_ | refine Ext.set ?_ (by dsimp only; omega) _ | refine Ext.alloc ?_ _))
  by_cases h64 : 64 < cnt
  · have e : R = [] ∧ O = false := by unfold pitchesR at hR; rw [if_neg (by omega)] at hR; cases hR; exact ⟨rfl, rfl⟩
    obtain ⟨rfl, rfl⟩ := e
    clear hR
    go_enter Try.func57, Try.ntmps57
    go_wp2_with fail
    go_returns
    refine ⟨_, rfl, nil_is _ _, ?_⟩
    (repeat with_reducible (first | exact Ext.refl _ | exact ext_alloc _ _ | refine Ext.drewN ?_ _ | refine Ext.drew1 ?_ | refine Ext.set ?_ (by dsimp only; omega) _ | refine Ext.alloc ?_ _))
  obtain ⟨N, rfl⟩ : ∃ N : Nat, cnt = (N : Int) := ⟨cnt.toNat, by omega⟩
  have hN2 : 2 ≤ N := by omega
  have hN64 : N ≤ 64 := by omega
  have HRR := hid (show pitchesL (cls .f32 b) (cls .f32 f) (cls .f32 ri) ys n (cls .f32 l) N = (R, O) from by rw [← hR]; unfold pitchesR; rw [if_pos (by omega)]; rfl)
  obtain ⟨i0, hi, hz0, hz1, hz2⟩ := info_parts infoF
  have HI := hid (And.intro hi (And.intro hz0 (And.intro hz1 hz2)))
  have hmk : ∀ wm : World, (Instr.makeSlice 34 (.int .i64 (0 : Int)) (.int .i64 (N : Int))).run Try.prog wm = .ok (.slice (some ⟨wm.heap.size, 0, none⟩) 0 N) (wm.alloc (.cells (madeCells #[.float .f32 0] N) 22)) := by
    intro wm
    have := run_make (P := Try.prog) wm 34 22 i0 (.float .f32 0) Try.underlying34 hi hz0 .i64 .i64 (0 : Int) (N : Int) (by omega) (by omega) (by rw [hz2]; omega) (by omega)
    rw [hz1] at this
    simpa [Value.cells] using this
  have HMK := hid (size_madeCells #[.float .f32 0] N)
  have HO0 : Hid (∀ wm : World, Own (wm.alloc (.cells (madeCells #[.float .f32 0] N) 22)) wm.heap.size 0 (.slice (some ⟨wm.heap.size, 0, none⟩) 0 N) []) :=
    hid (fun wm => World.ownsRow_made (e := 22) (size := 1) (base := wm.heap.size) wm (madeCells #[.float .f32 0] N) N (Nat.le_refl _) (by unfold maxLen; omega) (by rw [HMK.out]; omega))
  clear hR h2 h64 hi hz0 hz1 hz2
  go_enter Try.func57, Try.ntmps57
  go_wp2_with (refine wpList_fa rfl rfl rfl rfl rfl (by first | assumption | exact is_const (by decide) | exact is_int _ | exact is_self _ _) (by first | assumption | exact is_const (by decide) | exact is_int _ | exact is_self _ _) ?_; intro q nq hq hqw)
  go_loopw [9, 27] (fun v i wr => ∃ (k : Nat) (zs : List Nat), k ≤ N ∧ i = .int .i64 k ∧ Hid (Own wr (w.heap.size + 1) k v zs) ∧ Hid (zs.map (cls .f32) = (List.range k).map (fun q => (pitchR (cls .f32 b) (cls .f32 f) (cls .f32 ri) ys n (timeK (cls .f32 l) N q) (cls .f32 l)).1)) ∧ Hid (∀ q', q' < k → (pitchR (cls .f32 b) (cls .f32 f) (cls .f32 ri) ys n (timeK (cls .f32 l) N q') (cls .f32 l)).2 = true) ∧ Hid (Ext (w.alloc (.cells #[.float .f32 b, .float .f32 f, .float .f32 ri, .slice a n c] 72)) wr)) (fun _ i _ => N - (intOf i).toNat)
  case atStart => exact ⟨0, [], Nat.zero_le _, rfl, hid (by have h9 := HO0.out ((w.alloc (.cells #[.float .f32 b, .float .f32 f, .float .f32 ri, .slice a n c] 72)).drewN nq); simpa using h9), hid rfl, hid (fun q' hq' => absurd hq' (Nat.not_lt_zero _)), hid (Ext.alloc (Ext.drewN (Ext.refl _) _) _)⟩
  case round =>
    obtain ⟨k, zs, hk, rfl, ho, hy, hg, he⟩ := hrel
    clear hmk
    obtain ⟨d0, d1, d2, d3, dl⟩ := Box.cells4 (Box.ext (box_new (w := w) #[.float .f32 b, .float .f32 f, .float .f32 ri, .slice a n c] 72) he.out)
    by_cases hlt : k < N
    · obtain ⟨R1, O1, hP⟩ : ∃ R1 O1, (pitchR (cls .f32 b) (cls .f32 f) (cls .f32 ri) ys n (timeK (cls .f32 l) N k) (cls .f32 l)) = (R1, O1) := ⟨_, _, rfl⟩
      have hi0 : (0 : Int) ≤ (k : Int) := by omega
      have hi1 : (k : Int) < (N : Int) := by omega
      cases O1
      · have HBAD := hid (show R = [] ∧ O = false from by have h9 := HRR.out; rw [pitches_bad hlt (by rw [hP])] at h9; cases h9; exact ⟨rfl, rfl⟩)
        have HPT := hid (fun (q' : Nat) (h : Is .f32 q' (timeK (cls .f32 l) N k)) => show pitchR (cls .f32 b) (cls .f32 f) (cls .f32 ri) ys n (cls .f32 q') (cls .f32 l) = (R1, false) from by rw [h.out]; exact hP)
        clear hP HRR
        go_wp2_with (first | (go_at_call 55; refine (pitch_any b f ri a n c _ l ys R1 false _ (HoldsA.ext HH.out (Ext.trans (ext_alloc _ _) (Ext.trans he.out (by (repeat with_reducible (first | exact Ext.refl _ | exact ext_alloc _ _ | refine Ext.drewN ?_ _ | refine Ext.drew1 ?_ | refine Ext.set ?_ (by dsimp only; omega) _ | refine Ext.alloc ?_ _)))))) HN.out (HPT.out _ hq)).mono ?_; rintro e w2 ⟨v2, rfl, hv2, E2⟩) | (refine wpList_fa rfl rfl rfl rfl rfl (by first | assumption | exact is_const (by decide) | exact is_int _ | exact is_self _ _) (by first | assumption | exact is_const (by decide) | exact is_int _ | exact is_self _ _) ?_; intro q nq hq hqw))
        go_returns
        rw [HBAD.out.1, HBAD.out.2]
        exact ⟨_, rfl, nil_is _ _, Ext.trans (ext_alloc _ _) (Ext.trans he.out (Ext.trans (by (repeat with_reducible (first | exact Ext.refl _ | exact ext_alloc _ _ | refine Ext.drewN ?_ _ | refine Ext.drew1 ?_ | refine Ext.set ?_ (by dsimp only; omega) _ | refine Ext.alloc ?_ _))) E2))⟩
      · have HPT := hid (fun (q' : Nat) (h : Is .f32 q' (timeK (cls .f32 l) N k)) => show pitchR (cls .f32 b) (cls .f32 f) (cls .f32 ri) ys n (cls .f32 q') (cls .f32 l) = (R1, true) from by rw [h.out]; exact hP)
        have HG2 := hid (upto_succ (P := fun q' => (pitchR (cls .f32 b) (cls .f32 f) (cls .f32 ri) ys n (timeK (cls .f32 l) N q') (cls .f32 l)).2 = true) hg.out (by rw [hP]))
        have HY2 := hid (show (List.range (k + 1)).map (fun q => (pitchR (cls .f32 b) (cls .f32 f) (cls .f32 ri) ys n (timeK (cls .f32 l) N q) (cls .f32 l)).1) = (List.range k).map (fun q => (pitchR (cls .f32 b) (cls .f32 f) (cls .f32 ri) ys n (timeK (cls .f32 l) N q) (cls .f32 l)).1) ++ [R1] from by rw [range_snoc]; simp only [hP])
        clear hP
        go_wp2_with (first | (go_at_call 55; refine (pitch_any b f ri a n c _ l ys R1 true _ (HoldsA.ext HH.out (Ext.trans (ext_alloc _ _) (Ext.trans he.out (by (repeat with_reducible (first | exact Ext.refl _ | exact ext_alloc _ _ | refine Ext.drewN ?_ _ | refine Ext.drew1 ?_ | refine Ext.set ?_ (by dsimp only; omega) _ | refine Ext.alloc ?_ _)))))) HN.out (HPT.out _ hq)).mono ?_; rintro e w2 ⟨v2, rfl, hv2, E2⟩) | (refine wpList_fa rfl rfl rfl rfl rfl (by first | assumption | exact is_const (by decide) | exact is_int _ | exact is_self _ _) (by first | assumption | exact is_const (by decide) | exact is_int _ | exact is_self _ _) ?_; intro q nq hq hqw) | (at_builtin; refine wpList_append_lies _ rfl _ _ 34 rfl (w.heap.size + 1) 22 i0 (.float .f32 0) 1 4 Try.underlying34 HI.out.1 HI.out.2.1 HI.out.2.2.1 HI.out.2.2.2 rfl (by decide) _ _ _ rfl (Own.alloc (Own.ext ho.out (Ext.trans (by (repeat with_reducible (first | exact Ext.refl _ | exact ext_alloc _ _ | refine Ext.drewN ?_ _ | refine Ext.drew1 ?_ | refine Ext.set ?_ (by dsimp only; omega) _ | refine Ext.alloc ?_ _))) E2)) _) ⟨w2.heap.size, 0, none⟩ 1 1 [.float .f32 v2] rfl rfl (World.news_of_block (heap_alloc_new _ _)) (by intro u hu; simp at hu; subst hu; rfl) (by omega) (by unfold maxLen; omega) (by omega) (by have h8 := Ext.size he.out; have h9 := Ext.size E2; simp at h8 h9 ⊢; omega) _ rfl ?_; intro g cap w3 hown hgrow hat hlt2))
        have g1 := hid (own_snoc10 hown)
        have g2 := hid (show Ext (w.alloc (.cells #[.float .f32 b, .float .f32 f, .float .f32 ri, .slice a n c] 72)) w3 from But.below hgrow (Ext.alloc (Ext.trans he.out (Ext.trans (by (repeat with_reducible (first | exact Ext.refl _ | exact ext_alloc _ _ | refine Ext.drewN ?_ _ | refine Ext.drew1 ?_ | refine Ext.set ?_ (by dsimp only; omega) _ | refine Ext.alloc ?_ _))) E2)) _) (fun k2 hk2 => by have h9 := (Own.block ho.out k2 hk2).1; simpa using h9))
        have g3 := hid (show (zs ++ [v2]).map (cls .f32) = (List.range (k + 1)).map (fun q => (pitchR (cls .f32 b) (cls .f32 f) (cls .f32 ri) ys n (timeK (cls .f32 l) N q) (cls .f32 l)).1) from by rw [List.map_append, hy.out, HY2.out]; exact congrArg (fun z => _ ++ [z]) hv2.out)
        clear hown hgrow hat hlt2 E2
        go_wp2
        go_roundw
        case rel => exact ⟨k + 1, zs ++ [v2], by omega, by go_num, g1, g3, HG2, g2⟩
        case measure => simp [intOf]; omega
    · have hkn : k = N := by omega
      subst hkn
      have HOK := hid (show (List.range k).map (fun q => (pitchR (cls .f32 b) (cls .f32 f) (cls .f32 ri) ys n (timeK (cls .f32 l) k q) (cls .f32 l)).1) = R ∧ O = true from by have h9 := HRR.out; rw [pitches_good hg.out] at h9; cases h9; exact ⟨rfl, rfl⟩)
      go_wp2_with fail
      go_returns
      rw [HOK.out.2]
      exact ⟨_, rfl, list_is (Own.base ho.out (by omega)) (by rw [hy.out]; exact HOK.out.1), Ext.trans (ext_alloc _ _) (Ext.trans he.out (by (repeat with_reducible (first | exact Ext.refl _ | exact ext_alloc _ _ | refine Ext.drewN ?_ _ | refine Ext.drew1 ?_ | refine Ext.set ?_ (by dsimp only; omega) _ | refine Ext.alloc ?_ _))))⟩



open Ieee

theorem pitch_same {b f ri l N k n : Nat} {ys : List Nat} (hV : tuneV (cls .f32 b) (cls .f32 f) (cls .f32 ri) ys n = true) (hL : areaC (cls .f32 l) = true) (hN : 2 ≤ N) (hN2 : N ≤ 64) (hk : k < N) (hf : fin32 (timeK (cls .f32 l) N k) = true) : pitchR (cls .f32 b) (cls .f32 f) (cls .f32 ri) ys n (timeK (cls .f32 l) N k) (cls .f32 l) = (finR (pitchG (riseC (cls .f32 ri) (pitchX (timeK (cls .f32 l) N k) (cls .f32 l)) (pitchK (fop .add .f32 (some 0) (pitch0 (cls .f32 b) (cls .f32 f) (pitchX (timeK (cls .f32 l) N k) (cls .f32 l)))) (timeK (cls .f32 l) N k) ys n))), fin32 (pitchG (riseC (cls .f32 ri) (pitchX (timeK (cls .f32 l) N k) (cls .f32 l)) (pitchK (fop .add .f32 (some 0) (pitch0 (cls .f32 b) (cls .f32 f) (pitchX (timeK (cls .f32 l) N k) (cls .f32 l)))) (timeK (cls .f32 l) N k) ys n)))) := by
  have hT := time_least hL hN hN2 hk hf
  obtain ⟨t, ht⟩ : ∃ t, (timeK (cls .f32 l) N k) = cls .f32 t := by
    cases h : (timeK (cls .f32 l) N k) with
    | none => rw [h] at hf; cases hf
    | some t => exact ⟨t, (cls_num (mul_num t (by unfold timeK at h; exact h))).symm⟩
  rw [ht] at hT ⊢
  rw [(pitchS_num hV hT hL).1]
  unfold pitchR pitchS
  rw [hV, hT, hL]
  rfl
theorem pitch_none {b f r L T : Option Nat} {ys : List Nat} {n : Nat} (h : (tuneV b f r ys n && areaC L) = false) : (pitchR b f r ys n T L).2 = false := by
  unfold pitchR
  rw [if_neg]
  revert h
  cases tuneV b f r ys n <;> cases areaC L <;> simp
theorem pitch_late {b f r L T : Option Nat} {ys : List Nat} {n : Nat} (h : fin32 T = false) : (pitchR b f r ys n T L).2 = false := by
  unfold pitchR
  rw [if_neg]
  unfold leastC
  rw [h]
  simp

set_option maxHeartbeats 4000000 in
set_option maxRecDepth 100000 in
theorem sPitches_any (b f ri : Nat) (a : Option Addr) (n c l : Nat) (cnt : Int) (ys : List Nat) (R : List (Option Nat)) (O : Bool) (w : World) (h : HoldsA w a n ys) (hn : n ≤ 1048576) (hR : pitchesR (cls .f32 b) (cls .f32 f) (cls .f32 ri) ys n (cls .f32 l) cnt = (R, O)) :
    Calls Try.prog 56 #[.agg #[.float .f32 b, .float .f32 f, .float .f32 ri, .slice a n c], .float .f32 l, .int .i64 cnt] w fun e w' => ∃ v, e = .returned (.tuple #[v, .bool O]) ∧ ListIs w' w.heap.size R v ∧ Ext w w' := by
  have HH := hid h
  have HN := hid hn
  clear h hn
  cases hV : (tuneV (cls .f32 b) (cls .f32 f) (cls .f32 ri) ys n && areaC (cls .f32 l))
  · have e : R = [] ∧ O = false := by
      unfold pitchesR at hR
      split at hR
      · rw [pitches_bad (k := 0) (by omega) (pitch_none hV)] at hR; cases hR; exact ⟨rfl, rfl⟩
      · cases hR; exact ⟨rfl, rfl⟩
    obtain ⟨rfl, rfl⟩ := e
    have HV := hid hV
    clear hR hV
    go_enter Try.func56, Try.ntmps56
    go_wp2_with (go_at_call 102; with_reducible refine (l06Timed_drew _ b f ri a n c l ys false _ (Box.ext (box_new (w := w) #[.float .f32 b, .float .f32 f, .float .f32 ri, .slice a n c] 72) (by (repeat with_reducible (first | exact Ext.refl _ | exact ext_alloc _ _ | refine Ext.drewN ?_ _ | refine Ext.drew1 ?_ | refine Ext.set ?_ (by dsimp only; omega) _ | refine Ext.alloc ?_ _)))) (HoldsA.ext HH.out (by (repeat with_reducible (first | exact Ext.refl _ | exact ext_alloc _ _ | refine Ext.drewN ?_ _ | refine Ext.drew1 ?_ | refine Ext.set ?_ (by dsimp only; omega) _ | refine Ext.alloc ?_ _)))) HN.out HV.out).mono ?_; rintro e w' ⟨rfl, m, rfl⟩)
    go_returns
    refine ⟨_, rfl, nil_is _ _, ?_⟩
    (repeat with_reducible (first | exact Ext.refl _ | exact ext_alloc _ _ | refine Ext.drewN ?_ _ | refine Ext.drew1 ?_ | refine Ext.set ?_ (by dsimp only; omega) _ | refine Ext.alloc ?_ _))
  by_cases hc : ¬ (2 ≤ cnt ∧ cnt ≤ 64)
  · have e : R = [] ∧ O = false := by unfold pitchesR at hR; rw [if_neg hc] at hR; cases hR; exact ⟨rfl, rfl⟩
    obtain ⟨rfl, rfl⟩ := e
    have HV := hid hV
    have HC := hid hc
    clear hR hV hc
    go_enter Try.func56, Try.ntmps56
    go_wp2_with (first | (go_at_call 102; with_reducible refine (l06Timed_drew _ b f ri a n c l ys true _ (Box.ext (box_new (w := w) #[.float .f32 b, .float .f32 f, .float .f32 ri, .slice a n c] 72) (by (repeat with_reducible (first | exact Ext.refl _ | exact ext_alloc _ _ | refine Ext.drewN ?_ _ | refine Ext.drew1 ?_ | refine Ext.set ?_ (by dsimp only; omega) _ | refine Ext.alloc ?_ _)))) (HoldsA.ext HH.out (by (repeat with_reducible (first | exact Ext.refl _ | exact ext_alloc _ _ | refine Ext.drewN ?_ _ | refine Ext.drew1 ?_ | refine Ext.set ?_ (by dsimp only; omega) _ | refine Ext.alloc ?_ _)))) HN.out HV.out).mono ?_; rintro e w' ⟨rfl, m, rfl⟩) | (go_at_call 106; refine (l00In_no cnt 2 64 HC.out _).mono ?_; rintro e w' ⟨rfl, rfl⟩))
    go_returns
    refine ⟨_, rfl, nil_is _ _, ?_⟩
    (repeat with_reducible (first | exact Ext.refl _ | exact ext_alloc _ _ | refine Ext.drewN ?_ _ | refine Ext.drew1 ?_ | refine Ext.set ?_ (by dsimp only; omega) _ | refine Ext.alloc ?_ _))
  replace hc := Decidable.not_not.1 hc
  obtain ⟨N, rfl⟩ : ∃ N : Nat, cnt = (N : Int) := ⟨cnt.toNat, by omega⟩
  have hN2 : 2 ≤ N := by omega
  have hN64 : N ≤ 64 := by omega
  have hV2 : tuneV (cls .f32 b) (cls .f32 f) (cls .f32 ri) ys n = true ∧ areaC (cls .f32 l) = true := by simpa using hV
  have HVV := hid hV2
  have HRR := hid (show pitchesL (cls .f32 b) (cls .f32 f) (cls .f32 ri) ys n (cls .f32 l) N = (R, O) from by rw [← hR]; unfold pitchesR; rw [if_pos hc]; rfl)
  have HC := hid hc
  have HV := hid hV
  obtain ⟨i0, hi, hz0, hz1, hz2⟩ := info_parts infoF
  have HI := hid (And.intro hi (And.intro hz0 (And.intro hz1 hz2)))
  clear hR hV hV2 hc hi hz0 hz1 hz2
  go_enter Try.func56, Try.ntmps56
  go_wp2_with (first | (go_at_call 102; with_reducible refine (l06Timed_drew _ b f ri a n c l ys true _ (Box.ext (box_new (w := w) #[.float .f32 b, .float .f32 f, .float .f32 ri, .slice a n c] 72) (by (repeat with_reducible (first | exact Ext.refl _ | exact ext_alloc _ _ | refine Ext.drewN ?_ _ | refine Ext.drew1 ?_ | refine Ext.set ?_ (by dsimp only; omega) _ | refine Ext.alloc ?_ _)))) (HoldsA.ext HH.out (by (repeat with_reducible (first | exact Ext.refl _ | exact ext_alloc _ _ | refine Ext.drewN ?_ _ | refine Ext.drew1 ?_ | refine Ext.set ?_ (by dsimp only; omega) _ | refine Ext.alloc ?_ _)))) HN.out HV.out).mono ?_; rintro e w' ⟨rfl, m, rfl⟩) | (go_at_call 106; refine (l00In_yes (N : Int) 2 64 HC.out.1 HC.out.2 _).mono ?_; rintro e w' ⟨rfl, rfl⟩))
  go_loopw [8, 9] (fun v i wr => ∃ (k : Nat) (zs : List Nat), k ≤ N ∧ i = .int .i64 k ∧ Hid (Own wr (w.heap.size + 1) k v zs) ∧ Hid (zs.map (cls .f32) = (List.range k).map (fun q => (pitchR (cls .f32 b) (cls .f32 f) (cls .f32 ri) ys n (timeK (cls .f32 l) N q) (cls .f32 l)).1)) ∧ Hid (∀ q', q' < k → (pitchR (cls .f32 b) (cls .f32 f) (cls .f32 ri) ys n (timeK (cls .f32 l) N q') (cls .f32 l)).2 = true) ∧ Hid (Ext (w.alloc (.cells #[.float .f32 b, .float .f32 f, .float .f32 ri, .slice a n c] 72)) wr)) (fun _ i _ => N - (intOf i).toNat)
  case atStart => exact ⟨0, [], Nat.zero_le _, rfl, hid (own_fresh (cs := #[]) (zs := []) (hid rfl) rfl (by simp) (by simp) (Nat.zero_le _)), hid rfl, hid (fun q' hq' => absurd hq' (Nat.not_lt_zero _)), hid (by (repeat with_reducible (first | exact Ext.refl _ | exact ext_alloc _ _ | refine Ext.drewN ?_ _ | refine Ext.drew1 ?_ | refine Ext.set ?_ (by dsimp only; omega) _ | refine Ext.alloc ?_ _)))⟩
  case round =>
    obtain ⟨k, zs, hk, rfl, ho, hy, hg, he⟩ := hrel
    obtain ⟨d0, d1, d2, d3, dl⟩ := Box.cells4 (Box.ext (box_new (w := w) #[.float .f32 b, .float .f32 f, .float .f32 ri, .slice a n c] 72) he.out)
    by_cases hlt : k < N
    · obtain ⟨R1, O1, hS⟩ : ∃ R1 O1, (finR (pitchG (riseC (cls .f32 ri) (pitchX (timeK (cls .f32 l) N k) (cls .f32 l)) (pitchK (fop .add .f32 (some 0) (pitch0 (cls .f32 b) (cls .f32 f) (pitchX (timeK (cls .f32 l) N k) (cls .f32 l)))) (timeK (cls .f32 l) N k) ys n))), fin32 (pitchG (riseC (cls .f32 ri) (pitchX (timeK (cls .f32 l) N k) (cls .f32 l)) (pitchK (fop .add .f32 (some 0) (pitch0 (cls .f32 b) (cls .f32 f) (pitchX (timeK (cls .f32 l) N k) (cls .f32 l)))) (timeK (cls .f32 l) N k) ys n)))) = (R1, O1) := ⟨_, _, rfl⟩
      have hi0 : (0 : Int) ≤ (k : Int) := by omega
      have hi1 : (k : Int) < (N : Int) := by omega
      have HPT := hid (fun (q' : Nat) (h : Is .f32 q' (timeK (cls .f32 l) N k)) => show (finR (pitchG (riseC (cls .f32 ri) (pitchX (cls .f32 q') (cls .f32 l)) (pitchK (fop .add .f32 (some 0) (pitch0 (cls .f32 b) (cls .f32 f) (pitchX (cls .f32 q') (cls .f32 l)))) (cls .f32 q') ys n))), fin32 (pitchG (riseC (cls .f32 ri) (pitchX (cls .f32 q') (cls .f32 l)) (pitchK (fop .add .f32 (some 0) (pitch0 (cls .f32 b) (cls .f32 f) (pitchX (cls .f32 q') (cls .f32 l)))) (cls .f32 q') ys n)))) = (R1, O1) from by rw [h.out]; exact hS)
      cases hf : fin32 (timeK (cls .f32 l) N k)
      · have HBAD := hid (show R = [] ∧ O = false from by have h9 := HRR.out; rw [pitches_bad hlt (pitch_late hf)] at h9; cases h9; exact ⟨rfl, rfl⟩)
        have HQF := hid (fun (q' : Nat) (h : Is .f32 q' (timeK (cls .f32 l) N k)) => show fin32 (cls .f32 q') = false from by rw [h.out]; exact hf)
        clear hS HRR hf
        cases O1
        · go_wp2_with (first | (go_at_call 104; refine (l06Pitch_any _ b f ri a n c _ l ys R1 false _ (Box.ext (Box.ext (box_new (w := w) #[.float .f32 b, .float .f32 f, .float .f32 ri, .slice a n c] 72) he.out) (by (repeat with_reducible (first | exact Ext.refl _ | exact ext_alloc _ _ | refine Ext.drewN ?_ _ | refine Ext.drew1 ?_ | refine Ext.set ?_ (by dsimp only; omega) _ | refine Ext.alloc ?_ _)))) (HoldsA.ext HH.out (Ext.trans (ext_alloc _ _) (Ext.trans he.out (by (repeat with_reducible (first | exact Ext.refl _ | exact ext_alloc _ _ | refine Ext.drewN ?_ _ | refine Ext.drew1 ?_ | refine Ext.set ?_ (by dsimp only; omega) _ | refine Ext.alloc ?_ _)))))) HN.out (HPT.out _ hq)).mono ?_; rintro e w2 ⟨v2, rfl, hv2, E2⟩) | (refine wpList_fa rfl rfl rfl rfl rfl (by first | assumption | exact is_const (by decide) | exact is_int _ | exact is_self _ _) (by first | assumption | exact is_const (by decide) | exact is_int _ | exact is_self _ _) ?_; intro q nq hq hqw))
          go_returns
          rw [HBAD.out.1, HBAD.out.2]
          refine ⟨_, rfl, nil_is _ _, ?_⟩
          (repeat with_reducible (first | exact Ext.refl _ | exact ext_alloc _ _ | refine Ext.trans ?_ E2 | refine Ext.trans ?_ he.out | refine Ext.drewN ?_ _ | refine Ext.drew1 ?_ | refine Ext.alloc ?_ _))

        · go_wp2_with (first | (go_at_call 104; refine (l06Pitch_any _ b f ri a n c _ l ys R1 true _ (Box.ext (Box.ext (box_new (w := w) #[.float .f32 b, .float .f32 f, .float .f32 ri, .slice a n c] 72) he.out) (by (repeat with_reducible (first | exact Ext.refl _ | exact ext_alloc _ _ | refine Ext.drewN ?_ _ | refine Ext.drew1 ?_ | refine Ext.set ?_ (by dsimp only; omega) _ | refine Ext.alloc ?_ _)))) (HoldsA.ext HH.out (Ext.trans (ext_alloc _ _) (Ext.trans he.out (by (repeat with_reducible (first | exact Ext.refl _ | exact ext_alloc _ _ | refine Ext.drewN ?_ _ | refine Ext.drew1 ?_ | refine Ext.set ?_ (by dsimp only; omega) _ | refine Ext.alloc ?_ _)))))) HN.out (HPT.out _ hq)).mono ?_; rintro e w2 ⟨v2, rfl, hv2, E2⟩) | (refine wpList_fa rfl rfl rfl rfl rfl (by first | assumption | exact is_const (by decide) | exact is_int _ | exact is_self _ _) (by first | assumption | exact is_const (by decide) | exact is_int _ | exact is_self _ _) ?_; intro q nq hq hqw) | (go_at_call 61; with_reducible refine (l01Finite_any q _).mono ?_; rintro e w' ⟨rfl, m9, rfl⟩; rw [HQF.out _ hq]))
          go_returns
          rw [HBAD.out.1, HBAD.out.2]
          refine ⟨_, rfl, nil_is _ _, ?_⟩
          (repeat with_reducible (first | exact Ext.refl _ | exact ext_alloc _ _ | refine Ext.trans ?_ E2 | refine Ext.trans ?_ he.out | refine Ext.drewN ?_ _ | refine Ext.drew1 ?_ | refine Ext.alloc ?_ _))

      have hP := pitch_same (b := b) (f := f) (ri := ri) (ys := ys) (n := n) HVV.out.1 HVV.out.2 hN2 hN64 hlt hf
      rw [hS] at hP
      have HQF := hid (fun (q' : Nat) (h : Is .f32 q' (timeK (cls .f32 l) N k)) => show fin32 (cls .f32 q') = true from by rw [h.out]; exact hf)
      clear hS hf
      cases O1
      · have HBAD := hid (show R = [] ∧ O = false from by have h9 := HRR.out; rw [pitches_bad hlt (by rw [hP])] at h9; cases h9; exact ⟨rfl, rfl⟩)
        clear hP HRR
        go_wp2_with (first | (go_at_call 104; refine (l06Pitch_any _ b f ri a n c _ l ys R1 false _ (Box.ext (Box.ext (box_new (w := w) #[.float .f32 b, .float .f32 f, .float .f32 ri, .slice a n c] 72) he.out) (by (repeat with_reducible (first | exact Ext.refl _ | exact ext_alloc _ _ | refine Ext.drewN ?_ _ | refine Ext.drew1 ?_ | refine Ext.set ?_ (by dsimp only; omega) _ | refine Ext.alloc ?_ _)))) (HoldsA.ext HH.out (Ext.trans (ext_alloc _ _) (Ext.trans he.out (by (repeat with_reducible (first | exact Ext.refl _ | exact ext_alloc _ _ | refine Ext.drewN ?_ _ | refine Ext.drew1 ?_ | refine Ext.set ?_ (by dsimp only; omega) _ | refine Ext.alloc ?_ _)))))) HN.out (HPT.out _ hq)).mono ?_; rintro e w2 ⟨v2, rfl, hv2, E2⟩) | (refine wpList_fa rfl rfl rfl rfl rfl (by first | assumption | exact is_const (by decide) | exact is_int _ | exact is_self _ _) (by first | assumption | exact is_const (by decide) | exact is_int _ | exact is_self _ _) ?_; intro q nq hq hqw))
        go_returns
        rw [HBAD.out.1, HBAD.out.2]
        refine ⟨_, rfl, nil_is _ _, ?_⟩
        (repeat with_reducible (first | exact Ext.refl _ | exact ext_alloc _ _ | refine Ext.trans ?_ E2 | refine Ext.trans ?_ he.out | refine Ext.drewN ?_ _ | refine Ext.drew1 ?_ | refine Ext.alloc ?_ _))

      · have HG2 := hid (upto_succ (P := fun q' => (pitchR (cls .f32 b) (cls .f32 f) (cls .f32 ri) ys n (timeK (cls .f32 l) N q') (cls .f32 l)).2 = true) hg.out (by rw [hP]))
        have HY2 := hid (show (List.range (k + 1)).map (fun q => (pitchR (cls .f32 b) (cls .f32 f) (cls .f32 ri) ys n (timeK (cls .f32 l) N q) (cls .f32 l)).1) = (List.range k).map (fun q => (pitchR (cls .f32 b) (cls .f32 f) (cls .f32 ri) ys n (timeK (cls .f32 l) N q) (cls .f32 l)).1) ++ [R1] from by rw [range_snoc]; simp only [hP])
        clear hP
        go_wp2_with (first | (go_at_call 104; refine (l06Pitch_any _ b f ri a n c _ l ys R1 true _ (Box.ext (Box.ext (box_new (w := w) #[.float .f32 b, .float .f32 f, .float .f32 ri, .slice a n c] 72) he.out) (by (repeat with_reducible (first | exact Ext.refl _ | exact ext_alloc _ _ | refine Ext.drewN ?_ _ | refine Ext.drew1 ?_ | refine Ext.set ?_ (by dsimp only; omega) _ | refine Ext.alloc ?_ _)))) (HoldsA.ext HH.out (Ext.trans (ext_alloc _ _) (Ext.trans he.out (by (repeat with_reducible (first | exact Ext.refl _ | exact ext_alloc _ _ | refine Ext.drewN ?_ _ | refine Ext.drew1 ?_ | refine Ext.set ?_ (by dsimp only; omega) _ | refine Ext.alloc ?_ _)))))) HN.out (HPT.out _ hq)).mono ?_; rintro e w2 ⟨v2, rfl, hv2, E2⟩) | (refine wpList_fa rfl rfl rfl rfl rfl (by first | assumption | exact is_const (by decide) | exact is_int _ | exact is_self _ _) (by first | assumption | exact is_const (by decide) | exact is_int _ | exact is_self _ _) ?_; intro q nq hq hqw) | (go_at_call 61; with_reducible refine (l01Finite_any q _).mono ?_; rintro e w' ⟨rfl, m9, rfl⟩; rw [HQF.out _ hq]) | (at_builtin; refine wpList_append_lies _ rfl _ _ 34 rfl (w.heap.size + 1) 22 i0 (.float .f32 0) 1 4 Try.underlying34 HI.out.1 HI.out.2.1 HI.out.2.2.1 HI.out.2.2.2 rfl (by decide) _ _ _ rfl (Own.alloc (Own.drewN (Own.ext ho.out (Ext.trans (by (repeat with_reducible (first | exact Ext.refl _ | exact ext_alloc _ _ | refine Ext.drewN ?_ _ | refine Ext.drew1 ?_ | refine Ext.set ?_ (by dsimp only; omega) _ | refine Ext.alloc ?_ _))) E2)) _) _) ⟨w2.heap.size, 0, none⟩ 1 1 [.float .f32 v2] rfl rfl (World.news_of_block (heap_alloc_new _ _)) (by intro u hu; simp at hu; subst hu; rfl) (by omega) (by unfold maxLen; omega) (by omega) (by have h8 := Ext.size he.out; have h9 := Ext.size E2; simp at h8 h9 ⊢; omega) _ rfl ?_; intro g cap w3 hown hgrow hat hlt2))
        have g1 := hid (own_snoc10 hown)
        have g2 := hid (show Ext (w.alloc (.cells #[.float .f32 b, .float .f32 f, .float .f32 ri, .slice a n c] 72)) w3 from But.below hgrow (Ext.alloc (Ext.drewN (Ext.trans he.out (Ext.trans (by (repeat with_reducible (first | exact Ext.refl _ | exact ext_alloc _ _ | refine Ext.drewN ?_ _ | refine Ext.drew1 ?_ | refine Ext.set ?_ (by dsimp only; omega) _ | refine Ext.alloc ?_ _))) E2)) _) _) (fun k2 hk2 => by have h9 := (Own.block ho.out k2 hk2).1; simpa using h9))
        have g3 := hid (show (zs ++ [v2]).map (cls .f32) = (List.range (k + 1)).map (fun q => (pitchR (cls .f32 b) (cls .f32 f) (cls .f32 ri) ys n (timeK (cls .f32 l) N q) (cls .f32 l)).1) from by rw [List.map_append, hy.out, HY2.out]; exact congrArg (fun z => _ ++ [z]) hv2.out)
        clear hown hgrow hat hlt2 E2
        go_wp2
        go_roundw
        case rel => exact ⟨k + 1, zs ++ [v2], by omega, by go_num, g1, g3, HG2, g2⟩
        case measure => simp [intOf]; omega
    · have hkn : k = N := by omega
      subst hkn
      have HOK := hid (show (List.range k).map (fun q => (pitchR (cls .f32 b) (cls .f32 f) (cls .f32 ri) ys n (timeK (cls .f32 l) k q) (cls .f32 l)).1) = R ∧ O = true from by have h9 := HRR.out; rw [pitches_good hg.out] at h9; cases h9; exact ⟨rfl, rfl⟩)
      go_wp2_with fail
      go_returns
      rw [HOK.out.2]
      exact ⟨_, rfl, list_is (Own.base ho.out (by omega)) (by rw [hy.out]; exact HOK.out.1), Ext.trans (ext_alloc _ _) (Ext.trans he.out (by (repeat with_reducible (first | exact Ext.refl _ | exact ext_alloc _ _ | refine Ext.drewN ?_ _ | refine Ext.drew1 ?_ | refine Ext.set ?_ (by dsimp only; omega) _ | refine Ext.alloc ?_ _))))⟩

end Go.Proofs.Ythinjgiakaflpaa
