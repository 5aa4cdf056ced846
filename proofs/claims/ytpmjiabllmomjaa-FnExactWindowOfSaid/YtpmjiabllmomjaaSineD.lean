/- Great and small numbers of turns, on classes. -/
import Derived.Test.YtpmjiabllmomjaaSineC
namespace Go.Proofs.Ytpmjiabllmomjaa.Flt
open Ieee Go.RowKit

def fabs (x : Option Nat) : Option Nat := x.map absW
theorem cls_abs (b : Nat) : cls .f64 (absW b) = fabs (cls .f64 b) := by
  have h : nanW .f64 (absW b) = nanW .f64 b := by
    rw [← read_nan, ← read_nan, read_abs]
    cases FloatKind.f64.format.read b <;> rfl
  unfold cls fabs
  rw [h]
  split <;> rfl
theorem Is.abs {r : Nat} {X : Option Nat} (h : Is .f64 r X) : Is .f64 (absW r) (fabs X) := by
  show cls .f64 _ = _; rw [cls_abs, h.out]

theorem big_read : FloatKind.f64.format.read 4841369599423283200 = .number false (2 ^ 52) 0 := by decide
theorem nbig_read : FloatKind.f64.format.read 14064741636278059008 = .number true (2 ^ 52) 0 := by decide

theorem cmp_mul {m n u v : Nat} : compare (signed false m u) (signed false n v) = compare (m * 2 ^ u) (n * 2 ^ v) := by
  unfold signed
  rw [Nat.shiftLeft_eq, Nat.shiftLeft_eq]
  simp only [Bool.false_eq_true, if_false, compare, compareOfLessAndEq, Int.ofNat_lt, Int.ofNat_inj]

/-- the three tests of a finite number -/
theorem big_tests (b : Nat) (s : Bool) (m : Nat) (i : Int) (hr : FloatKind.f64.format.read b = .number s m i) (hi : -1074 ≤ i) :
    (fcmp .geq (ford .f64 (fabs (some b)) (some 4841369599423283200)) = true ∧ (fcmp .geq (ford .f64 (some b) (some 4841369599423283200)) = true ∨ fcmp .leq (ford .f64 (some b) (some 14064741636278059008)) = true)) ∨
    (fcmp .geq (ford .f64 (fabs (some b)) (some 4841369599423283200)) = false ∧ fcmp .geq (ford .f64 (some b) (some 4841369599423283200)) = false ∧ fcmp .leq (ford .f64 (some b) (some 14064741636278059008)) = false ∧ leP m i 52) := by
  obtain ⟨u, hu⟩ : ∃ u, u = (i - -1074).toNat := ⟨_, rfl⟩
  obtain ⟨v, hv⟩ : ∃ v, v = (0 - -1074 : Int).toNat := ⟨_, rfl⟩
  have hv2 : v = 1074 := by rw [hv]; decide
  have ea : ford .f64 (fabs (some b)) (some 4841369599423283200) = some (compare (signed false m u) (signed false (2 ^ 52) v)) := by
    show FloatKind.f64.format.order (absW b) _ = _
    unfold Format.order
    rw [read_abs, hr, big_read]
    simp only [posD]
    rw [order_num false false m (2 ^ 52) i 0 (-1074) hi (by omega), ← hu, ← hv]
  have eb : ford .f64 (some b) (some 4841369599423283200) = some (compare (signed s m u) (signed false (2 ^ 52) v)) := by
    show FloatKind.f64.format.order b _ = _
    unfold Format.order
    rw [hr, big_read, order_num s false m (2 ^ 52) i 0 (-1074) hi (by omega), ← hu, ← hv]
  have ec : ford .f64 (some b) (some 14064741636278059008) = some (compare (signed s m u) (signed true (2 ^ 52) v)) := by
    show FloatKind.f64.format.order b _ = _
    unfold Format.order
    rw [hr, nbig_read, order_num s true m (2 ^ 52) i 0 (-1074) hi (by omega), ← hu, ← hv]
  rw [ea, eb, ec]
  have hp : 0 < 2 ^ 52 * 2 ^ v := Nat.mul_pos (by decide) (Nat.two_pow_pos _)
  have sf : ∀ k t, signed false k t = ((k * 2 ^ t : Nat) : Int) := fun k t => by unfold signed; rw [Nat.shiftLeft_eq]; rfl
  have st : ∀ k t, signed true k t = -((k * 2 ^ t : Nat) : Int) := fun k t => by unfold signed; rw [Nat.shiftLeft_eq]; rfl
  rw [sf, sf, st]
  have key : m * 2 ^ u < 2 ^ 52 * 2 ^ v → leP m i 52 := by
    intro hlt
    by_cases hm : m = 0
    · exact .inl hm
    · right
      have e1 : (2 : Nat) ^ 52 * 2 ^ v = 2 ^ (52 + v) := (Nat.pow_add ..).symm
      rw [e1] at hlt
      have h1 : 2 ^ u < 2 ^ (52 + v) := Nat.lt_of_le_of_lt (Nat.le_mul_of_pos_left _ (Nat.pos_of_ne_zero hm)) hlt
      have h2 : u < 52 + v := (Nat.pow_lt_pow_iff_right (by omega)).1 h1
      refine ⟨by omega, ?_⟩
      have e2 : 52 + v = (52 - i).toNat + u := by omega
      rw [e2, Nat.pow_add] at hlt
      exact Nat.le_of_lt (Nat.lt_of_mul_lt_mul_right hlt)
  generalize 2 ^ 52 * 2 ^ v = B at *
  clear ea eb ec
  cases s
  · rw [sf]
    generalize m * 2 ^ u = A at *
    rcases Nat.lt_or_ge A B with h | h
    · right
      have c1 : compare (A : Int) (B : Int) = .lt := compare_lt (by omega)
      have c2 : compare (A : Int) (-(B : Int)) = .gt := compare_gt (by omega)
      rw [c1, c2]
      exact ⟨rfl, rfl, rfl, key h⟩
    · left
      rcases Nat.lt_or_eq_of_le h with h1 | h1
      · have c1 : compare (A : Int) (B : Int) = .gt := compare_gt (by omega)
        rw [c1]; exact ⟨rfl, .inl rfl⟩
      · have c1 : compare (A : Int) (B : Int) = .eq := compare_eq (by omega)
        rw [c1]; exact ⟨rfl, .inl rfl⟩
  · rw [st]
    generalize m * 2 ^ u = A at *
    rcases Nat.lt_or_ge A B with h | h
    · right
      have c1 : compare (A : Int) (B : Int) = .lt := compare_lt (by omega)
      have c2 : compare (-(A : Int)) (B : Int) = .lt := compare_lt (by omega)
      have c3 : compare (-(A : Int)) (-(B : Int)) = .gt := compare_gt (by omega)
      rw [c1, c2, c3]
      exact ⟨rfl, rfl, rfl, key h⟩
    · left
      rcases Nat.lt_or_eq_of_le h with h1 | h1
      · have c1 : compare (A : Int) (B : Int) = .gt := compare_gt (by omega)
        have c3 : compare (-(A : Int)) (-(B : Int)) = .lt := compare_lt (by omega)
        rw [c1, c3]; exact ⟨rfl, .inr rfl⟩
      · have c1 : compare (A : Int) (B : Int) = .eq := compare_eq (by omega)
        have c3 : compare (-(A : Int)) (-(B : Int)) = .eq := compare_eq (by omega)
        rw [c1, c3]; exact ⟨rfl, .inr rfl⟩

/-- what is taken from itself -/
theorem sub_self64 (b : Nat) (s : Bool) (m : Nat) (i : Int) (hr : FloatKind.f64.format.read b = .number s m i) : fcmp .neq (ford .f64 (fop .sub .f64 (some b) (some b)) (some 0)) = false := by
  have : fop .sub .f64 (some b) (some b) = some 0 := by
    show floatBits .sub .f64 b b = _
    unfold floatBits Format.sub; rw [hr]
    simp only [Datum.opposite, Datum.sum]
    have e0 : signed s m (i - min i i).toNat + signed (!s) m (i - min i i).toNat = 0 := by
      unfold signed; cases s <;> simp <;> omega
    simp only [e0]
    cases s <;> rfl
  rw [this]; decide
theorem sub_self_inf (b : Nat) (s : Bool) (hr : FloatKind.f64.format.read b = .infinity s) : fcmp .neq (ford .f64 (fop .sub .f64 (some b) (some b)) (some 0)) = true := by
  have : fop .sub .f64 (some b) (some b) = none := by
    show floatBits .sub .f64 b b = _
    unfold floatBits Format.sub; rw [hr]; cases s <;> rfl
  rw [this]; rfl

/-- the kinds of numbers of turns: not finite; great; small: what each test says -/
inductive Turns (x : Option Nat) : Prop
  | wild (h : fcmp .neq (ford .f64 (fop .sub .f64 x x) (some 0)) = true) : Turns x
  | great (h1 : fcmp .neq (ford .f64 (fop .sub .f64 x x) (some 0)) = false) (h2 : fcmp .geq (ford .f64 (fabs x) (some 4841369599423283200)) = true)
      (h3 : fcmp .geq (ford .f64 x (some 4841369599423283200)) = true ∨ fcmp .leq (ford .f64 x (some 14064741636278059008)) = true) : Turns x
  | small (h1 : fcmp .neq (ford .f64 (fop .sub .f64 x x) (some 0)) = false) (h2 : fcmp .geq (ford .f64 (fabs x) (some 4841369599423283200)) = false)
      (h3 : fcmp .geq (ford .f64 x (some 4841369599423283200)) = false) (h4 : fcmp .leq (ford .f64 x (some 14064741636278059008)) = false)
      (n : Int) (h5 : ∀ b, x = some b → floatToIntVal .f64 b .i64 = some n) (h6 : magC (fop .sub .f64 x (some (floatOfInt .f64 n))) 0) : Turns x

theorem turns_num (b : Nat) (s : Bool) (m : Nat) (i : Int) (hr : FloatKind.f64.format.read b = .number s m i) (hi : -1074 ≤ i) : Turns (some b) := by
  rcases big_tests b s m i hr hi with ⟨h1, h2⟩ | ⟨h1, h2, h3, h4⟩
  · exact .great (sub_self64 b s m i hr) h1 h2
  · obtain ⟨n, g1, g2⟩ := trunc_sub b s m i hr hi h4
    exact .small (sub_self64 b s m i hr) h1 h2 h3 n (fun b' hb => by cases hb; exact g1) g2

theorem turns_wide (x : Option Nat) (hx : ∀ b, x = some b → nanW .f32 b = false) : (fin32 x = false ∧ fcmp .neq (ford .f64 (fop .sub .f64 (fwide x) (fwide x)) (some 0)) = true) ∨ (fin32 x = true ∧ Turns (fwide x)) := by
  cases x with
  | none => exact .inl ⟨rfl, rfl⟩
  | some b =>
    rcases wide_read b (hx b rfl) with ⟨s, h1, h2⟩ | ⟨s, m, e, m', e', h1, h2, hm2, he, he2, he3, hv⟩
    · exact .inl ⟨by simp only [fin32, h1]; rfl, sub_self_inf _ s h2⟩
    · exact .inr ⟨by simp only [fin32, h1]; rfl, turns_num _ s m' e' h2 he3⟩

end Go.Proofs.Ytpmjiabllmomjaa.Flt
