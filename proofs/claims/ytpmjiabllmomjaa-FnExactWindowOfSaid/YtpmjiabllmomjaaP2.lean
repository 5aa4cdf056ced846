/- The phase of a number of a throat: its quotient is small, so what is behind its whole part fits. -/
import Derived.Test.YtpmjiabllmomjaaP1
import Derived.Test.YtpmjiabllmomjaaQuo
import Derived.Test.YtpmjiabllmomjaaFloor
import Derived.Test.YtpmjiabllmomjaaV1
namespace Go.Proofs.Ytpmjiabllmomjaa
open Go.RowKit Flt Ieee
set_option linter.unusedVariables false

theorem geq_two {w : Nat} (h1 : fcmp .geq (ford .f32 (cls .f32 w) (some 1073741824)) = true) (h2 : fcmp .leq (ford .f32 (cls .f32 w) (some 1148846080)) = true) :
    cls .f32 w = some w ∧ ∃ m j, FloatKind.f32.format.read w = .number false m j ∧ geP m j 1 := by
  cases hc : cls .f32 w with
  | none => rw [hc] at h1; cases h1
  | some b =>
    have hb : b = w := cls_word hc
    subst hb
    have hn := cls_ok .f32 b b hc
    rw [hc] at h1 h2
    refine ⟨rfl, ?_⟩
    have hz : FloatKind.f32.format.read 1073741824 = .number false (2 ^ 23) (-22) := by decide
    have hz2 : FloatKind.f32.format.read 1148846080 = .number false 16384000 (-14) := by decide
    rcases read32 b hn with ⟨s, hr⟩ | ⟨s, m, i, hr, g1, g2, g3⟩
    · exfalso
      have o1 : FloatKind.f32.format.order b 1073741824 = some (if s then .lt else .gt) := by unfold Format.order; rw [hr, hz]; rfl
      have o2 : FloatKind.f32.format.order b 1148846080 = some (if s then .lt else .gt) := by unfold Format.order; rw [hr, hz2]; rfl
      cases s
      · simp [fcmp, ford, o2] at h2
      · simp [fcmp, ford, o1] at h1
    · refine ⟨m, i, ?_⟩
      have ho : FloatKind.f32.format.order b 1073741824 = some (compare (signed s m (i - -149).toNat) (signed false (2 ^ 23) (-22 - -149 : Int).toNat)) := by
        unfold Format.order; rw [hr, hz]; exact order_num s false m (2 ^ 23) i (-22) (-149) g2 (by omega)
      have hle : signed false (2 ^ 23) (-22 - -149 : Int).toNat ≤ signed s m (i - -149).toNat := by
        rcases Int.lt_or_le (signed s m (i - -149).toNat) (signed false (2 ^ 23) (-22 - -149 : Int).toNat) with h | h
        · exfalso
          rw [compare_lt h] at ho
          simp [fcmp, ford, ho] at h1
        · exact h
      have e0 : signed false (2 ^ 23) (-22 - -149 : Int).toNat = ((2 ^ 150 : Nat) : Int) := by decide
      rw [e0] at hle
      unfold signed at hle
      have hs : s = false := by
        cases s
        · rfl
        · exfalso
          simp only [if_true] at hle
          generalize m <<< (i - -149).toNat = M at hle
          have := Nat.two_pow_pos 150
          generalize 2 ^ 150 = P at hle this
          omega
      subst hs
      refine ⟨hr, ?_⟩
      simp only [Bool.false_eq_true, if_false, Nat.shiftLeft_eq] at hle
      have hle2 : 2 ^ 150 ≤ m * 2 ^ (i - -149).toNat := by exact_mod_cast hle
      have hm : m ≠ 0 := by
        rintro rfl
        rw [Nat.zero_mul] at hle2
        have := Nat.two_pow_pos 150
        exact absurd this (by omega)
      refine ⟨hm, ?_⟩
      by_cases hi : i ≤ 1
      · have e1 : 150 = (1 - i).toNat + (i - -149).toNat := by omega
        have e2 : 2 ^ 150 = 2 ^ (1 - i).toNat * 2 ^ (i - -149).toNat := by rw [← Nat.pow_add, ← e1]
        rw [e2] at hle2
        exact Nat.le_of_mul_le_mul_right hle2 (Nat.two_pow_pos _)
      · have e1 : (1 - i).toNat = 0 := by omega
        rw [e1]
        exact Nat.pos_of_ne_zero hm
def intSmallB (a : Nat) : Bool := match FloatKind.f32.format.read (floatOfInt .f32 (a : Int)) with
  | .number s m i => decide (m = 0) || (decide (i ≤ 9) && decide (m ≤ 2 ^ (9 - i).toNat))
  | _ => false
theorem ints_small : ((List.range 258).all intSmallB) = true := by kernel_rfl
theorem int_small {a : Nat} (h : a < 258) : ∃ s m i, FloatKind.f32.format.read (floatOfInt .f32 (a : Int)) = .number s m i ∧ leP m i 9 := by
  have h1 := List.all_eq_true.1 ints_small a (List.mem_range.2 h)
  unfold intSmallB at h1
  split at h1
  · rename_i s m i hr
    simp only [Bool.or_eq_true, Bool.and_eq_true, decide_eq_true_eq] at h1
    exact ⟨s, m, i, hr, h1⟩
  · cases h1
noncomputable def quoC (t : Option Nat) (k : Nat) : Option Nat := fop .quo .f32 (some (floatOfInt .f32 (k : Int))) t
theorem quo_small {w k : Nat} (hk : k < 258) (h1 : fcmp .geq (ford .f32 (cls .f32 w) (some 1073741824)) = true) (h2 : fcmp .leq (ford .f32 (cls .f32 w) (some 1148846080)) = true) :
    ∃ q, quoC (cls .f32 w) k = some q ∧ nanW .f32 q = false ∧ magC (fwide (some q)) 22 := by
  obtain ⟨hc, n, j, hr, hg⟩ := geq_two h1 h2
  obtain ⟨s, m, i, hr2, hl⟩ := int_small hk
  obtain ⟨r, k2, p, hs, hl2⟩ := quot_le (s := s) (t := false) hl hg (FloatKind.f32.format.fractionBits + 2)
  have e1 : quoC (cls .f32 w) k = some (FloatKind.f32.format.nearest r k2 p) := by
    unfold quoC
    rw [hc]
    simp only [fop, Option.bind_some, floatBits, Format.div, hr, hr2, hs]; rfl
  obtain ⟨m', i', g1, g2, _⟩ := near32 r k2 p 8 hl2 (by omega) (by omega)
  refine ⟨_, e1, by rw [← read_nan, g1]; rfl, ?_⟩
  have e2 : fwide (some (FloatKind.f32.format.nearest r k2 p)) = some (FloatKind.f64.format.nearest r m' i') := by
    show some (wide _) = _
    congr 1
    simp only [wide, FloatKind.decode, FloatKind.encode, g1]; rfl
  rw [e2]
  exact magC_mono (near_mag r m' i' 8 g2 (by omega) (by omega)) (by omega)
end Go.Proofs.Ytpmjiabllmomjaa
