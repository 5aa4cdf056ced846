/- The square root's size. -/
import Derived.Test.YtpmjiabllmomjaaIs
namespace Go.Proofs.Ytpmjiabllmomjaa.Flt
open Ieee Go.RowKit

theorem rootFrom_sq (n : Nat) : ∀ (todo root : Nat), root * root ≤ n → Datum.rootFrom n todo root * Datum.rootFrom n todo root ≤ n := by
  intro todo
  induction todo with
  | zero => intro root h; exact h
  | succ t ih =>
    intro root h
    simp only [Datum.rootFrom]
    refine ih _ ?_
    split
    · assumption
    · exact h

/-- a number that is not below 0 -/
theorem root_le {s : Bool} {m : Nat} {i e : Int} (h : leP m i (2 * e)) (d : Nat) :
    (Datum.number s m i).root d = none ∨ ∃ r k p, (Datum.number s m i).root d = some (.number r k p) ∧ leP k p e ∧ (r = false ∨ k = 0) := by
  by_cases hm : m = 0
  · right
    exact ⟨s, m, i, by simp [Datum.root, hm], .inl hm, .inr hm⟩
  · cases s with
    | true => left; simp [Datum.root, hm]
    | false =>
      right
      obtain ⟨hi, hme⟩ : i ≤ 2 * e ∧ m ≤ 2 ^ (2 * e - i).toNat := by
        rcases h with h | h
        · exact absurd h hm
        · exact h
      generalize hmore : 2 * d - m.log2 + ((i - (2 * d - m.log2 : Nat)) % 2).toNat = more
      have heven : (i - more) % 2 = 0 := by rw [← hmore]; omega
      generalize hn : m <<< more = n
      generalize hw : Datum.rootFrom n (n.log2 / 2 + 1) 0 = whole
      have hsq : whole * whole ≤ n := by rw [← hw]; exact rootFrom_sq n _ 0 (by omega)
      refine ⟨false, 2 * whole + (whole * whole != n).toNat, (i - more) / 2 - 1, ?_, ?_, .inl rfl⟩
      · simp only [Datum.root, if_neg hm]
        simp only [Bool.false_eq_true, if_false]
        rw [hmore, hn, hw]
      · right
        obtain ⟨g, hg⟩ : ∃ g : Nat, (g : Int) = e - (i - more) / 2 := ⟨(e - (i - more) / 2).toNat, by omega⟩
        have hnle : n ≤ 2 ^ g * 2 ^ g := by
          rw [← hn, Nat.shiftLeft_eq, ← Nat.pow_add]
          have e1 : g + g = (2 * e - i).toNat + more := by omega
          rw [e1, Nat.pow_add]
          exact Nat.mul_le_mul_right _ hme
        have hle : whole ≤ 2 ^ g := by
          rcases Nat.lt_or_ge (2 ^ g) whole with h5 | h5
          · exfalso
            have : 2 ^ g * 2 ^ g < whole * whole := Nat.mul_lt_mul'' h5 h5
            omega
          · exact h5
        refine ⟨by omega, ?_⟩
        have e2 : (e - ((i - more) / 2 - 1)).toNat = g + 1 := by omega
        rw [e2, Nat.pow_succ]
        rcases Nat.lt_or_eq_of_le hle with h5 | h5
        · have : ((whole * whole != n).toNat) ≤ 1 := by cases (whole * whole != n) <;> decide
          omega
        · have h6 : (whole * whole != n) = false := by
            have : whole * whole = n := by rw [h5] at hsq ⊢; omega
            simp [this]
          rw [h6, h5]
          simp; omega

theorem mag_sqrt {x : Option Nat} {e : Int} (h : magC x (2 * e)) (h0 : -1074 ≤ e) (h1 : e ≤ 1022) : fsqrt x = none ∨ magC (fsqrt x) e := by
  obtain ⟨b, s, m, i, rfl, h2, _, h4⟩ := h
  rcases root_le (s := s) h4 (FloatKind.f64.format.fractionBits + 2) with g | ⟨r, k, p, g, gl, _⟩
  · left
    show FloatKind.f64.format.sqrt b = none
    unfold Format.sqrt
    rw [h2, g]; rfl
  · right
    have e1 : fsqrt (some b) = some (FloatKind.f64.format.nearest r k p) := by
      show FloatKind.f64.format.sqrt b = _
      unfold Format.sqrt
      rw [h2, g]; rfl
    rw [e1]
    exact near_mag r k p _ gl h0 h1

theorem mag_wide {x : Option Nat} (h : fin32 x = true) (hx : ∀ b, x = some b → nanW .f32 b = false) : magC (fwide x) 128 := by
  cases x with
  | none => cases h
  | some b =>
    rcases read32 b (hx b rfl) with ⟨s, hr⟩ | ⟨s, m, e, hr, h1, h2, h3⟩
    · simp only [fin32, hr] at h; cases h
    · have e1 : fwide (some b) = some (FloatKind.f64.format.nearest s m e) := by
        show some (wide b) = _
        congr 1
        simp only [wide, FloatKind.decode, FloatKind.encode, hr]; rfl
      rw [e1]
      refine near_mag s m e 128 (.inr ⟨by omega, ?_⟩) (by omega) (by omega)
      exact Nat.le_trans (Nat.le_of_lt h1) (Nat.pow_le_pow_right (by omega) (by omega))

theorem fits_none : fits none := fun b h => by cases h

/-- the root of a widened number can be narrowed -/
theorem fits_root (x : Option Nat) (hx : ∀ b, x = some b → nanW .f32 b = false) : fits (fsqrt (fwide x)) := by
  cases hf : fin32 x with
  | true =>
    rcases mag_sqrt (e := 64) (mag_wide hf hx) (by omega) (by omega) with h | h
    · rw [h]; exact fits_none
    · exact fits_of_mag h (by omega)
  | false =>
    cases x with
    | none => exact fits_none
    | some b =>
      rcases wide_read b (hx b rfl) with ⟨s, h1, h2⟩ | ⟨s, m, e, m', e', h1, h2, _⟩
      · intro c hc
        have e1 : FloatKind.f64.format.sqrt (wide b) = some c := hc
        unfold Format.sqrt at e1
        rw [h2] at e1
        cases s
        · left
          refine ⟨false, ?_⟩
          have : FloatKind.f64.format.write (.infinity false) = c := by simpa [Datum.root] using e1
          rw [← this]; exact wide_inf false
        · simp [Datum.root] at e1
      · simp [fin32, h1, Datum.isInfinity] at hf

end Go.Proofs.Ytpmjiabllmomjaa.Flt
