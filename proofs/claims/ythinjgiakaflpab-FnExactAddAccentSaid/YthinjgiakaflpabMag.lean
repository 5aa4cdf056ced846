/- How great a rounded number can be: powers of two as bounds. -/
import Derived.Test.YthinjgiakaflpabFlt2
namespace Go.Proofs.Ythinjgiakaflpab.Flt
open Ieee Go.RowKit

/-- 'm * 2 ^ i' is at most '2 ^ e' -/
def leP (m : Nat) (i e : Int) : Prop := m = 0 ∨ (i ≤ e ∧ m ≤ 2 ^ (e - i).toNat)
/-- 'm * 2 ^ i' is at least '2 ^ e' -/
def geP (m : Nat) (i e : Int) : Prop := m ≠ 0 ∧ 2 ^ (e - i).toNat ≤ m

theorem leP_mono {m : Nat} {i e e' : Int} (h : leP m i e) (he : e ≤ e') : leP m i e' := by
  rcases h with h | ⟨h1, h2⟩
  · exact .inl h
  · exact .inr ⟨by omega, Nat.le_trans h2 (Nat.pow_le_pow_right (by omega) (by omega))⟩

theorem cut_le (neg : Bool) (n drop N : Nat) (h : n ≤ N * 2 ^ drop) : Toward.even.cut neg n drop ≤ N := by
  unfold Toward.cut
  dsimp only
  by_cases hd : drop ≤ n.log2 + 2
  · rw [Nat.min_eq_left hd, Nat.one_shiftLeft]
    have hp : 0 < 2 ^ drop := Nat.two_pow_pos _
    have h1 : n / 2 ^ drop ≤ N := Nat.div_le_of_le_mul (by rw [Nat.mul_comm]; exact h)
    rcases Nat.lt_or_eq_of_le h1 with h2 | h2
    · have : ∀ c : Bool, c.toNat ≤ 1 := by intro c; cases c <;> decide
      have := this (decide (2 ^ drop < 2 * (n % 2 ^ drop)) || 2 ^ drop == 2 * (n % 2 ^ drop) && n / 2 ^ drop % 2 == 1)
      omega
    · have h3 : n % 2 ^ drop = 0 := by
        have := Nat.div_add_mod n (2 ^ drop)
        rw [h2, Nat.mul_comm] at this
        omega
      rw [h3]
      have e1 : decide (2 ^ drop < 2 * 0) = false := by simp
      have e2 : (2 ^ drop == 2 * 0) = false := by simp
      rw [e1, e2]
      simp; omega
  · have hd' : n.log2 + 2 ≤ drop := by omega
    rw [Nat.min_eq_right hd', Nat.one_shiftLeft]
    have h1 : n < 2 ^ (n.log2 + 1) := Nat.lt_log2_self
    have h2 : 2 ^ (n.log2 + 2) = 2 * 2 ^ (n.log2 + 1) := by rw [Nat.pow_succ 2 (n.log2 + 1), Nat.mul_comm]
    rw [h2]
    generalize 2 ^ (n.log2 + 1) = G at h1
    have e0 : n / (2 * G) = 0 := Nat.div_eq_of_lt (by omega)
    have e1 : n % (2 * G) = n := Nat.mod_eq_of_lt (by omega)
    rw [e0, e1]
    have e2 : decide (2 * G < 2 * n) = false := by simp; omega
    have e3 : (2 * G == 2 * n) = false := by simp; omega
    rw [e2, e3]
    simp

theorem le_cut (neg : Bool) (n drop N : Nat) (h : N * 2 ^ drop ≤ n) : N ≤ Toward.even.cut neg n drop := by
  unfold Toward.cut
  dsimp only
  by_cases hd : drop ≤ n.log2 + 2
  · rw [Nat.min_eq_left hd, Nat.one_shiftLeft]
    have hp : 0 < 2 ^ drop := Nat.two_pow_pos _
    have : N ≤ n / 2 ^ drop := (Nat.le_div_iff_mul_le hp).2 h
    omega
  · rcases Nat.eq_zero_or_pos N with h0 | h0
    · subst h0; exact Nat.zero_le _
    · exfalso
      have h1 : n < 2 ^ (n.log2 + 1) := Nat.lt_log2_self
      have h2 : 2 ^ (n.log2 + 1) ≤ 2 ^ drop := Nat.pow_le_pow_right (by omega) (by omega)
      have h3 : 1 * 2 ^ drop ≤ N * 2 ^ drop := Nat.mul_le_mul_right _ h0
      omega

/-- what a rung stands for -/
theorem read_rung (F : Format) (hF : F.binade ≤ F.infRung) (s : Bool) (q kept : Nat) (hq : q = 0 ∨ F.binade ≤ kept) (hk : kept ≤ 2 * F.binade) (hr : q * F.binade + kept < F.infRung) :
    ∃ m i, F.read (F.word s (q * F.binade + kept)) = .number s m i ∧ F.leastPlace ≤ i ∧ i ≤ F.leastPlace + q + 1 ∧ m * 2 ^ (i - F.leastPlace).toNat = kept * 2 ^ q ∧ (kept = 0 → m = 0) ∧
      ((m = kept ∧ i = F.leastPlace + q) ∨ (2 * m = kept ∧ i = F.leastPlace + q + 1)) := by
  have hS := F.infRung_lt
  have hB : 0 < F.binade := Nat.two_pow_pos _
  have hneg : (F.word s (q * F.binade + kept) / F.signWeight % 2 == 1) = s := by
    unfold Format.word
    cases s
    · simp only [Bool.false_eq_true, if_false]
      rw [Nat.div_eq_of_lt (by omega)]; rfl
    · simp only [if_true]
      rw [Nat.add_div_left _ (by omega), Nat.div_eq_of_lt (by omega)]; rfl
  unfold Format.read
  dsimp only
  rw [word_mod _ _ _ (by omega), hneg]
  by_cases h1 : q * F.binade + kept < F.binade
  · rw [if_pos h1]
    have hq0 : q = 0 := by
      rcases hq with h | h
      · exact h
      · omega
    subst hq0
    refine ⟨_, _, rfl, Int.le_refl _, by omega, ?_, by omega, .inl ⟨by omega, by omega⟩⟩
    simp
  · rw [if_neg h1, if_pos hr]
    by_cases h2 : kept < F.binade
    · have hq0 : q = 0 := by
        rcases hq with h | h
        · exact h
        · omega
      subst hq0; omega
    · by_cases h3 : kept = 2 * F.binade
      · have d1 : (q * F.binade + kept) / F.binade = q + 2 := by
          have : q * F.binade + kept = F.binade * (q + 2) := by rw [h3, Nat.mul_add, Nat.mul_comm q, Nat.mul_comm 2]
          rw [this, Nat.mul_div_cancel_left _ hB]
        have d2 : (q * F.binade + kept) % F.binade = 0 := by
          have : q * F.binade + kept = F.binade * (q + 2) := by rw [h3, Nat.mul_add, Nat.mul_comm q, Nat.mul_comm 2]
          rw [this, Nat.mul_mod_right]
        rw [d1, d2]
        refine ⟨_, _, rfl, by omega, by omega, ?_, by omega, .inr ⟨by omega, by omega⟩⟩
        have e1 : (F.leastPlace + ((q + 2 - 1 : Nat) : Int) - F.leastPlace).toNat = q + 1 := by omega
        rw [e1, h3, Nat.add_zero, Nat.pow_succ, Nat.mul_comm 2 F.binade, Nat.mul_assoc, Nat.mul_comm (2 ^ q) 2]
      · have d1 : (q * F.binade + kept) / F.binade = q + 1 := by
          have : q * F.binade + kept = (kept - F.binade) + F.binade * (q + 1) := by rw [Nat.mul_add, Nat.mul_comm F.binade q]; omega
          rw [this, Nat.add_mul_div_left _ _ hB, Nat.div_eq_of_lt (by omega), Nat.zero_add]
        have d2 : (q * F.binade + kept) % F.binade = kept - F.binade := by
          have : q * F.binade + kept = (kept - F.binade) + F.binade * (q + 1) := by rw [Nat.mul_add, Nat.mul_comm F.binade q]; omega
          rw [this, Nat.add_mul_mod_self_left, Nat.mod_eq_of_lt (by omega)]
        rw [d1, d2]
        refine ⟨_, _, rfl, by omega, by omega, ?_, by omega, .inl ⟨by omega, by omega⟩⟩
        have e1 : (F.leastPlace + ((q + 1 - 1 : Nat) : Int) - F.leastPlace).toNat = q := by omega
        have e2 : F.binade + (kept - F.binade) = kept := by omega
        rw [e1, e2]

/-- rounding keeps a power of two as a bound from above -/
theorem nearest_le (F : Format) (hF : F.binade ≤ F.infRung) (s : Bool) (m : Nat) (place e : Int) (h : leP m place e) (h0 : F.leastPlace ≤ e) (h1 : (e - F.fractionBits - F.leastPlace).toNat + 2 < 2 ^ F.exponentBits - 1) :
    ∃ m' i', F.read (F.nearest s m place) = .number s m' i' ∧ leP m' i' e ∧ F.leastPlace ≤ i' ∧ (m ≠ 0 → ∀ e0, F.leastPlace ≤ e0 → geP m place e0 → geP m' i' e0) := by
  have hB : 0 < F.binade := Nat.two_pow_pos _
  have hBd : F.binade = 2 ^ F.fractionBits := rfl
  by_cases hm : m = 0
  · subst hm
    have e1 : F.nearest s 0 place = F.word s (0 * F.binade + 0) := by simp [Format.nearest]
    rw [e1]
    obtain ⟨m, i, hr, hi, _, _, hz, _⟩ := read_rung F hF s 0 0 (.inl rfl) (by omega) (by omega)
    exact ⟨m, i, hr, .inl (hz rfl), hi, fun hc => absurd rfl hc⟩
  · rcases h with h | ⟨hpe, hme⟩
    · exact absurd h hm
    · have hl1 : 2 ^ m.log2 ≤ m := Nat.log2_self_le hm
      have hl2 : m < 2 ^ (m.log2 + 1) := Nat.lt_log2_self
      have hle : (m.log2 : Int) ≤ e - place := by
        have h2 : 2 ^ m.log2 ≤ 2 ^ (e - place).toNat := Nat.le_trans hl1 hme
        have h3 : m.log2 ≤ (e - place).toNat := (Nat.pow_le_pow_iff_right (by omega)).1 h2
        omega
      generalize hL : max (place + m.log2 - F.fractionBits) F.leastPlace = last
      obtain ⟨q, hq⟩ : ∃ q : Nat, last = F.leastPlace + q := ⟨(last - F.leastPlace).toNat, by omega⟩
      have hle2 : last ≤ e := by omega
      generalize hK : Toward.even.cut s (m <<< (place - last).toNat) (last - place).toNat = kept
      -- kept against powers of two
      have up : ∀ t : Int, last ≤ t → m ≤ 2 ^ (t - place).toNat → place ≤ t → kept ≤ 2 ^ (t - last).toNat := by
        intro t ht hmt hpt
        rw [← hK]
        refine cut_le _ _ _ _ ?_
        rw [Nat.shiftLeft_eq, ← Nat.pow_add]
        by_cases hc : last ≤ place
        · have e1 : (t - last).toNat + (last - place).toNat = (t - place).toNat + (place - last).toNat := by omega
          rw [e1, Nat.pow_add]
          exact Nat.mul_le_mul_right _ hmt
        · have e1 : (place - last).toNat = 0 := by omega
          have e2 : (t - last).toNat + (last - place).toNat = (t - place).toNat := by omega
          rw [e1, e2, Nat.pow_zero, Nat.mul_one]
          exact hmt
      have down : ∀ t : Int, last ≤ t → 2 ^ (t - place).toNat ≤ m → 2 ^ (t - last).toNat ≤ kept := by
        intro t ht hmt
        rw [← hK]
        refine le_cut _ _ _ _ ?_
        rw [Nat.shiftLeft_eq, ← Nat.pow_add]
        by_cases hc : last ≤ place
        · have h4 : 2 ^ ((t - last).toNat + (last - place).toNat) ≤ 2 ^ ((t - place).toNat + (place - last).toNat) := Nat.pow_le_pow_right (by omega) (by omega)
          refine Nat.le_trans h4 ?_
          rw [Nat.pow_add]
          exact Nat.mul_le_mul_right _ hmt
        · have e1 : (place - last).toNat = 0 := by omega
          have e2 : (t - last).toNat + (last - place).toNat = (t - place).toNat := by omega
          rw [e1, e2, Nat.pow_zero, Nat.mul_one]
          exact hmt
      have k1 : kept ≤ 2 ^ (e - last).toNat := up e hle2 hme hpe
      have k2 : kept ≤ 2 * F.binade := by
        have h5 := up (place + m.log2 + 1 - (place + m.log2 - F.fractionBits) + last - 0 |> fun _ => last + F.fractionBits + 1) (by dsimp only; omega)
          (by
            dsimp only
            refine Nat.le_trans (Nat.le_of_lt hl2) (Nat.pow_le_pow_right (by omega) ?_)
            omega) (by dsimp only; omega)
        dsimp only at h5
        have e3 : (last + F.fractionBits + 1 - last).toNat = F.fractionBits + 1 := by omega
        rw [e3, Nat.pow_succ, ← hBd, Nat.mul_comm] at h5
        exact h5
      have k3 : q = 0 ∨ F.binade ≤ kept := by
        by_cases hq0 : q = 0
        · exact .inl hq0
        · right
          have h5 := down (last + F.fractionBits) (by omega) (by
            refine Nat.le_trans (Nat.pow_le_pow_right (by omega) ?_) hl1
            omega)
          have e3 : (last + F.fractionBits - last).toNat = F.fractionBits := by omega
          rw [e3, ← hBd] at h5
          exact h5
      have hrung : q * F.binade + kept < F.infRung := by
        have hq2 : q ≤ (e - F.fractionBits - F.leastPlace).toNat := by omega
        have h6 : (q + 3) * F.binade ≤ F.infRung := by
          show _ ≤ (2 ^ F.exponentBits - 1) * F.binade
          exact Nat.mul_le_mul_right _ (by omega)
        have h7 : (q + 3) * F.binade = q * F.binade + 3 * F.binade := Nat.add_mul ..
        omega
      have hw : F.nearest s m place = F.word s (q * F.binade + kept) := by
        unfold Format.nearest
        rw [if_neg hm]
        dsimp only
        rw [hL, hK]
        congr 1
        have e4 : (last - F.leastPlace).toNat = q := by omega
        rw [e4]
        exact Nat.min_eq_left (Nat.le_of_lt hrung)
      rw [hw]
      obtain ⟨m', i', hr, hi, hi2, hv, hz, hcase⟩ := read_rung F hF s q kept k3 k2 hrung
      refine ⟨m', i', hr, ?_, hi, ?_⟩
      · rcases hcase with ⟨rfl, hi3⟩ | ⟨hm2, hi3⟩
        · right
          have e5 : (e - i').toNat = (e - last).toNat := by omega
          rw [e5]
          exact ⟨by omega, k1⟩
        · by_cases hm0 : m' = 0
          · exact .inl hm0
          · right
            have hlt : last < e := by
              by_cases hc : last < e
              · exact hc
              · have e6 : (e - last).toNat = 0 := by omega
                rw [e6] at k1
                omega
            have e5 : (e - last).toNat = (e - i').toNat + 1 := by omega
            rw [e5, Nat.pow_succ] at k1
            exact ⟨by omega, by omega⟩
      · intro _ e0 he0 hg
        obtain ⟨_, hg2⟩ := hg
        have hk0 : 1 ≤ kept := by
          rcases Int.lt_or_le e0 last with hc | hc
          · rcases k3 with hq0 | hk
            · omega
            · omega
          · exact Nat.le_trans (Nat.two_pow_pos _) (down e0 hc hg2)
        rcases hcase with ⟨rfl, hi3⟩ | ⟨hm2, hi3⟩
        · refine ⟨by omega, ?_⟩
          rcases Int.lt_or_le e0 last with hc | hc
          · have e6 : (e0 - i').toNat = 0 := by omega
            rw [e6]; exact hk0
          · have e6 : (e0 - i').toNat = (e0 - last).toNat := by omega
            rw [e6]; exact down e0 hc hg2
        · refine ⟨by omega, ?_⟩
          rcases Int.lt_or_le e0 i' with hc | hc
          · have e6 : (e0 - i').toNat = 0 := by omega
            rw [e6]; omega
          · have h8 := down e0 (by omega) hg2
            have e6 : (e0 - last).toNat = (e0 - i').toNat + 1 := by omega
            rw [e6, Nat.pow_succ] at h8
            omega

end Go.Proofs.Ythinjgiakaflpab.Flt
