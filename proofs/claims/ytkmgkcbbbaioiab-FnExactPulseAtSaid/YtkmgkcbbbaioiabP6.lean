/- The flow at a phase of a valid throat is finite. -/
import Derived.Test.YtkmgkcbbbaioiabP5
namespace Go.Proofs.Ytkmgkcbbbaioiab
open Go.RowKit Flt Ieee
set_option linter.unusedVariables false

def atPhaseC (p : Option Nat) : Bool := fcmp .geq (ford .f32 p (some 0)) && fcmp .lss (ford .f32 p (some 1065353216))
theorem phase_read {w : Nat} (h : atPhaseC (cls .f32 w) = true) : cls .f32 w = some w ∧ ∃ s m i, FloatKind.f32.format.read w = .number s m i ∧ (s = false ∨ m = 0) ∧ m < 16777216 ∧ -149 ≤ i ∧ i ≤ 104 := by
  unfold atPhaseC at h
  simp only [Bool.and_eq_true] at h
  obtain ⟨h1, h2⟩ := h
  cases hc : cls .f32 w with
  | none => rw [hc] at h1; cases h1
  | some b =>
    have hb : b = w := cls_word hc
    subst hb
    have hn := cls_ok .f32 b b hc
    rw [hc] at h1 h2
    refine ⟨rfl, ?_⟩
    have hz : FloatKind.f32.format.read 0 = .number false 0 (-149) := by decide
    have hz2 : FloatKind.f32.format.read 1065353216 = .number false (2 ^ 23) (-23) := by decide
    rcases read32 b hn with ⟨s, hr⟩ | ⟨s, m, i, hr, g1, g2, g3⟩
    · exfalso
      have o1 : FloatKind.f32.format.order b 0 = some (if s then .lt else .gt) := by unfold Format.order; rw [hr, hz]; rfl
      have o2 : FloatKind.f32.format.order b 1065353216 = some (if s then .lt else .gt) := by unfold Format.order; rw [hr, hz2]; rfl
      cases s
      · simp [fcmp, ford, o2] at h2
      · simp [fcmp, ford, o1] at h1
    · refine ⟨s, m, i, hr, ?_, g1, g2, g3⟩
      cases s
      · exact .inl rfl
      · right
        by_cases hm : m = 0
        · exact hm
        · exfalso
          have ho : FloatKind.f32.format.order b 0 = some (compare (signed true m (i - -149).toNat) (signed false 0 (-149 - -149 : Int).toNat)) := by
            unfold Format.order; rw [hr, hz]; exact order_num true false m 0 i (-149) (-149) g2 (by omega)
          have z0 : signed false 0 (-149 - -149 : Int).toNat = 0 := by decide
          have hp : signed true m (i - -149).toNat < 0 := by
            unfold signed
            simp only [if_true, Nat.shiftLeft_eq]
            have : 0 < m * 2 ^ (i - -149).toNat := Nat.mul_pos (Nat.pos_of_ne_zero hm) (Nat.two_pow_pos _)
            omega
          rw [z0, compare_lt hp] at ho
          simp [fcmp, ford, ho] at h1
theorem opens_read {o c : Nat} (h : opensC (cls .f32 o) (cls .f32 c) = true) :
    (∃ m i, cls .f32 o = some o ∧ FloatKind.f32.format.read o = .number false m i ∧ m ≠ 0 ∧ m < 16777216 ∧ -149 ≤ i ∧ i ≤ 104) ∧ (∃ m i, cls .f32 c = some c ∧ FloatKind.f32.format.read c = .number false m i ∧ m ≠ 0 ∧ m < 16777216 ∧ -149 ≤ i ∧ i ≤ 104) := by
  unfold opensC at h
  simp only [Bool.and_eq_true] at h
  obtain ⟨h3, h4, h5⟩ := h
  have hf := opens_fin o c h3 h4 h5
  exact ⟨area_num o h3 hf.1, area_num c h4 hf.2⟩
theorem flow_fin {o c p : Nat} (ho : opensC (cls .f32 o) (cls .f32 c) = true) (hp : atPhaseC (cls .f32 p) = true) : fin32 (flowC (cls .f32 o) (cls .f32 c) (cls .f32 p)) = true := by
  obtain ⟨⟨mo, jo, eo, ro, o1, o2, o3, o4⟩, ⟨mc, jc, ec, rc, c1, c2, c3, c4⟩⟩ := opens_read ho
  obtain ⟨ep, s, mp, ip, rp, p1, p2, p3, p4⟩ := phase_read hp
  rw [eo, ec, ep]
  unfold flowC
  split
  · rename_i h
    rw [lss_num rp ro p1 p3 o3] at h
    have hq := quo_mag rp ro o1 p2 p3 o3 (Nat.le_of_lt (of_decide_eq_true h))
    refine half_fin (sineF_mag ?_)
    exact mag32_mono (mag32_add (mag32_mul mag32_half hq (by omega) (by omega)) mag32_quarter (by omega) (by omega)) (by omega)
  · rename_i h
    rw [lss_num rp ro p1 p3 o3] at h
    have hle : mo * 2 ^ (jo + 149).toNat ≤ mp * 2 ^ (ip + 149).toNat := by simpa using h
    split
    · rename_i h2
      -- the exact sum is behind the phase
      have hsum : (Datum.number false mo jo).sum (Datum.number false mc jc) = some (.number (if signed false mo (jo - min jo jc).toNat + signed false mc (jc - min jo jc).toNat = 0 then false && false else decide (signed false mo (jo - min jo jc).toNat + signed false mc (jc - min jo jc).toNat < 0)) (signed false mo (jo - min jo jc).toNat + signed false mc (jc - min jo jc).toNat).natAbs (min jo jc)) := rfl
      have hS : (signed false mo (jo - min jo jc).toNat + signed false mc (jc - min jo jc).toNat) = ((mo * 2 ^ (jo - min jo jc).toNat + mc * 2 ^ (jc - min jo jc).toNat : Nat) : Int) := by
        unfold signed; simp [Nat.shiftLeft_eq]
      rw [hS] at hsum
      have hpos : 0 < mo * 2 ^ (jo - min jo jc).toNat + mc * 2 ^ (jc - min jo jc).toNat := Nat.add_pos_left (Nat.mul_pos (Nat.pos_of_ne_zero o1) (Nat.two_pow_pos _)) _
      have hsc : (mo * 2 ^ (jo - min jo jc).toNat + mc * 2 ^ (jc - min jo jc).toNat) * 2 ^ (min jo jc + 149).toNat = mo * 2 ^ (jo + 149).toNat + mc * 2 ^ (jc + 149).toNat := by
        rw [Nat.add_mul, Nat.mul_assoc, Nat.mul_assoc, ← Nat.pow_add, ← Nat.pow_add]
        congr 3 <;> omega
      generalize hT : mo * 2 ^ (jo - min jo jc).toNat + mc * 2 ^ (jc - min jo jc).toNat = T at hsum hpos hsc
      have hneg : (if ((T : Nat) : Int) = 0 then false && false else decide (((T : Nat) : Int) < 0)) = false := by
        rw [if_neg (by omega)]; simp
      rw [hneg, Int.natAbs_natCast] at hsum
      have e1 : fop .add .f32 (some o) (some c) = some (FloatKind.f32.format.nearest false T (min jo jc)) := by
        simp only [fop, Option.bind_some, floatBits, Format.add, ro, rc, hsum]; rfl
      have hlt : mp * 2 ^ (ip + 149).toNat < mo * 2 ^ (jo + 149).toNat + mc * 2 ^ (jc + 149).toNat := by
        rcases Nat.lt_or_ge (mp * 2 ^ (ip + 149).toNat) (mo * 2 ^ (jo + 149).toNat + mc * 2 ^ (jc + 149).toNat) with g | g
        · exact g
        · exfalso
          have b1 : (min jo jc - -149).toNat = (min jo jc + 149).toNat := by omega
          have b2 : (ip - -149).toNat = (ip + 149).toNat := by omega
          obtain ⟨m', i', k1, k2, k3⟩ := near_below false T mp (min jo jc) ip (-149) p2 p3 p4 (by omega) (by omega) (by rw [b1, b2, hsc]; exact g)
          rw [e1, lss_num rp k1 p1 p3 k2] at h2
          have := of_decide_eq_true h2
          omega
      -- the exact difference is not greater than Close
      have hs2 : signed s mp (ip - min ip jo).toNat = ((mp * 2 ^ (ip - min ip jo).toNat : Nat) : Int) := by
        unfold signed
        rcases p1 with rfl | rfl
        · simp [Nat.shiftLeft_eq]
        · cases s <;> simp
      have hs3 : signed (!false) mo (jo - min ip jo).toNat = -((mo * 2 ^ (jo - min ip jo).toNat : Nat) : Int) := by
        unfold signed; simp [Nat.shiftLeft_eq]
      obtain ⟨r, hdif⟩ : ∃ r, (Datum.number s mp ip).sum (Datum.number false mo jo).opposite = some (.number r (signed s mp (ip - min ip jo).toNat + signed (!false) mo (jo - min ip jo).toNat).natAbs (min ip jo)) := ⟨_, rfl⟩
      rw [hs2, hs3] at hdif
      have q1 : mp * 2 ^ (ip - min ip jo).toNat * 2 ^ (min ip jo + 149).toNat = mp * 2 ^ (ip + 149).toNat := by
        rw [Nat.mul_assoc, ← Nat.pow_add]; congr 2; omega
      have q2 : mo * 2 ^ (jo - min ip jo).toNat * 2 ^ (min ip jo + 149).toNat = mo * 2 ^ (jo + 149).toNat := by
        rw [Nat.mul_assoc, ← Nat.pow_add]; congr 2; omega
      generalize mp * 2 ^ (ip - min ip jo).toNat = A at hdif q1
      generalize mo * 2 ^ (jo - min ip jo).toNat = B at hdif q2
      have hAB : B ≤ A := by
        rw [← q1, ← q2] at hle
        exact Nat.le_of_mul_le_mul_right hle (Nat.two_pow_pos _)
      have hD : (((A : Nat) : Int) + -((B : Nat) : Int)).natAbs = A - B := by omega
      rw [hD] at hdif
      have hDle : (A - B) * 2 ^ (min ip jo + 149).toNat ≤ mc * 2 ^ (jc + 149).toNat := by
        rw [Nat.sub_mul, q1, q2]; omega
      have e2 : fop .sub .f32 (some p) (some o) = some (FloatKind.f32.format.nearest r (A - B) (min ip jo)) := by
        simp only [fop, Option.bind_some, floatBits, Format.sub, rp, ro, hdif]; rfl
      have b1 : (min ip jo - -149).toNat = (min ip jo + 149).toNat := by omega
      have b2 : (jc - -149).toNat = (jc + 149).toNat := by omega
      obtain ⟨m', i', k1, k2, k3⟩ := near_below r (A - B) mc (min ip jo) jc (-149) c2 c3 c4 (by omega) (by omega) (by rw [b1, b2]; exact hDle)
      have km : m' < 16777216 := by
        rcases read32 (FloatKind.f32.format.nearest r (A - B) (min ip jo)) (by rw [← read_nan, k1]; rfl) with ⟨s, hr⟩ | ⟨s, m3, e3, hr, hh, _⟩
        · rw [k1] at hr; cases hr
        · rw [k1] at hr; simp only [Datum.number.injEq] at hr; omega
      have hq := quo_mag k1 rc c1 km k2 c3 k3
      rw [e2]
      refine mag32_fin (sineF_mag ?_)
      exact mag32_mono (mag32_add (mag32_mul mag32_quarter hq (by omega) (by omega)) mag32_quarter (by omega) (by omega)) (by omega)
    · rfl
end Go.Proofs.Ytkmgkcbbbaioiab
