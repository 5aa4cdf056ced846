/- Soft ramps. -/
import Derived.Test.YthinjgiakaflpabV1
import Derived.Test.YthinjgiakaflpabAbs
namespace Go.Proofs.Ythinjgiakaflpab
open Go.RowKit Flt
set_option linter.unusedVariables false

open Ieee

def maxV (q s : Nat) : Nat := match FloatKind.f32.format.order q s with
  | some .lt => s
  | some .gt => q
  | _ => if (FloatKind.f32.decode q).neg then s else q
def minV (q s : Nat) : Nat := match FloatKind.f32.format.order q s with
  | some .lt => q
  | some .gt => s
  | _ => if (FloatKind.f32.decode q).neg then q else s
theorem signedV (s : Bool) (m k : Nat) : Ieee.signed s m k = if s then -((m * 2 ^ k : Nat) : Int) else ((m * 2 ^ k : Nat) : Int) := by
  unfold Ieee.signed
  cases s <;> simp [Nat.shiftLeft_eq]
section
variable {P : Program} {w : World} {ops : Array Oper} {rest : List Oper} {o : Oper} {a : Act} {Q : Exit → Act → World → Prop}
theorem wpList_fminV {x y : Operand} {t1 t2 : TypeId} (ho : o.op = .call { callee := .builtin .min, args := #[x, y], argTypes := #[t1, t2] }) (hw : Region.wanted o (yielded ops a.tmps) = true) {q s : Nat} (hx : a.eval x = .float .f32 q) (hy : a.eval y = .float .f32 s) (hn : (FloatKind.f32.format.order q s).isSome = true)
    (h : wpList P ops Q rest (a.put o.dst (.float .f32 (minV q s))) w) : wpList P ops Q (o :: rest) a w := by
  refine wpList_wanted hw fun K hK' => ?_
  have hrun : ∀ ts ty, (Builtin.min_ ts ty #[.float .f32 q, .float .f32 s]).run P w = .ok (.float .f32 (minV q s)) w := by
    intro ts ty
    unfold minV
    cases ho : FloatKind.f32.format.order q s with
    | none => rw [ho] at hn; cases hn
    | some r => cases r <;> simp [Builtin.min_, Builtin.min2, ho]
  unfold Oper.wp
  have hk := hK' _ _ h
  simp [execOp, ho, resolve, invoke, builtin, hx, hy, hrun, Result.andThen]
  exact hk
theorem wpList_fmaxV {x y : Operand} {t1 t2 : TypeId} (ho : o.op = .call { callee := .builtin .max, args := #[x, y], argTypes := #[t1, t2] }) (hw : Region.wanted o (yielded ops a.tmps) = true) {q s : Nat} (hx : a.eval x = .float .f32 q) (hy : a.eval y = .float .f32 s) (hn : (FloatKind.f32.format.order q s).isSome = true)
    (h : wpList P ops Q rest (a.put o.dst (.float .f32 (maxV q s))) w) : wpList P ops Q (o :: rest) a w := by
  refine wpList_wanted hw fun K hK' => ?_
  have hrun : ∀ ts ty, (Builtin.max_ ts ty #[.float .f32 q, .float .f32 s]).run P w = .ok (.float .f32 (maxV q s)) w := by
    intro ts ty
    unfold maxV
    cases ho : FloatKind.f32.format.order q s with
    | none => rw [ho] at hn; cases hn
    | some r => cases r <;> simp [Builtin.max_, Builtin.max2, ho]
  unfold Oper.wp
  have hk := hK' _ _ h
  simp [execOp, ho, resolve, invoke, builtin, hx, hy, hrun, Result.andThen]
  exact hk
end
theorem one_read : FloatKind.f32.format.read 1065353216 = .number false 8388608 (-23) := by decide
/-- what is equal to 1 is its word -/
theorem eq_one {b : Nat} (hn : nanW .f32 b = false) (hb : b < 4294967296) (h : FloatKind.f32.format.order b 1065353216 = some .eq) : b = 1065353216 := by
  have hS : FloatKind.f32.format.signWeight = 2147483648 := by decide
  have hB : FloatKind.f32.format.binade = 8388608 := by decide
  have hL : FloatKind.f32.format.leastPlace = -149 := by decide
  have hI : FloatKind.f32.format.infRung = 2139095040 := by decide
  have key : ∀ (s : Bool) (m : Nat) (e : Int), -149 ≤ e → FloatKind.f32.format.read b = .number s m e → s = false ∧ m * 2 ^ (e + 149).toNat = 8388608 * 2 ^ 126 := by
    intro s m e he hr
    have ho : FloatKind.f32.format.order b 1065353216 = some (compare (signed s m (e - -149).toNat) (signed false 8388608 (-23 - -149 : Int).toNat)) := by
      unfold Format.order; rw [hr, one_read]; exact order_num s false m 8388608 e (-23) (-149) he (by omega)
    rw [ho] at h
    have hc : signed s m (e - -149).toNat = signed false 8388608 (-23 - -149 : Int).toNat := by
      rcases Int.lt_trichotomy (signed s m (e - -149).toNat) (signed false 8388608 (-23 - -149 : Int).toNat) with g | g | g
      · rw [compare_lt g] at h; cases h
      · exact g
      · rw [compare_gt g] at h; cases h
    have e1 : (-23 - -149 : Int).toNat = 126 := by decide
    have e2 : (e - -149).toNat = (e + 149).toNat := by congr 1
    rw [e1, e2, signedV, signedV] at hc
    have p1 := Nat.two_pow_pos (e + 149).toNat
    generalize 2 ^ (e + 149).toNat = X at hc p1 ⊢
    have p2 : 0 < 2 ^ 126 := Nat.two_pow_pos _
    generalize 2 ^ 126 = Y at hc p2 ⊢
    generalize hmx : m * X = MX at hc ⊢
    cases s
    · refine ⟨rfl, ?_⟩
      simp at hc
      omega
    · exfalso
      simp at hc
      omega
  have hrd : FloatKind.f32.format.read b = (if b % 2147483648 < 8388608 then .number (b / 2147483648 % 2 == 1) (b % 2147483648) (-149)
      else if b % 2147483648 < 2139095040 then .number (b / 2147483648 % 2 == 1) (8388608 + b % 2147483648 % 8388608) (-149 + ((b % 2147483648 / 8388608 - 1 : Nat) : Int))
      else if b % 2147483648 = 2139095040 then .infinity (b / 2147483648 % 2 == 1) else .nan (b / 2147483648 % 2 == 1) (b % 2147483648 - 2139095040)) := by
    unfold Format.read; rw [hS, hB, hI, hL]
  by_cases hs : b % 2147483648 < 8388608
  · rw [if_pos hs] at hrd
    obtain ⟨_, h2⟩ := key _ _ _ (by omega) hrd
    exfalso
    have e0 : ((-149 : Int) + 149).toNat = 0 := by decide
    rw [e0] at h2
    have p2 : 1 < 2 ^ 126 := Nat.one_lt_two_pow (by omega)
    generalize 2 ^ 126 = Y at h2 p2
    omega
  · rw [if_neg hs] at hrd
    by_cases hl : b % 2147483648 < 2139095040
    · rw [if_pos hl] at hrd
      obtain ⟨h1, h2⟩ := key _ _ _ (by omega) hrd
      have hb2 : b < 2147483648 := by
        have h3 : ¬ (b / 2147483648 % 2 = 1) := by simpa using h1
        omega
      have hE : ((-149 + ((b % 2147483648 / 8388608 - 1 : Nat) : Int)) + 149 : Int).toNat = b % 2147483648 / 8388608 - 1 := by omega
      rw [hE] at h2
      have hE1 : 1 ≤ b % 2147483648 / 8388608 := by omega
      have hM : b % 2147483648 % 8388608 < 8388608 := Nat.mod_lt _ (by omega)
      have hdm := Nat.div_add_mod (b % 2147483648) 8388608
      generalize hEE : b % 2147483648 / 8388608 - 1 = E at h2
      generalize hMM : b % 2147483648 % 8388608 = M at h2 hM hdm
      rcases Nat.lt_trichotomy E 126 with g | g | g
      · exfalso
        have : (8388608 + M) * 2 ^ E < 8388608 * 2 ^ 126 := by
          have q1 : 2 ^ E * 2 ≤ 2 ^ 126 := by rw [← Nat.pow_succ]; exact Nat.pow_le_pow_right (by omega) (by omega)
          have q2 := Nat.two_pow_pos E
          generalize 2 ^ 126 = Y at q1 ⊢
          generalize 2 ^ E = X at q1 q2 ⊢
          have q3 : (8388608 + M) * X < (8388608 * 2) * X := Nat.mul_lt_mul_of_pos_right (by omega) q2
          have q4 : (8388608 * 2) * X = 8388608 * (X * 2) := by rw [Nat.mul_assoc, Nat.mul_comm 2 X]
          have q5 : 8388608 * (X * 2) ≤ 8388608 * Y := Nat.mul_le_mul_left _ q1
          omega
        omega
      · subst g
        have : 8388608 + M = 8388608 := Nat.eq_of_mul_eq_mul_right (Nat.two_pow_pos 126) h2
        omega
      · exfalso
        have : 8388608 * 2 ^ 126 < (8388608 + M) * 2 ^ E := by
          have q1 : 2 ^ 126 * 2 ≤ 2 ^ E := by rw [← Nat.pow_succ]; exact Nat.pow_le_pow_right (by omega) (by omega)
          have q2 := Nat.two_pow_pos 126
          generalize 2 ^ 126 = Y at q1 q2 ⊢
          generalize 2 ^ E = X at q1 ⊢
          have q3 : 8388608 * Y < 8388608 * (Y * 2) := by omega
          have q4 : 8388608 * (Y * 2) ≤ 8388608 * X := Nat.mul_le_mul_left _ q1
          have q5 : 8388608 * X ≤ (8388608 + M) * X := Nat.mul_le_mul_right _ (by omega)
          omega
        omega
    · exfalso
      rw [if_neg hl] at hrd
      have hle : b % 2147483648 ≤ 2139095040 := by
        unfold nanW at hn
        rw [hS, hI] at hn
        simpa using hn
      rw [if_pos (by omega)] at hrd
      unfold Format.order at h
      rw [hrd, one_read] at h
      revert h
      generalize (b / 2147483648 % 2 == 1) = z
      cases z <;> decide
/-- the lesser of a number and 1 -/
theorem min_one {b : Nat} (hn : nanW .f32 b = false) (hb : b < 4294967296) : (FloatKind.f32.format.order b 1065353216).isSome = true ∧ minV b 1065353216 = if fcmp .gtr (ford .f32 (cls .f32 b) (some 1065353216)) then 1065353216 else b := by
  have hc : cls .f32 b = some b := cls_num hn
  have e : ford .f32 (cls .f32 b) (some 1065353216) = FloatKind.f32.format.order b 1065353216 := by rw [hc]; rfl
  rw [e]
  have hs : (FloatKind.f32.format.order b 1065353216).isSome = true := by
    unfold Format.order
    rcases read32 b hn with ⟨s, hr⟩ | ⟨s, m, i, hr, _⟩
    · rw [hr, one_read]; rfl
    · rw [hr, one_read]; rfl
  refine ⟨hs, ?_⟩
  unfold minV
  cases ho : FloatKind.f32.format.order b 1065353216 with
  | none => rw [ho] at hs; cases hs
  | some r =>
    cases r
    · simp [fcmp]
    · have := eq_one hn hb ho
      subst this
      simp [fcmp]
    · simp [fcmp]
/-- the greater of a number and nothing -/
theorem max_zero {b : Nat} (hn : nanW .f32 b = false) (hb : b < 4294967296) : (FloatKind.f32.format.order b 0).isSome = true ∧ (if fcmp .lss (ford .f32 (cls .f32 b) (some 0)) then maxV b 0 = 0 else maxV b 0 = b ∨ (maxV b 0 = 0 ∧ (b = 0 ∨ b = 2147483648))) := by
  have hc : cls .f32 b = some b := cls_num hn
  have e : ford .f32 (cls .f32 b) (some 0) = FloatKind.f32.format.order b 0 := by rw [hc]; rfl
  rw [e]
  have hz : FloatKind.f32.format.read 0 = .number false 0 (-149) := by decide
  have hs : (FloatKind.f32.format.order b 0).isSome = true := by
    unfold Format.order
    rcases read32 b hn with ⟨s, hr⟩ | ⟨s, m, i, hr, _⟩
    · rw [hr, hz]; rfl
    · rw [hr, hz]; rfl
  refine ⟨hs, ?_⟩
  have ht := zero_test b hn
  unfold maxV
  cases ho : FloatKind.f32.format.order b 0 with
  | none => rw [ho] at hs; cases hs
  | some r =>
    rw [ho] at ht
    cases r
    · simp [fcmp]
    · have h0 : b % 2147483648 = 0 := by simpa using ht
      have hb2 : b = 0 ∨ b = 2147483648 := by omega
      rcases hb2 with rfl | rfl
      · simp [fcmp]
      · simp [fcmp]
        try decide
    · simp [fcmp]


/-- a soft ramp, of a share and of any number -/
def rampP (X : Option Nat) : Option Nat := fop .mul .f32 (fop .mul .f32 X X) (fop .sub .f32 (some 1077936128) (fop .mul .f32 (some 1073741824) X))
def rampC (X : Option Nat) : Option Nat := if fcmp .lss (ford .f32 X (some 0)) then some 0 else if fcmp .gtr (ford .f32 X (some 1065353216)) then some 1065353216 else rampP X
def rampR (X : Option Nat) : Option Nat × Bool := if fin32 X then (rampC X, true) else (some 0, false)
theorem ramp_zero : rampP (some 0) = some 0 := by kernel_rfl
theorem ramp_nzero : rampP (some 2147483648) = some 0 := by kernel_rfl
theorem ramp_one : rampP (some 1065353216) = some 1065353216 := by kernel_rfl
theorem fin_num {b : Nat} (h : fin32 (cls .f32 b) = true) : nanW .f32 b = false := by
  cases hn : nanW .f32 b
  · rfl
  · rw [cls_nan hn] at h; cases h
/-- between nothing and 1 first -/
theorem ramp_clamp {b : Nat} (hf : fin32 (cls .f32 b) = true) (hb : b < 4294967296) : (FloatKind.f32.format.order b 0).isSome = true ∧ (FloatKind.f32.format.order (maxV b 0) 1065353216).isSome = true ∧ rampP (cls .f32 (minV (maxV b 0) 1065353216)) = rampC (cls .f32 b) := by
  have hn := fin_num hf
  obtain ⟨h1, h2⟩ := max_zero hn hb
  unfold rampC
  have z0 : nanW .f32 0 = false := by decide
  obtain ⟨g1, g2⟩ := min_one z0 (by omega)
  have k0 : minV 0 1065353216 = 0 := by kernel_rfl
  have c0 : cls .f32 0 = some 0 := by decide
  refine ⟨h1, ?_⟩
  cases hl : fcmp .lss (ford .f32 (cls .f32 b) (some 0))
  · rw [hl] at h2
    simp only [Bool.false_eq_true, if_false] at h2 ⊢
    obtain ⟨q1, q2⟩ := min_one hn hb
    rcases h2 with h2 | ⟨h2, h3⟩
    · rw [h2]
      refine ⟨q1, ?_⟩
      rw [q2]
      cases hg : fcmp .gtr (ford .f32 (cls .f32 b) (some 1065353216))
      · simp
      · simp only [if_true]
        rw [show cls .f32 1065353216 = some 1065353216 from by decide, ramp_one]
    · rw [h2, k0]
      refine ⟨g1, ?_⟩
      rw [c0, ramp_zero]
      rcases h3 with rfl | rfl
      · rw [show cls .f32 0 = some 0 from by decide, show fcmp .gtr (ford .f32 (some 0) (some 1065353216)) = false from by decide, ramp_zero]; rfl
      · rw [show cls .f32 2147483648 = some 2147483648 from by decide, show fcmp .gtr (ford .f32 (some 2147483648) (some 1065353216)) = false from by decide, ramp_nzero]; rfl
  · rw [hl] at h2
    simp only [if_true] at h2 ⊢
    rw [h2, k0]
    exact ⟨g1, by rw [c0, ramp_zero]⟩
theorem rampOf_any (b : Nat) (w : World) : Calls Try.prog 124 #[.float .f32 b] w fun e w' => ∃ r, e = .returned (.float .f32 r) ∧ Is .f32 r (rampP (cls .f32 b)) ∧ ∃ m, w' = w.drewN m := by
  go_enter Try.func124, Try.ntmps124
  go_wp2_with (refine wpList_fa rfl rfl rfl rfl rfl (by first | assumption | exact is_const (by decide) | exact is_self _ _) (by first | assumption | exact is_const (by decide) | exact is_self _ _) ?_; intro r n hr hrw)
  go_ret
  refine ⟨_, rfl, ?_, _, rfl⟩
  unfold rampP
  assumption
set_option maxHeartbeats 2000000 in
theorem l06Ramp_any (b : Nat) (w : World) : Calls Try.prog 151 #[.float .f32 b] w fun e w' => ∃ r, e = .returned (.float .f32 r) ∧ Is .f32 r (rampC (cls .f32 b)) ∧ ∃ m, w' = w.drewN m := by
  unfold rampC
  cases h1 : fcmp .lss (ford .f32 (cls .f32 b) (some 0)) <;> cases h2 : fcmp .gtr (ford .f32 (cls .f32 b) (some 1065353216))
  all_goals
    go_enter Try.func151, Try.ntmps151
    go_wp2_with (first | (refine wpList_fcmp rfl rfl rfl rfl rfl (by first | assumption | exact is_const (by decide) | exact is_self _ _) (by first | assumption | exact is_const (by decide) | exact is_self _ _) ?_; first | rw [h1] | rw [h2]) | (refine wpList_fa rfl rfl rfl rfl rfl (by first | assumption | exact is_const (by decide) | exact is_self _ _) (by first | assumption | exact is_const (by decide) | exact is_self _ _) ?_; intro r n hr hrw))
    go_ret
    first
      | exact ⟨_, rfl, is_const (by decide), 0, rfl⟩
      | exact ⟨_, rfl, by first | assumption | (unfold rampP; assumption) | (simp only [Bool.false_eq_true, if_false, rampP]; assumption), _, rfl⟩
end Go.Proofs.Ythinjgiakaflpab
