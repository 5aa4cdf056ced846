/- Rounding to even, and small numbers. -/
import Derived.Test.YtpmjiabllmomjabQuo
import Derived.Test.YtpmjiabllmomjabTrunc
import Derived.Test.YtpmjiabllmomjabMinT
import Derived.Test.YtpmjiabllmomjabLogC
import Derived.Test.YtpmjiabllmomjabLog2
import Derived.Test.YtpmjiabllmomjabV12
import Derived.Test.YtpmjiabllmomjabNum2
import Derived.Test.YtpmjiabllmomjabBox
namespace Go.Proofs.Ytpmjiabllmomjab
open Go.RowKit Flt
set_option linter.unusedVariables false


open Ieee
/-- the class is that of a 32-bit number not greater than '2 ^ e' -/
def mag32 (x : Option Nat) (e : Int) : Prop := ∃ b s m i, x = some b ∧ FloatKind.f32.format.read b = .number s m i ∧ -149 ≤ i ∧ leP m i e
theorem near_mag32 (s : Bool) (m : Nat) (place e : Int) (h : leP m place e) (h0 : -149 ≤ e) (h1 : e ≤ 126) : mag32 (some (FloatKind.f32.format.nearest s m place)) e := by
  obtain ⟨m', i', g1, g2, _⟩ := near32 s m place e h h0 h1
  refine ⟨_, s, m', i', rfl, g1, ?_, g2⟩
  rcases read32 (FloatKind.f32.format.nearest s m place) (by rw [← read_nan, g1]; rfl) with ⟨s, hr⟩ | ⟨s, m3, e3, hr, _, hh, _⟩
  · rw [g1] at hr; cases hr
  · rw [g1] at hr; simp only [Datum.number.injEq] at hr; omega
theorem mag32_mono {x : Option Nat} {e e' : Int} (h : mag32 x e) (he : e ≤ e') : mag32 x e' := by
  obtain ⟨b, s, m, i, h1, h2, h3, h4⟩ := h
  exact ⟨b, s, m, i, h1, h2, h3, leP_mono h4 he⟩
theorem mag32_fin {x : Option Nat} {e : Int} (h : mag32 x e) : fin32 x = true := by
  obtain ⟨b, s, m, i, rfl, h2, _⟩ := h
  exact fin_of_read h2
theorem mag32_add {x y : Option Nat} {e f : Int} (hx : mag32 x e) (hy : mag32 y f) (h0 : -149 ≤ max e f + 1) (h1 : max e f + 1 ≤ 126) : mag32 (fop .add .f32 x y) (max e f + 1) := by
  obtain ⟨b, s, m, i, rfl, h2, _, h4⟩ := hx
  obtain ⟨c, t, n, j, rfl, g2, _, g4⟩ := hy
  obtain ⟨r, k, p, hs, hl⟩ := sum_le (s := s) (t := t) h4 g4
  have e1 : fop .add .f32 (some b) (some c) = some (FloatKind.f32.format.nearest r k p) := by
    simp only [fop, Option.bind_some, floatBits, Format.add, h2, g2, hs]; rfl
  rw [e1]
  exact near_mag32 r k p _ hl h0 h1
theorem mag32_mul {x y : Option Nat} {e f : Int} (hx : mag32 x e) (hy : mag32 y f) (h0 : -149 ≤ e + f) (h1 : e + f ≤ 126) : mag32 (fop .mul .f32 x y) (e + f) := by
  obtain ⟨b, s, m, i, rfl, h2, _, h4⟩ := hx
  obtain ⟨c, t, n, j, rfl, g2, _, g4⟩ := hy
  have e1 : fop .mul .f32 (some b) (some c) = some (FloatKind.f32.format.nearest (s ^^ t) (m * n) (i + j)) := by
    simp only [fop, Option.bind_some, floatBits, Format.mul, h2, g2]; rfl
  rw [e1]
  exact near_mag32 _ _ _ _ (leP_mul h4 g4) h0 h1
theorem mag32_num (c : Nat) (s : Bool) (m : Nat) (i e : Int) (h : FloatKind.f32.format.read c = .number s m i) (hi : -149 ≤ i) (hl : i ≤ e ∧ m ≤ 2 ^ (e - i).toNat) : mag32 (some c) e := ⟨c, s, m, i, rfl, h, hi, .inr hl⟩
theorem mag32_half : mag32 (some 1056964608) (-1) := mag32_num _ false (2 ^ 23) (-24) (-1) (by decide) (by omega) (by decide)
theorem mag32_quarter : mag32 (some 1048576000) (-2) := mag32_num _ false (2 ^ 23) (-25) (-2) (by decide) (by omega) (by decide)
theorem mag32_one : mag32 (some 1065353216) 0 := mag32_num _ false (2 ^ 23) (-23) 0 (by decide) (by omega) (by decide)

/-- rounded to the nearest integer, with ties to even -/
def roundW (b : Nat) : Nat := FloatKind.f64.encode ((FloatKind.f64.decode b).integral .even)
theorem round_mag {b : Nat} (h : magC (some b) 22) : magC (some (roundW b)) 22 := by
  obtain ⟨_, s, m, i, hb, h2, h3, h4⟩ := h
  cases hb
  obtain ⟨T, hT⟩ : ∃ T, T = Toward.even.cut s (m <<< i.toNat) (-i).toNat := ⟨_, rfl⟩
  have hTle : T ≤ 2 ^ 22 := by
    rw [hT]
    apply cut_le
    rw [Nat.shiftLeft_eq, ← Nat.pow_add]
    rcases h4 with h | ⟨h1, h2⟩
    · rw [h, Nat.zero_mul]; exact Nat.zero_le _
    · have e1 : 22 + (-i).toNat = (22 - i).toNat + i.toNat := by omega
      rw [e1, Nat.pow_add]
      exact Nat.mul_le_mul_right _ h2
  have e : roundW b = FloatKind.f64.format.nearest s T 0 := by
    unfold roundW FloatKind.decode FloatKind.encode
    rw [h2]
    simp only [Datum.integral, ← hT]; rfl
  rw [e]
  exact near_mag s T 0 22 (.inr ⟨by omega, by simpa using hTle⟩) (by omega) (by omega)
theorem to_int (b : Nat) (s : Bool) (m : Nat) (i : Int) (hr : FloatKind.f64.format.read b = .number s m i) (hle : leP m i 22) :
    ∃ n : Int, floatToIntVal .f64 b .i64 = some n ∧ -4194304 ≤ n ∧ n ≤ 4194304 := by
  obtain ⟨T, hT⟩ : ∃ T, T = m <<< i.toNat / 2 ^ (-i).toNat := ⟨_, rfl⟩
  have hTle : T ≤ 2 ^ 22 := by
    rw [hT]
    apply Nat.div_le_of_le_mul
    rw [Nat.shiftLeft_eq, Nat.mul_comm (2 ^ (-i).toNat), ← Nat.pow_add]
    rcases hle with h | ⟨h1, h2⟩
    · rw [h, Nat.zero_mul]; exact Nat.zero_le _
    · have e1 : 22 + (-i).toNat = (22 - i).toNat + i.toNat := by omega
      rw [e1, Nat.pow_add]
      exact Nat.mul_le_mul_right _ h2
  have h1 : (FloatKind.f64.decode b).toInt .zero = some (signed s T 0) := by
    unfold FloatKind.decode
    rw [hr]
    simp only [Datum.toInt, Datum.integral, cut_toward_zero, ← hT]
  have h2 : (signed s T 0).natAbs = T := by rw [signed_abs]; simp
  have h3 : (2 : Nat) ^ 22 = 4194304 := by decide
  rw [h3] at hTle
  refine ⟨signed s T 0, ?_, by omega, by omega⟩
  unfold floatToIntVal
  rw [h1]
  have h4 : IntKind.i64.min ≤ signed s T 0 ∧ signed s T 0 ≤ IntKind.i64.max := by
    have e1 : IntKind.i64.min = -9223372036854775808 := by decide
    have e2 : IntKind.i64.max = 9223372036854775807 := by decide
    rw [e1, e2]; omega
  show (if IntKind.i64.min ≤ signed s T 0 ∧ signed s T 0 ≤ IntKind.i64.max then some (signed s T 0) else none) = _
  rw [if_pos h4]
theorem round_int {b : Nat} (h : magC (some b) 22) : ∃ n : Int, floatToIntVal .f64 (roundW b) .i64 = some n ∧ -4194304 ≤ n ∧ n ≤ 4194304 := by
  obtain ⟨_, s, m, i, hb, h2, _, h4⟩ := round_mag h
  cases hb
  exact to_int _ s m i h2 h4
theorem mag_num64' {b : Nat} {e : Int} (h : magC (some b) e) : nanW .f64 b = false := by
  obtain ⟨_, s, m, i, hb, h2, _⟩ := h
  cases hb
  rw [← read_nan, h2]; rfl
theorem wide_mag32 {X : Option Nat} {e : Int} (h : mag32 X e) (h0 : -149 ≤ e) (h1 : e ≤ 126) : magC (fwide X) e := by
  obtain ⟨b, s, m, i, rfl, hr, hi, hl⟩ := h
  have e1 : fwide (some b) = some (FloatKind.f64.format.nearest s m i) := by
    show some (wide b) = _
    congr 1
    simp only [wide, FloatKind.decode, FloatKind.encode, hr]; rfl
  rw [e1]
  exact near_mag s m i e hl (by omega) (by omega)
theorem nar_mag32 {X : Option Nat} {e : Int} (h : magC X e) (h0 : -149 ≤ e) (h1 : e ≤ 126) : mag32 (fnar X) e := by
  obtain ⟨b, s, m, i, rfl, hr, _, hl⟩ := h
  have e1 : fnar (some b) = some (FloatKind.f32.format.nearest s m i) := by
    show some (nar b) = _
    have hr' : FloatKind.f64.decode b = .number s m i := hr
    simp [nar, hr']; rfl
  rw [e1]
  exact near_mag32 s m i e hl h0 h1
/-- a number that is greater than nothing -/
def posW (b : Nat) : Prop := ∃ m i, FloatKind.f32.format.read b = .number false m i ∧ m ≠ 0 ∧ -149 ≤ i
theorem pos_facts {b : Nat} (h : posW b) : cls .f32 b = some b ∧ fin32 (some b) = true ∧ fcmp .lss (ford .f32 (some b) (some 0)) = false ∧ fcmp .eql (ford .f32 (some b) (some 0)) = false := by
  obtain ⟨m, i, hr, hm, hi⟩ := h
  have ho : FloatKind.f32.format.order b 0 = some .gt := by
    unfold Ieee.Format.order
    rw [hr, show FloatKind.f32.format.read 0 = .number false 0 (-149) from by decide]
    rw [order_num false false m 0 i (-149) (-149) hi (by omega)]
    congr 1
    apply compare_gt
    unfold signed
    simp only [Bool.false_eq_true, if_false, Nat.shiftLeft_eq]
    have : 0 < m * 2 ^ (i - -149).toNat := Nat.mul_pos (Nat.pos_of_ne_zero hm) (Nat.two_pow_pos _)
    omega
  refine ⟨cls_num (by rw [← read_nan, hr]; rfl), fin_of_read hr, ?_, ?_⟩
  · show fcmp .lss (FloatKind.f32.format.order b 0) = false
    rw [ho]; rfl
  · show fcmp .eql (FloatKind.f32.format.order b 0) = false
    rw [ho]; rfl
/-- 1 and a number that is not negative -/
theorem one_plus {u m : Nat} {i : Int} (hr : FloatKind.f32.format.read u = .number false m i) (hi : -149 ≤ i) (hl : leP m i 8) : ∃ b, fop .add .f32 (some 1065353216) (some u) = some b ∧ posW b := by
  have h1 : FloatKind.f32.format.read 1065353216 = .number false 8388608 (-23) := by decide
  have hs := sum_pos 8388608 m (-23) i (by omega)
  have e1 : fop .add .f32 (some 1065353216) (some u) = some (FloatKind.f32.format.nearest false (8388608 * 2 ^ ((-23 : Int) - min (-23) i).toNat + m * 2 ^ (i - min (-23) i).toNat) (min (-23) i)) := by
    simp only [fop, Option.bind_some, floatBits, Format.add, h1, hr, hs]; rfl
  refine ⟨_, e1, ?_⟩
  generalize hB : min (-23 : Int) i = B
  have hB1 : B ≤ -23 := by omega
  have hB2 : B ≤ i := by omega
  have g1 : 8388608 * 2 ^ ((-23 : Int) - B).toNat = 2 ^ (0 - B).toNat := by
    have e : (8388608 : Nat) = 2 ^ 23 := by decide
    rw [e, ← Nat.pow_add]; congr 1; omega
  have g2 : m * 2 ^ (i - B).toNat ≤ 2 ^ (8 - B).toNat := by
    rcases hl with h | ⟨h2, h3⟩
    · rw [h, Nat.zero_mul]; exact Nat.zero_le _
    · have e : (8 - B).toNat = (8 - i).toNat + (i - B).toNat := by omega
      rw [e, Nat.pow_add]
      exact Nat.mul_le_mul_right _ h3
  rw [g1]
  have g3 : 2 ^ (0 - B).toNat + m * 2 ^ (i - B).toNat ≤ 2 ^ (9 - B).toNat := by
    have a1 : 2 ^ (0 - B).toNat ≤ 2 ^ (8 - B).toNat := Nat.pow_le_pow_right (by omega) (by omega)
    have a2 : 2 ^ (9 - B).toNat = 2 * 2 ^ (8 - B).toNat := by
      rw [show (9 - B).toNat = (8 - B).toNat + 1 by omega, Nat.pow_succ, Nat.mul_comm]
    omega
  obtain ⟨m', i', h2, h3, h4⟩ := near32 false _ B 9 (.inr ⟨by omega, g3⟩) (by omega) (by omega)
  have hne : 2 ^ (0 - B).toNat + m * 2 ^ (i - B).toNat ≠ 0 := by have := Nat.two_pow_pos (0 - B).toNat; omega
  have h5 := h4 hne 0 (by omega) ⟨hne, Nat.le_add_right _ _⟩
  refine ⟨m', i', h2, h5.1, ?_⟩
  rcases read32 _ (show nanW .f32 (FloatKind.f32.format.nearest false (2 ^ (0 - B).toNat + m * 2 ^ (i - B).toNat) B) = false by rw [← read_nan, h2]; rfl) with ⟨s, hr⟩ | ⟨s, m3, e3, hr, _, hh, _⟩
  · rw [h2] at hr; cases hr
  · rw [h2] at hr; simp only [Datum.number.injEq] at hr; omega

section
variable {P : Program} {w : World} {ops : Array Oper} {rest : List Oper} {o : Oper} {a : Act} {Q : Exit → Act → World → Prop}
/-- the call of the entry that rounds to even -/
theorem wpList_fround {f : FuncId} {fn : Func} {x : Tmp} {ts : Array TypeId} (hop : o.op = Op.call { callee := Callee.value (Operand.func f), args := #[.tmp x], argTypes := ts }) (hw : Region.wanted o (yielded ops a.tmps) = true)
    (hf : P.funcs[f]? = some fn) (hname : (fn.name == "runtime.NumGoroutine") = false) (hb : fn.body.isNone = true) (hn : Extern.findNext fn = none) (he : Extern.find fn = some (Extern.MathFloor.toIntegral "math.RoundToEven" .even))
    {b : Nat} (hx : a.eval (.tmp x) = .float .f64 b) (hX : nanW .f64 b = false)
    (hK : wpList P ops Q rest (a.put o.dst (.float .f64 (roundW b))) w) :
    wpList P ops Q (o :: rest) a w := by
  refine wpList_wanted hw fun K hK' => ?_
  have hrun : (Extern.MathFloor.toIntegral "math.RoundToEven" .even #[.float .f64 b]).run P w = .ok (.float .f64 (roundW b)) w := by
    have hr : ∀ s t, FloatKind.f64.decode b ≠ .nan s t := by
      intro s t hd
      rw [← read_nan] at hX
      have : FloatKind.f64.format.read b = .nan s t := hd
      rw [this] at hX; cases hX
    unfold roundW
    show Sem.run P (match FloatKind.f64.decode b with | .nan s t => (_ : Sem Value) | d => (pure (Value.float .f64 (FloatKind.f64.encode (d.integral .even))) : Sem Value)) w = _
    cases hd : FloatKind.f64.decode b with
    | nan s t => exact absurd hd (hr s t)
    | number s m i => rfl
    | infinity s => rfl
  have hk := hK' _ _ hK
  have hc := run_callFunc_extern hf hname hb hn he #[.float .f64 b] w
  rw [hrun] at hc
  unfold Oper.wp
  have hx' : (a.tmps[x]?).getD undef = .float .f64 b := by simpa [Act.eval] using hx
  simp [go_sem, execOp, hop, hx', hc]
  exact hk
/-- the lesser one of 1 and a number -/
def minW (t : Nat) : Nat := if FloatKind.f32.format.order 1065353216 t == some .lt then 1065353216 else t
theorem wpList_fmin1 {y : Operand} {t1 t2 : TypeId} (ho : o.op = .call { callee := .builtin .min, args := #[.const (.float .f32 1065353216), y], argTypes := #[t1, t2] }) (hw : Region.wanted o (yielded ops a.tmps) = true) {t : Nat} (hy : a.eval y = .float .f32 t) (hn : (FloatKind.f32.format.order 1065353216 t).isSome = true)
    (h : wpList P ops Q rest (a.put o.dst (.float .f32 (minW t))) w) : wpList P ops Q (o :: rest) a w := by
  refine wpList_wanted hw fun K hK' => ?_
  have hx : a.eval (.const (.float .f32 1065353216)) = .float .f32 1065353216 := rfl
  have hneg : (FloatKind.f32.decode 1065353216).neg = false := by decide
  have hrun : ∀ ts ty, (Builtin.min_ ts ty #[.float .f32 1065353216, .float .f32 t]).run P w = .ok (.float .f32 (minW t)) w := by
    intro ts ty
    unfold minW
    cases ho : FloatKind.f32.format.order 1065353216 t with
    | none => rw [ho] at hn; cases hn
    | some r => cases r <;> simp [Builtin.min_, Builtin.min2, ho, hneg]
  unfold Oper.wp
  have hk := hK' _ _ h
  simp [execOp, ho, resolve, invoke, builtin, hx, hy, hrun, Result.andThen]
  exact hk
end



open Ieee
set_option maxHeartbeats 1000000 in
set_option maxRecDepth 100000 in
theorem log_pos2 (a N M : Nat) (hN : N ≤ 200) (hM : M ≤ 200) (HST : Hid (stops (fwide (cls .f32 a)) N M)) (HF : Hid (fits (logC (fwide (cls .f32 a)) N M))) (hNo : (cls .f32 a).isNone = false) (hL : fcmp .lss (ford .f32 (cls .f32 a) (some 0)) = false) (hE : fcmp .eql (ford .f32 (cls .f32 a) (some 0)) = false) (hI : fin32 (cls .f32 a) = true) (w : World) :
    Calls Try.prog 58 #[.float .f32 a] w fun e w' => ∃ r, e = .returned (.float .f32 r) ∧ Is .f32 r (fnar (logC (fwide (cls .f32 a)) N M)) ∧ ∃ m, w' = w.drewN m := by
  have h0 : Is .f32 a (cls .f32 a) := rfl
  go_enter Try.func58, Try.ntmps58
  go_wp2_with (first | (go_at_call 118; refine (isNaN_any _ _).mono ?_; rintro e w' ⟨rfl, n, rfl⟩) | (go_at_call 56; refine (isFinite_any _ _).mono ?_; rintro e w' ⟨rfl, n, rfl⟩) | (refine wpList_fw rfl rfl Try.underlying22 Try.underlying29 rfl (by assumption) ?_; intro r n hr hrw) | (go_at_call 121; refine (wideLog_any _ _ N M (by assumption) HST hN hM _).mono ?_; rintro e w' ⟨r2, rfl, hr2, m2, rfl⟩) | (refine wpList_fn rfl rfl Try.underlying29 Try.underlying22 rfl (by first | assumption | exact is_const (by decide)) HF.out ?_; intro r n hr hrw) | (refine wpList_fcmp rfl rfl rfl rfl rfl (by first | assumption | exact is_const (by decide)) (by first | assumption | exact is_const (by decide)) ?_; try simp only [hL, hE]))
  go_ret
  exact ⟨_, rfl, hr, _, rfl⟩
set_option maxHeartbeats 1000000 in
set_option maxRecDepth 100000 in
theorem l01Log_of2 (a : Nat) (R : Option Nat) (hf : fits R) (HW : ∀ r w, Is .f64 r (fwide (cls .f32 a)) → Calls Try.prog 139 #[.float .f64 r] w fun e w' => ∃ r2, e = .returned (.float .f64 r2) ∧ Is .f64 r2 R ∧ ∃ m, w' = w.drewN m) (w : World) :
    Calls Try.prog 114 #[.float .f32 a] w fun e w' => ∃ r, e = .returned (.float .f32 r) ∧ Is .f32 r (fnar R) ∧ ∃ m, w' = w.drewN m := by
  have h0 : Is .f32 a (cls .f32 a) := rfl
  have HF : Hid (fits R) := hf
  go_enter Try.func114, Try.ntmps114
  go_wp2_with (first | (refine wpList_fw rfl rfl Try.underlying22 Try.underlying29 rfl (by assumption) ?_; intro r n hr hrw) | (go_at_call 139; refine (HW _ _ (by assumption)).mono ?_; rintro e w' ⟨r2, rfl, hr2, m2, rfl⟩) | (go_at_call 138; refine (narrow_any _ _ (by assumption) HF _).mono ?_; rintro e w' ⟨r3, rfl, hr3, m3, rfl⟩))
  go_ret
  exact ⟨_, rfl, hr3, _, rfl⟩
theorem log_pair {b : Nat} (hp : posW b) : ∃ R, mag32 R 15 ∧ (∀ w, Calls Try.prog 58 #[.float .f32 b] w fun e w' => ∃ r, e = .returned (.float .f32 r) ∧ Is .f32 r R ∧ ∃ m, w' = w.drewN m) ∧
    (∀ w, Calls Try.prog 114 #[.float .f32 b] w fun e w' => ∃ r, e = .returned (.float .f32 r) ∧ Is .f32 r R ∧ ∃ m, w' = w.drewN m) := by
  obtain ⟨hc, hI, hL, hE⟩ := pos_facts hp
  rw [← hc] at hI hL hE
  have hN : (cls .f32 b).isNone = false := by rw [hc]; rfl
  have ef := ford_wide0 (cls .f32 b) (cls_ok .f32 b)
  have hnum := isNum_wide hI (cls_ok .f32 b)
  have hself := self_eq hnum
  have hrg := pos_rg hI (cls_ok .f32 b) (by rw [ef]; exact hL) (by rw [ef]; exact hE)
  obtain ⟨N, M, h1, h2, h3, h4⟩ := stops_ex _ hrg
  have hmag : magC (logC (fwide (cls .f32 b)) N M) 15 := mag_logTail h4 _ (by omega)
  have hfit : fits (logC (fwide (cls .f32 b)) N M) := fits_of_mag hmag (by omega)
  refine ⟨_, nar_mag32 hmag (by omega) (by omega), log_pos2 b N M h1 (by omega) h3 hfit hN hL hE hI, l01Log_of2 b _ hfit fun r w hr => ?_⟩
  exact l01LogWide_any r _ N M hr h3 h1 (by omega) hself (by rw [ef]; exact hL) (by rw [ef]; exact hE) (rg_max hrg) w



open Ieee
theorem mag32_quo {X : Option Nat} {c n : Nat} {j e f : Int} (hx : mag32 X e) (hr : FloatKind.f32.format.read c = .number false n j) (hg : geP n j f) (h0 : -149 ≤ e - f) (h1 : e - f ≤ 126) : mag32 (fop .quo .f32 X (some c)) (e - f) := by
  obtain ⟨b, s, m, i, rfl, h2, _, h4⟩ := hx
  obtain ⟨r, k, p, hs, hl⟩ := quot_le (s := s) (t := false) h4 hg (FloatKind.f32.format.fractionBits + 2)
  have e1 : fop .quo .f32 (some b) (some c) = some (FloatKind.f32.format.nearest r k p) := by
    simp only [fop, Option.bind_some, floatBits, Format.div, h2, hr, hs, Option.map_some]; rfl
  rw [e1]
  exact near_mag32 r k p _ hl h0 h1
theorem signed_pos (m k : Nat) : signed false m k = ((m * 2 ^ k : Nat) : Int) := by unfold signed; rw [Nat.shiftLeft_eq]; rfl
/-- the size of a finite number, at most 1 -/
theorem min_one {x : Nat} (hf : fin32 (cls .f32 x) = true) : (FloatKind.f32.format.order 1065353216 (x % 2147483648)).isSome = true ∧ ∃ m i, FloatKind.f32.format.read (minW (x % 2147483648)) = .number false m i ∧ -149 ≤ i ∧ leP m i 0 := by
  obtain ⟨_, s, m, e, hr, h1, h2, h3⟩ := fin_read hf
  have e1 : FloatKind.f32.format.read 1065353216 = .number false 8388608 (-23) := by decide
  have e2 : FloatKind.f32.format.read (x % 2147483648) = .number false m e := by rw [read_abs32, hr]; rfl
  have ho : FloatKind.f32.format.order 1065353216 (x % 2147483648) = some (compare (signed false 8388608 (-23 - -149 : Int).toNat) (signed false m (e - -149).toNat)) := by
    unfold Ieee.Format.order; rw [e1, e2]; exact order_num false false 8388608 m (-23) e (-149) (by omega) h2
  refine ⟨by rw [ho]; rfl, ?_⟩
  unfold minW
  cases hc : (FloatKind.f32.format.order 1065353216 (x % 2147483648) == some .lt)
  · rw [if_neg (by simp)]
    refine ⟨m, e, e2, h2, ?_⟩
    by_cases h0 : m = 0
    · exact .inl h0
    · right
      rw [ho] at hc
      have hle : m * 2 ^ (e - -149).toNat ≤ 8388608 * 2 ^ (-23 - -149 : Int).toNat := by
        apply Nat.le_of_not_lt
        intro hlt
        have : compare (signed false 8388608 (-23 - -149 : Int).toNat) (signed false m (e - -149).toNat) = .lt := by
          rw [signed_pos, signed_pos]
          exact Int.compare_eq_lt.2 (Int.ofNat_lt.2 hlt)
        rw [this] at hc
        cases hc
      have e3 : 8388608 * 2 ^ (-23 - -149 : Int).toNat = 2 ^ 149 := by decide
      rw [e3] at hle
      have g1 : 2 ^ (e - -149).toNat ≤ 2 ^ 149 := Nat.le_trans (Nat.le_mul_of_pos_left _ (Nat.pos_of_ne_zero h0)) hle
      have g2 : (e - -149).toNat ≤ 149 := (Nat.pow_le_pow_iff_right (by omega)).1 g1
      refine ⟨by omega, ?_⟩
      have e4 : 149 = (0 - e).toNat + (e - -149).toNat := by omega
      rw [e4, Nat.pow_add] at hle
      exact Nat.le_of_mul_le_mul_right hle (Nat.two_pow_pos _)
  · rw [if_pos rfl]
    exact ⟨8388608, -23, e1, by omega, .inr ⟨by omega, by decide⟩⟩
theorem mul_255 {A m : Nat} {i : Int} (hr : FloatKind.f32.format.read A = .number false m i) (hl : leP m i 0) : ∃ u m' i', fop .mul .f32 (some 1132396544) (some A) = some u ∧ FloatKind.f32.format.read u = .number false m' i' ∧ -149 ≤ i' ∧ leP m' i' 8 := by
  have h1 : FloatKind.f32.format.read 1132396544 = .number false 16711680 (-16) := by decide
  have e1 : fop .mul .f32 (some 1132396544) (some A) = some (FloatKind.f32.format.nearest (false ^^ false) (16711680 * m) (-16 + i)) := by
    simp only [fop, Option.bind_some, floatBits, Format.mul, h1, hr]; rfl
  have hl8 : leP 16711680 (-16) 8 := .inr ⟨by omega, by decide⟩
  have h2 := leP_mul hl8 hl
  obtain ⟨m', i', g1, g2, _⟩ := near32 (false ^^ false) (16711680 * m) (-16 + i) (8 + 0) h2 (by omega) (by omega)
  refine ⟨_, m', i', e1, g1, ?_, by simpa using g2⟩
  rcases read32 _ (show nanW .f32 (FloatKind.f32.format.nearest (false ^^ false) (16711680 * m) (-16 + i)) = false by rw [← read_nan, g1]; rfl) with ⟨s, hr⟩ | ⟨s, m3, e3, hr, _, hh, _⟩
  · rw [g1] at hr; cases hr
  · rw [g1] at hr; simp only [Datum.number.injEq] at hr; omega
section
variable {P : Program} {w : World} {ops : Array Oper} {rest : List Oper} {o : Oper} {a : Act} {Q : Exit → Act → World → Prop}
theorem wpList_conv5 {src dst : TypeId} {x : Operand} (hop : o.op = Op.convert src dst x) (hw : Region.wanted o (yielded ops a.tmps) = true) {v0 v : Value} (hx : a.eval x = v0) (hrun : ∀ w : World, (convert src dst v0).run P w = .ok v w)
    (hK : wpList P ops Q rest (a.put o.dst v) w) : wpList P ops Q (o :: rest) a w := by
  refine wpList_wanted hw fun K hK' => ?_
  have hk := hK' _ _ hK
  unfold Oper.wp
  simp [execOp, hop, hx, hrun]
  exact hk
end

set_option maxHeartbeats 4000000 in
set_option maxRecDepth 100000 in
theorem code_both {x : Nat} (hwx : x < 4294967296) (hf : fin32 (cls .f32 x) = true) : ∃ C : Int, (∀ w, Calls Try.prog 14 #[.float .f32 x] w fun e w' => e = .returned (.tuple #[.int .i64 C, .bool true]) ∧ ∃ m, w' = w.drewN m) ∧
    (∀ w, Calls Try.prog 55 #[.float .f32 x] w fun e w' => e = .returned (.int .i64 C) ∧ ∃ m, w' = w.drewN m) := by
  have HCX := hid (fin_read hf).1
  have HN1 := hid (abs_nar x hf)
  have HFT := hid (abs_fits x hf)
  obtain ⟨hos, mA, iA, hrA, hiA, hlA⟩ := min_one hf
  obtain ⟨S, hS⟩ : ∃ S, x % 2147483648 = S := ⟨_, rfl⟩
  rw [hS] at HN1 hos hrA
  have HSA := hid hS
  obtain ⟨A, hA⟩ : ∃ A, minW S = A := ⟨_, rfl⟩
  rw [hA] at hrA
  obtain ⟨u, mu, iu, hu, hru, hiu, hlu⟩ := mul_255 hrA hlA
  obtain ⟨v, hv, hpv⟩ := one_plus hru hiu hlu
  obtain ⟨R, hR, HLI, HLS⟩ := log_pair hpv
  have hY := mag32_quo (c := 1085370904) (n := 11629080) (j := -21) (f := 2) hR (by decide) ⟨by decide, by decide⟩ (by omega) (by omega)
  have h127 : mag32 (some 1123942400) 7 := mag32_num _ false 16646144 (-17) 7 (by decide) (by omega) (by decide)
  have hP := mag32_mul h127 hY (by omega) (by omega)
  have hZ := wide_mag32 hP (by omega) (by omega)
  obtain ⟨z, hz⟩ : ∃ z, fwide (fop .mul .f32 (some 1123942400) (fop .quo .f32 R (some 1085370904))) = some z := by obtain ⟨b, _, _, _, hb, _⟩ := hZ; exact ⟨b, hb⟩
  rw [hz] at hZ
  have HNZ := hid (mag_num64' hZ)
  obtain ⟨N, hN, hN1, hN2⟩ := round_int (magC_mono hZ (by omega))
  have HCV := hid (fun w : World => run_convert_float_int w 29 2 .f64 .i64 (roundW z) N (by rw [Try.underlying29]; rfl) Try.underlying2 hN)
  have HOS := hid hos
  have HA := hid hA
  have HAC := hid (show Is .f32 A (some A) from cls_num (by rw [← read_nan, hrA]; rfl))
  have HU := hid hu
  have HUC := hid (show Is .f32 u (some u) from cls_num (by rw [← read_nan, hru]; rfl))
  have HV := hid hv
  have HLI := hid HLI
  have HLS := hid HLS
  have HZ := hid hz
  have HF := hid hf
  have HWX := hid hwx
  clear hos hrA hiA hlA hru hiu hlu hpv hR hY h127 hP hZ hN hf hwx hS hA hu hv hz
  refine ⟨if fcmp .lss (ford .f32 (cls .f32 x) (some 0)) then 128 - N else 128 + N, fun w => ?_, fun w => ?_⟩
  · cases hs : fcmp .lss (ford .f32 (cls .f32 x) (some 0))
    · have hq : (if (false : Bool) = true then (128 : Int) - N else 128 + N) = 128 + N := rfl
      rw [hq]
      go_enter Try.func14, Try.ntmps14
      go_wp2_with (first | (go_at_call 56; with_reducible refine (isFinite_any x _).mono ?_; rintro e w' ⟨rfl, m2, rfl⟩; rw [HF.out]) | (refine wpList_fw rfl rfl Try.underlying22 Try.underlying29 rfl (is_self .f32 x) ?_; intro r0 q0 hr0 hrw0; rw [HCX.out] at hr0; have e0 := cls_word hr0.out; subst e0) | (go_at_call 57; refine (abs_any _ hrw0 _).mono ?_; rintro e w' ⟨rfl, rfl⟩) | (refine wpList_fn rfl rfl Try.underlying29 Try.underlying22 rfl (show Is .f64 _ (some (absW (wide x))) from cls_num HN1.out.2) HFT.out ?_; intro r3 m3 hr3 hrw3; have e3 := cls_word (hr3.out.trans (show fnar (some (absW (wide x))) = some S from by simp only [fnar, Option.map_some, HN1.out.1])); subst e3) | (refine wpList_fmin1 rfl rfl rfl HOS.out ?_; rw [HA.out]) | (refine wpList_fa (op := .mul) rfl rfl rfl rfl rfl (is_const (c := 1132396544) (by decide)) HAC.out ?_; intro r5 m5 hr5 hrw5; rw [HU.out] at hr5; have e5 := cls_word hr5.out; subst e5) | (refine wpList_fa (op := .add) rfl rfl rfl rfl rfl (is_const (c := 1065353216) (by decide)) HUC.out ?_; intro r6 m6 hr6 hrw6; rw [HV.out] at hr6; have e6 := cls_word hr6.out; subst e6) | (go_at_call 58; refine (HLI.out _).mono ?_; rintro e w' ⟨r7, rfl, hr7, m7, rfl⟩) | (refine wpList_fa (op := .quo) rfl rfl rfl rfl rfl hr7 (is_const (by decide)) ?_; intro r8 m8 hr8 hrw8) | (refine wpList_fa (op := .mul) rfl rfl rfl rfl rfl (is_const (c := 1123942400) (by decide)) hr8 ?_; intro r9 m9 hr9 hrw9) | (refine wpList_fw rfl rfl Try.underlying22 Try.underlying29 rfl hr9 ?_; intro r10 m10 hr10 hrw10; rw [HZ.out] at hr10; have e10 := cls_word hr10.out; subst e10) | (refine wpList_fround (f := 59) (fn := Try.f59) rfl rfl Try.func59 (by kernel_rfl) (by kernel_rfl) (by kernel_rfl) (by kernel_rfl) rfl HNZ.out ?_) | (refine wpList_conv5 rfl rfl rfl HCV.out ?_) | (refine wpList_fcmp rfl rfl rfl rfl rfl (is_self .f32 x) (is_const (by decide)) ?_; rw [hs]))
      go_returns
      exact ⟨rfl, _, rfl⟩
    · have hq : (if (true : Bool) = true then (128 : Int) - N else 128 + N) = 128 - N := rfl
      have hq2 : (128 : Int) + -N = 128 - N := by omega
      rw [hq]
      go_enter Try.func14, Try.ntmps14
      go_wp2_with (first | (go_at_call 56; with_reducible refine (isFinite_any x _).mono ?_; rintro e w' ⟨rfl, m2, rfl⟩; rw [HF.out]) | (refine wpList_fw rfl rfl Try.underlying22 Try.underlying29 rfl (is_self .f32 x) ?_; intro r0 q0 hr0 hrw0; rw [HCX.out] at hr0; have e0 := cls_word hr0.out; subst e0) | (go_at_call 57; refine (abs_any _ hrw0 _).mono ?_; rintro e w' ⟨rfl, rfl⟩) | (refine wpList_fn rfl rfl Try.underlying29 Try.underlying22 rfl (show Is .f64 _ (some (absW (wide x))) from cls_num HN1.out.2) HFT.out ?_; intro r3 m3 hr3 hrw3; have e3 := cls_word (hr3.out.trans (show fnar (some (absW (wide x))) = some S from by simp only [fnar, Option.map_some, HN1.out.1])); subst e3) | (refine wpList_fmin1 rfl rfl rfl HOS.out ?_; rw [HA.out]) | (refine wpList_fa (op := .mul) rfl rfl rfl rfl rfl (is_const (c := 1132396544) (by decide)) HAC.out ?_; intro r5 m5 hr5 hrw5; rw [HU.out] at hr5; have e5 := cls_word hr5.out; subst e5) | (refine wpList_fa (op := .add) rfl rfl rfl rfl rfl (is_const (c := 1065353216) (by decide)) HUC.out ?_; intro r6 m6 hr6 hrw6; rw [HV.out] at hr6; have e6 := cls_word hr6.out; subst e6) | (go_at_call 58; refine (HLI.out _).mono ?_; rintro e w' ⟨r7, rfl, hr7, m7, rfl⟩) | (refine wpList_fa (op := .quo) rfl rfl rfl rfl rfl hr7 (is_const (by decide)) ?_; intro r8 m8 hr8 hrw8) | (refine wpList_fa (op := .mul) rfl rfl rfl rfl rfl (is_const (c := 1123942400) (by decide)) hr8 ?_; intro r9 m9 hr9 hrw9) | (refine wpList_fw rfl rfl Try.underlying22 Try.underlying29 rfl hr9 ?_; intro r10 m10 hr10 hrw10; rw [HZ.out] at hr10; have e10 := cls_word hr10.out; subst e10) | (refine wpList_fround (f := 59) (fn := Try.f59) rfl rfl Try.func59 (by kernel_rfl) (by kernel_rfl) (by kernel_rfl) (by kernel_rfl) rfl HNZ.out ?_) | (refine wpList_conv5 rfl rfl rfl HCV.out ?_) | (refine wpList_fcmp rfl rfl rfl rfl rfl (is_self .f32 x) (is_const (by decide)) ?_; rw [hs]))
      go_returns
      exact ⟨by first | rfl | (rw [← hq2]; rfl), _, rfl⟩
  · cases hs : fcmp .lss (ford .f32 (cls .f32 x) (some 0))
    · have hq : (if (false : Bool) = true then (128 : Int) - N else 128 + N) = 128 + N := rfl
      rw [hq]
      go_enter Try.func55, Try.ntmps55
      go_wp2_with (first | (go_at_call 67; refine (l03Size_is x _ HWX.out HF.out HSA.out _).mono ?_; rintro e w' ⟨rfl, m3, rfl⟩) | (refine wpList_fmin1 rfl rfl rfl HOS.out ?_; rw [HA.out]) | (refine wpList_fa (op := .mul) rfl rfl rfl rfl rfl (is_const (c := 1132396544) (by decide)) HAC.out ?_; intro r5 m5 hr5 hrw5; rw [HU.out] at hr5; have e5 := cls_word hr5.out; subst e5) | (refine wpList_fa (op := .add) rfl rfl rfl rfl rfl (is_const (c := 1065353216) (by decide)) HUC.out ?_; intro r6 m6 hr6 hrw6; rw [HV.out] at hr6; have e6 := cls_word hr6.out; subst e6) | (go_at_call 114; refine (HLS.out _).mono ?_; rintro e w' ⟨r7, rfl, hr7, m7, rfl⟩) | (refine wpList_fa (op := .quo) rfl rfl rfl rfl rfl hr7 (is_const (by decide)) ?_; intro r8 m8 hr8 hrw8) | (refine wpList_fa (op := .mul) rfl rfl rfl rfl rfl (is_const (c := 1123942400) (by decide)) hr8 ?_; intro r9 m9 hr9 hrw9) | (refine wpList_fw rfl rfl Try.underlying22 Try.underlying29 rfl hr9 ?_; intro r10 m10 hr10 hrw10; rw [HZ.out] at hr10; have e10 := cls_word hr10.out; subst e10) | (refine wpList_fround (f := 59) (fn := Try.f59) rfl rfl Try.func59 (by kernel_rfl) (by kernel_rfl) (by kernel_rfl) (by kernel_rfl) rfl HNZ.out ?_) | (refine wpList_conv5 rfl rfl rfl HCV.out ?_) | (refine wpList_fcmp rfl rfl rfl rfl rfl (is_self .f32 x) (is_const (by decide)) ?_; rw [hs]))
      go_ret
      exact ⟨rfl, _, rfl⟩
    · have hq : (if (true : Bool) = true then (128 : Int) - N else 128 + N) = 128 - N := rfl
      rw [hq]
      go_enter Try.func55, Try.ntmps55
      go_wp2_with (first | (go_at_call 67; refine (l03Size_is x _ HWX.out HF.out HSA.out _).mono ?_; rintro e w' ⟨rfl, m3, rfl⟩) | (refine wpList_fmin1 rfl rfl rfl HOS.out ?_; rw [HA.out]) | (refine wpList_fa (op := .mul) rfl rfl rfl rfl rfl (is_const (c := 1132396544) (by decide)) HAC.out ?_; intro r5 m5 hr5 hrw5; rw [HU.out] at hr5; have e5 := cls_word hr5.out; subst e5) | (refine wpList_fa (op := .add) rfl rfl rfl rfl rfl (is_const (c := 1065353216) (by decide)) HUC.out ?_; intro r6 m6 hr6 hrw6; rw [HV.out] at hr6; have e6 := cls_word hr6.out; subst e6) | (go_at_call 114; refine (HLS.out _).mono ?_; rintro e w' ⟨r7, rfl, hr7, m7, rfl⟩) | (refine wpList_fa (op := .quo) rfl rfl rfl rfl rfl hr7 (is_const (by decide)) ?_; intro r8 m8 hr8 hrw8) | (refine wpList_fa (op := .mul) rfl rfl rfl rfl rfl (is_const (c := 1123942400) (by decide)) hr8 ?_; intro r9 m9 hr9 hrw9) | (refine wpList_fw rfl rfl Try.underlying22 Try.underlying29 rfl hr9 ?_; intro r10 m10 hr10 hrw10; rw [HZ.out] at hr10; have e10 := cls_word hr10.out; subst e10) | (refine wpList_fround (f := 59) (fn := Try.f59) rfl rfl Try.func59 (by kernel_rfl) (by kernel_rfl) (by kernel_rfl) (by kernel_rfl) rfl HNZ.out ?_) | (refine wpList_conv5 rfl rfl rfl HCV.out ?_) | (refine wpList_fcmp rfl rfl rfl rfl rfl (is_self .f32 x) (is_const (by decide)) ?_; rw [hs]))
      go_ret
      exact ⟨rfl, _, rfl⟩



/-- the code of a number -/
noncomputable def codeZ (x : Nat) : Int := open Classical in if h : x < 4294967296 ∧ fin32 (cls .f32 x) = true then Classical.choose (code_both h.1 h.2) else 0
theorem codeOf_yes {x : Nat} (hwx : x < 4294967296) (hf : fin32 (cls .f32 x) = true) (w : World) : Calls Try.prog 14 #[.float .f32 x] w fun e w' => e = .returned (.tuple #[.int .i64 (codeZ x), .bool true]) ∧ ∃ m, w' = w.drewN m := by
  unfold codeZ
  rw [dif_pos ⟨hwx, hf⟩]
  exact (Classical.choose_spec (code_both hwx hf)).1 w
theorem l05Code_yes {x : Nat} (hwx : x < 4294967296) (hf : fin32 (cls .f32 x) = true) (w : World) : Calls Try.prog 55 #[.float .f32 x] w fun e w' => e = .returned (.int .i64 (codeZ x)) ∧ ∃ m, w' = w.drewN m := by
  unfold codeZ
  rw [dif_pos ⟨hwx, hf⟩]
  exact (Classical.choose_spec (code_both hwx hf)).2 w
noncomputable def codeR (x : Nat) : Int × Bool := if fin32 (cls .f32 x) then (codeZ x, true) else (0, false)
theorem codeOf_any (x : Nat) (I : Int) (O : Bool) (w : World) (hwx : x < 4294967296) (hR : codeR x = (I, O)) : Calls Try.prog 14 #[.float .f32 x] w fun e w' => e = .returned (.tuple #[.int .i64 I, .bool O]) ∧ Ext w w' := by
  cases hf : fin32 (cls .f32 x)
  · have e : O = false ∧ I = 0 := by unfold codeR at hR; rw [hf] at hR; simpa [eq_comm, and_comm] using hR
    obtain ⟨rfl, rfl⟩ := e
    go_enter Try.func14, Try.ntmps14
    go_wp2_with (go_at_call 56; with_reducible refine (isFinite_any x _).mono ?_; rintro e w' ⟨rfl, m2, rfl⟩; rw [hf])
    go_returns
    refine ⟨rfl, ?_⟩
    (repeat with_reducible (first | exact Ext.refl _ | exact ext_alloc _ _ | refine Ext.drewN ?_ _ | refine Ext.drew1 ?_ | refine Ext.set ?_ (by dsimp only; omega) _ | refine Ext.alloc ?_ _))
  · have e : O = true ∧ I = codeZ x := by unfold codeR at hR; rw [hf] at hR; simpa [eq_comm, and_comm] using hR
    obtain ⟨rfl, rfl⟩ := e
    refine (codeOf_yes hwx hf w).mono ?_
    rintro e w' ⟨rfl, m, rfl⟩
    exact ⟨rfl, Ext.drewN (Ext.refl _) _⟩
theorem sCodeOf_any (x : Nat) (I : Int) (O : Bool) (w : World) (hwx : x < 4294967296) (hR : codeR x = (I, O)) : Calls Try.prog 13 #[.float .f32 x] w fun e w' => e = .returned (.tuple #[.int .i64 I, .bool O]) ∧ Ext w w' := by
  cases hf : fin32 (cls .f32 x)
  · have e : O = false ∧ I = 0 := by unfold codeR at hR; rw [hf] at hR; simpa [eq_comm, and_comm] using hR
    obtain ⟨rfl, rfl⟩ := e
    go_enter Try.func13, Try.ntmps13
    go_wp2_with (go_at_call 54; with_reducible refine (l01Finite_any x _).mono ?_; rintro e w' ⟨rfl, m2, rfl⟩; rw [hf])
    go_returns
    refine ⟨rfl, ?_⟩
    (repeat with_reducible (first | exact Ext.refl _ | exact ext_alloc _ _ | refine Ext.drewN ?_ _ | refine Ext.drew1 ?_ | refine Ext.set ?_ (by dsimp only; omega) _ | refine Ext.alloc ?_ _))
  · have e : O = true ∧ I = codeZ x := by unfold codeR at hR; rw [hf] at hR; simpa [eq_comm, and_comm] using hR
    obtain ⟨rfl, rfl⟩ := e
    have HWX := hid hwx
    have HF := hid hf
    clear hR hwx
    go_enter Try.func13, Try.ntmps13
    go_wp2_with (first | (go_at_call 54; with_reducible refine (l01Finite_any x _).mono ?_; rintro e w' ⟨rfl, m2, rfl⟩; rw [hf]) | (go_at_call 55; refine (l05Code_yes HWX.out HF.out _).mono ?_; rintro e w' ⟨rfl, m3, rfl⟩))
    go_returns
    refine ⟨rfl, ?_⟩
    (repeat with_reducible (first | exact Ext.refl _ | exact ext_alloc _ _ | refine Ext.drewN ?_ _ | refine Ext.drew1 ?_ | refine Ext.set ?_ (by dsimp only; omega) _ | refine Ext.alloc ?_ _))

end Go.Proofs.Ytpmjiabllmomjab
