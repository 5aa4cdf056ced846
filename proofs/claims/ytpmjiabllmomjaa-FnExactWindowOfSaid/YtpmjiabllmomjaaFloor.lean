/- Rounding down, on classes. -/
import Derived.Test.YtpmjiabllmomjaaSineC
import Derived.Test.YtpmjiabllmomjaaIs
namespace Go.Proofs.Ytpmjiabllmomjaa.Flt
open Ieee Go.RowKit

/-- the word that rounding down gives -/
def floorW (b : Nat) : Nat := FloatKind.f64.encode ((FloatKind.f64.decode b).integral .down)

theorem down_le (neg : Bool) (n drop N : Nat) (h : n ≤ N * 2 ^ drop) : Toward.down.cut neg n drop ≤ N := by
  unfold Toward.cut
  dsimp only
  by_cases hd : drop ≤ n.log2 + 2
  · rw [Nat.min_eq_left hd, Nat.one_shiftLeft]
    have hp : 0 < 2 ^ drop := Nat.two_pow_pos _
    have h1 : n / 2 ^ drop ≤ N := Nat.div_le_of_le_mul (by rw [Nat.mul_comm]; exact h)
    have hc : ∀ c : Bool, c.toNat ≤ 1 := by intro c; cases c <;> decide
    rcases Nat.lt_or_eq_of_le h1 with h2 | h2
    · have := hc (neg && n % 2 ^ drop != 0)
      omega
    · have h3 : n % 2 ^ drop = 0 := by
        have := Nat.div_add_mod n (2 ^ drop)
        rw [h2, Nat.mul_comm] at this
        omega
      rw [h3]
      simp; omega
  · have hd' : n.log2 + 2 ≤ drop := by omega
    rw [Nat.min_eq_right hd', Nat.one_shiftLeft]
    have h1 : n < 2 ^ (n.log2 + 1) := Nat.lt_log2_self
    have h2 : 2 ^ (n.log2 + 2) = 2 * 2 ^ (n.log2 + 1) := by rw [Nat.pow_succ 2 (n.log2 + 1), Nat.mul_comm]
    rw [h2]
    generalize 2 ^ (n.log2 + 1) = G at h1
    have e0 : n / (2 * G) = 0 := Nat.div_eq_of_lt (by omega)
    have e1 : n % (2 * G) = n := Nat.mod_eq_of_lt (by omega)
    rw [e0, e1]
    by_cases hn : n = 0
    · subst hn; simp
    · have hN : 1 ≤ N := by
        rcases Nat.eq_zero_or_pos N with h0 | h0
        · subst h0; rw [Nat.zero_mul] at h; omega
        · exact h0
      have hc : ∀ c : Bool, c.toNat ≤ 1 := by intro c; cases c <;> decide
      have := hc (neg && n != 0)
      omega

theorem floor_mag {b : Nat} (h : magC (some b) 22) : magC (some (floorW b)) 22 := by
  obtain ⟨_, s, m, i, hb, h2, h3, h4⟩ := h
  cases hb
  obtain ⟨T, hT⟩ : ∃ T, T = Toward.down.cut s (m <<< i.toNat) (-i).toNat := ⟨_, rfl⟩
  have hTle : T ≤ 2 ^ 22 := by
    rw [hT]
    apply down_le
    rw [Nat.shiftLeft_eq, ← Nat.pow_add]
    rcases h4 with h | ⟨h1, h2⟩
    · rw [h, Nat.zero_mul]; exact Nat.zero_le _
    · have e1 : 22 + (-i).toNat = (22 - i).toNat + i.toNat := by omega
      rw [e1, Nat.pow_add]
      exact Nat.mul_le_mul_right _ h2
  have e : floorW b = FloatKind.f64.format.nearest s T 0 := by
    unfold floorW FloatKind.decode FloatKind.encode
    rw [h2]
    simp only [Datum.integral, ← hT]; rfl
  rw [e]
  exact near_mag s T 0 22 (.inr ⟨by omega, by simpa using hTle⟩) (by omega) (by omega)
theorem floor_int {b : Nat} (h : magC (some b) 22) : ∃ n : Int, floatToIntVal .f64 (floorW b) .i64 = some n := by
  obtain ⟨_, s, m, i, hb, h2, h3, h4⟩ := floor_mag h
  cases hb
  obtain ⟨n, hn, _⟩ := trunc_sub _ s m i h2 h3 (leP_mono h4 (by omega))
  exact ⟨n, hn⟩
theorem mag_num64 {b : Nat} {e : Int} (h : magC (some b) e) : nanW .f64 b = false := by
  obtain ⟨_, s, m, i, hb, h2, _⟩ := h
  cases hb
  rw [← read_nan, h2]; rfl

section
variable {P : Program} {w : World} {ops : Array Oper} {rest : List Oper} {o : Oper} {a : Act} {Q : Exit → Act → World → Prop}
/-- the call of the entry that rounds down -/
theorem wpList_ffloor {f : FuncId} {fn : Func} {x : Tmp} {ts : Array TypeId} (hop : o.op = Op.call { callee := Callee.value (Operand.func f), args := #[.tmp x], argTypes := ts }) (hw : Region.wanted o (yielded ops a.tmps) = true)
    (hf : P.funcs[f]? = some fn) (hname : (fn.name == "runtime.NumGoroutine") = false) (hb : fn.body.isNone = true) (hn : Extern.findNext fn = none) (he : Extern.find fn = some (Extern.MathFloor.toIntegral "math.archFloor" .down))
    {b : Nat} (hx : a.eval (.tmp x) = .float .f64 b) (hX : nanW .f64 b = false)
    (hK : wpList P ops Q rest (a.put o.dst (.float .f64 (floorW b))) w) :
    wpList P ops Q (o :: rest) a w := by
  refine wpList_wanted hw fun K hK' => ?_
  have hrun : (Extern.MathFloor.toIntegral "math.archFloor" .down #[.float .f64 b]).run P w = .ok (.float .f64 (floorW b)) w := by
    have hr : ∀ s t, FloatKind.f64.decode b ≠ .nan s t := by
      intro s t hd
      rw [← read_nan] at hX
      have : FloatKind.f64.format.read b = .nan s t := hd
      rw [this] at hX; cases hX
    unfold floorW
    show Sem.run P (match FloatKind.f64.decode b with | .nan s t => (_ : Sem Value) | d => (pure (Value.float .f64 (FloatKind.f64.encode (d.integral .down))) : Sem Value)) w = _
    cases hd : FloatKind.f64.decode b with
    | nan s t => exact absurd hd (hr s t)
    | number s m i => rfl
    | infinity s => rfl
  have hk := hK' _ _ hK
  have hc := run_callFunc_extern hf hname hb hn he #[.float .f64 b] w
  rw [hrun] at hc
  unfold Oper.wp
  have hx' : (a.tmps[x]?).getD undef = .float .f64 b := by simpa [Act.eval] using hx
  simp [go_sem, execOp, hop, hx', hc]
  exact hk
end
end Go.Proofs.Ytpmjiabllmomjaa.Flt
