/- Contracts: finite and subnormal numbers. -/
import Derived.Test.YtlgamkbonpjchabNum
namespace Go.Proofs.Ytlgamkbonpjchab
open Go.RowKit Flt

theorem l01Finite_any (b : Nat) (w : World) : Calls Try.prog 39 #[.float .f32 b] w fun e w' => e = .returned (.bool (fin32 (cls .f32 b))) ∧ ∃ n, w' = w.drewN n := by
  go_enter Try.func39, Try.ntmps39
  go_wp2_with (refine wpList_farith rfl rfl rfl rfl rfl ?_; intro r n hr hrw)
  have e : (FloatKind.f32.format.order r 0 == some .eq) = fin32 (cls .f32 b) := by rw [order_cls, hr.out, sub_self_fin]
  go_ret
  exact ⟨by rw [← e]; rfl, _, rfl⟩
theorem abs_any (b : Nat) (hb : Hid (b < 18446744073709551616)) (w : World) : Calls Try.prog 30 #[.float .f64 b] w fun e w' => e = .returned (.float .f64 (absW b)) ∧ w = w' := by
  go_enter Try.func30, Try.ntmps30
  go_wp2
  go_ret
  exact ⟨by rw [← Int.toNat_natCast (absW b), ← bits_abs b hb.out]; rfl, rfl⟩
theorem isInf_any (b : Nat) (hb : Hid (b < 18446744073709551616)) (w : World) : Calls Try.prog 59 #[.float .f64 b, .int .i64 0] w fun e w' => e = .returned (.bool (FloatKind.f64.format.order (absW b) max64 == some .gt)) ∧ w = w' := by
  go_enter Try.func59, Try.ntmps59
  go_wp2_with (go_at_call 30; refine (abs_any _ hb _).mono ?_; rintro e w' ⟨rfl, rfl⟩)
  go_ret
  exact ⟨rfl, rfl⟩
theorem isFinite64_any (b : Nat) (hb : Hid (b < 18446744073709551616)) (w : World) : Calls Try.prog 34 #[.float .f64 b] w fun e w' => e = .returned (.bool (finW b)) ∧ w = w' := by
  have H : Hid (finW b = (!(cls .f64 b).isNone && !(FloatKind.f64.format.order (absW b) max64 == some .gt))) := rfl
  cases hN : (cls .f64 b).isNone
  all_goals
    have H2 := H.out
    rw [hN] at H2
    have H3 : Hid _ := H2
    clear H2
    go_enter Try.func34, Try.ntmps34
    go_wp2_with (first | (go_at_call 58; refine (isNaN64_any _ _).mono ?_; rintro e w' ⟨rfl, rfl⟩) | (go_at_call 59; refine (isInf_any _ hb _).mono ?_; rintro e w' ⟨rfl, rfl⟩))
    go_ret
    exact ⟨by rw [H3.out]; rfl, rfl⟩
theorem isFinite_any (b : Nat) (w : World) : Calls Try.prog 41 #[.float .f32 b] w fun e w' => e = .returned (.bool (fin32 (cls .f32 b))) ∧ ∃ n, w' = w.drewN n := by
  go_enter Try.func41, Try.ntmps41
  go_wp2_with (first | (refine wpList_widen rfl rfl Try.underlying22 Try.underlying26 rfl ?_; intro r n hr hrw) | (go_at_call 34; refine (isFinite64_any _ (by assumption) _).mono ?_; rintro e w' ⟨rfl, rfl⟩))
  have e := finW_wide b r hr.out
  go_ret
  exact ⟨by rw [← e]; rfl, _, rfl⟩
theorem isSubnormal_any (b : Nat) (w : World) : Calls Try.prog 12 #[.float .f32 b] w fun e w' => e = .returned (.bool (subn (cls .f32 b))) ∧ ∃ n, w' = w.drewN n := by
  cases hc : cls .f32 b with
  | none =>
    have h0 : FloatKind.f32.format.order b 0 = none := by rw [order_cls, hc]; rfl
    have HC := (show Hid _ from hc)
    clear hc
    go_enter Try.func12, Try.ntmps12
    go_wp2_with (first | (refine wpList_widen rfl rfl Try.underlying22 Try.underlying26 rfl ?_; intro r n hr hrw) | (go_at_call 30; refine (abs_any _ (by assumption) _).mono ?_; rintro e w' ⟨rfl, rfl⟩))
    have e := subn_wide b r hr.out
    rw [HC.out] at e
    go_ret
    exact ⟨congrArg (fun x => Ending.returned (Value.bool x)) e, _, rfl⟩
  | some c =>
    have e1 := cls_word hc
    subst e1
    have hz := zero_test c (cls_ok .f32 _ _ hc)
    by_cases h : c % 2147483648 = 0
    · have H : Hid (subn (some c) = false) := subn_zero h
      have hz' : FloatKind.f32.format.order c 0 = some .eq := by rw [decide_eq_true h] at hz; simpa using hz
      clear hz h hc
      go_enter Try.func12, Try.ntmps12
      go_wp2
      go_ret
      exact ⟨by rw [H.out]; rfl, 0, rfl⟩
    · have H : Hid (subn (some c) = decide (c % 2147483648 < 8388608)) := subn_other h
      have hz' : (FloatKind.f32.format.order c 0 == some .eq) = false := by rw [hz]; simpa using h
      have hz'' : (FloatKind.f32.format.order c 0 != some .eq) = true := by simp only [bne, hz', Bool.not_false]
      have HC := (show Hid _ from hc)
      clear hz h hc hz'
      go_enter Try.func12, Try.ntmps12
      go_wp2_with (first | (refine wpList_widen rfl rfl Try.underlying22 Try.underlying26 rfl ?_; intro r n hr hrw) | (go_at_call 30; refine (abs_any _ (by assumption) _).mono ?_; rintro e w' ⟨rfl, rfl⟩))
      have e := subn_wide c r hr.out
      rw [HC.out] at e
      go_ret
      exact ⟨by rw [H.out]; exact congrArg (fun x => Ending.returned (Value.bool x)) e, _, rfl⟩
theorem sIsSubnormal_any (b : Nat) (hb : b < 4294967296) (w : World) : Calls Try.prog 11 #[.float .f32 b] w fun e w' => e = .returned (.bool (subn (cls .f32 b))) ∧ w = w' := by
  cases hc : cls .f32 b with
  | none =>
    have h0 : (FloatKind.f32.format.order b 0 != some .eq) = true := by rw [order_cls, hc]; rfl
    have hB : bitsC (cls .f32 b) = 2143289344 := by rw [hc]; rfl
    have hx : bits .and .i64 2143289344 2139095040 = 2139095040 := by decide
    have HC := (show Hid _ from hc)
    clear hc
    go_enter Try.func11, Try.ntmps11
    go_wp2_with (go_at_call 29; refine (l01Bits_any _ hb _).mono ?_; rintro e w' ⟨rfl, rfl⟩)
    go_ret
    exact ⟨rfl, rfl⟩
  | some c =>
    have e1 := cls_word hc
    subst e1
    have hz := zero_test c (cls_ok .f32 _ _ hc)
    by_cases h : c % 2147483648 = 0
    · have H : Hid (subn (some c) = false) := subn_zero h
      have hz' : (FloatKind.f32.format.order c 0 != some .eq) = false := by simp only [bne, hz, decide_eq_true h, Bool.not_true]
      clear hz h hc
      go_enter Try.func11, Try.ntmps11
      go_wp2
      go_ret
      exact ⟨by rw [H.out]; rfl, rfl⟩
    · have H : Hid (subn (some c) = decide (c % 2147483648 < 8388608)) := subn_other h
      have hz' : (FloatKind.f32.format.order c 0 != some .eq) = true := by simp only [bne, hz, decide_eq_false h, Bool.not_false]
      have hB : bitsC (cls .f32 c) = c := by rw [hc]; rfl
      have hx : (bits .and .i64 (c : Int) 2139095040 == 0) = decide (c % 2147483648 < 8388608) := by
        rw [bits_exp c hb, Bool.eq_iff_iff]; simp; omega
      have HX := (show Hid _ from hx)
      clear hz h hc hx
      go_enter Try.func11, Try.ntmps11
      go_wp2_with (go_at_call 29; refine (l01Bits_any _ hb _).mono ?_; rintro e w' ⟨rfl, rfl⟩)
      go_ret
      exact ⟨by rw [H.out, ← HX.out]; rfl, rfl⟩
theorem FnExactIsSubnormal_walk (a0 : Nat) (w0 : (Lit.float .f32 a0).wf = true) (w : World) :
    Calls Try.prog 3 #[.float .f32 a0] w fun e w' => e = .returned (.bool true) ∧ Grown w w' := by
  have ha := wf32 w0
  clear w0
  go_enter Try.func3, Try.ntmps3
  go_wp2_with (first | (go_at_call 11; refine (sIsSubnormal_any _ ha _).mono ?_; rintro e w' ⟨rfl, rfl⟩) | (go_at_call 12; refine (isSubnormal_any _ _).mono ?_; rintro e w' ⟨rfl, n, rfl⟩))
  go_ret
  exact ⟨rfl, grown_drewN (Grown.refl _) _⟩
theorem copysign0_any (b : Nat) (hb : Hid (b < 18446744073709551616)) (w : World) : Calls Try.prog 69 #[.float .f64 0, .float .f64 b] w fun e w' => e = .returned (.float .f64 (signW b)) ∧ w = w' := by
  have e1 := bits_sign b hb.out
  have e2 := bits_or_zero (signW b) (signW_lt hb.out)
  have e3 : bits .andNot .u64 0 9223372036854775808 = 0 := by decide
  have E2 := (show Hid _ from e2)
  clear e2
  go_enter Try.func69, Try.ntmps69
  go_wp2
  go_ret
  exact ⟨by show Ending.returned (.float .f64 (bits .or .u64 0 ((signW b : Nat) : Int)).toNat) = _; rw [E2.out, Int.toNat_natCast], rfl⟩
end Go.Proofs.Ytlgamkbonpjchab
