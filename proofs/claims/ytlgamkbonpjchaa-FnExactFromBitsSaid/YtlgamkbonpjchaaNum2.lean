/- Contracts: finite and subnormal numbers. -/
import Derived.Test.YtlgamkbonpjchaaNum
namespace Go.Proofs.Ytlgamkbonpjchaa
open Go.RowKit Flt

theorem l01Finite_any (b : Nat) (w : World) : Calls Try.prog 23 #[.float .f32 b] w fun e w' => e = .returned (.bool (fin32 (cls .f32 b))) ∧ ∃ n, w' = w.drewN n := by
  go_enter Try.func23, Try.ntmps23
  go_wp2_with (refine wpList_farith rfl rfl rfl rfl rfl ?_; intro r n hr hrw)
  have e : (FloatKind.f32.format.order r 0 == some .eq) = fin32 (cls .f32 b) := by rw [order_cls, hr.out, sub_self_fin]
  go_ret
  exact ⟨by rw [← e]; rfl, _, rfl⟩
theorem sIsFinite_any (b : Nat) (w : World) : Calls Try.prog 11 #[.float .f32 b] w fun e w' => e = .returned (.bool (fin32 (cls .f32 b))) ∧ ∃ n, w' = w.drewN n := by
  go_enter Try.func11, Try.ntmps11
  go_wp2_with (go_at_call 23; refine (l01Finite_any _ _).mono ?_; rintro e w' ⟨rfl, n, rfl⟩)
  go_ret
  exact ⟨rfl, _, rfl⟩
theorem abs_any (b : Nat) (hb : Hid (b < 18446744073709551616)) (w : World) : Calls Try.prog 37 #[.float .f64 b] w fun e w' => e = .returned (.float .f64 (absW b)) ∧ w = w' := by
  go_enter Try.func37, Try.ntmps37
  go_wp2
  go_ret
  exact ⟨by rw [← Int.toNat_natCast (absW b), ← bits_abs b hb.out]; rfl, rfl⟩
theorem isInf_any (b : Nat) (hb : Hid (b < 18446744073709551616)) (w : World) : Calls Try.prog 36 #[.float .f64 b, .int .i64 0] w fun e w' => e = .returned (.bool (FloatKind.f64.format.order (absW b) max64 == some .gt)) ∧ w = w' := by
  go_enter Try.func36, Try.ntmps36
  go_wp2_with (go_at_call 37; refine (abs_any _ hb _).mono ?_; rintro e w' ⟨rfl, rfl⟩)
  go_ret
  exact ⟨rfl, rfl⟩
theorem isFinite64_any (b : Nat) (hb : Hid (b < 18446744073709551616)) (w : World) : Calls Try.prog 24 #[.float .f64 b] w fun e w' => e = .returned (.bool (finW b)) ∧ w = w' := by
  have H : Hid (finW b = (!(cls .f64 b).isNone && !(FloatKind.f64.format.order (absW b) max64 == some .gt))) := rfl
  cases hN : (cls .f64 b).isNone
  all_goals
    have H2 := H.out
    rw [hN] at H2
    have H3 : Hid _ := H2
    clear H2
    go_enter Try.func24, Try.ntmps24
    go_wp2_with (first | (go_at_call 35; refine (isNaN64_any _ _).mono ?_; rintro e w' ⟨rfl, rfl⟩) | (go_at_call 36; refine (isInf_any _ hb _).mono ?_; rintro e w' ⟨rfl, rfl⟩))
    go_ret
    exact ⟨by rw [H3.out]; rfl, rfl⟩
theorem isFinite_any (b : Nat) (w : World) : Calls Try.prog 12 #[.float .f32 b] w fun e w' => e = .returned (.bool (fin32 (cls .f32 b))) ∧ ∃ n, w' = w.drewN n := by
  go_enter Try.func12, Try.ntmps12
  go_wp2_with (first | (refine wpList_widen rfl rfl Try.underlying22 Try.underlying29 rfl ?_; intro r n hr hrw) | (go_at_call 24; refine (isFinite64_any _ (by assumption) _).mono ?_; rintro e w' ⟨rfl, rfl⟩))
  have e := finW_wide b r hr.out
  go_ret
  exact ⟨by rw [← e]; rfl, _, rfl⟩
theorem FnExactIsFinite_walk (a0 : Nat) (_w0 : (Lit.float .f32 a0).wf = true) (w : World) :
    Calls Try.prog 4 #[.float .f32 a0] w fun e w' => e = .returned (.bool true) ∧ Grown w w' := by
  go_enter Try.func4, Try.ntmps4
  go_wp2_with (first | (go_at_call 11; refine (sIsFinite_any _ _).mono ?_; rintro e w' ⟨rfl, n, rfl⟩) | (go_at_call 12; refine (isFinite_any _ _).mono ?_; rintro e w' ⟨rfl, n, rfl⟩))
  go_ret
  exact ⟨rfl, grown_drewN (Grown.refl _) _⟩
theorem isSubnormal_any (b : Nat) (w : World) : Calls Try.prog 33 #[.float .f32 b] w fun e w' => e = .returned (.bool (subn (cls .f32 b))) ∧ ∃ n, w' = w.drewN n := by
  cases hc : cls .f32 b with
  | none =>
    have h0 : FloatKind.f32.format.order b 0 = none := by rw [order_cls, hc]; rfl
    have HC := (show Hid _ from hc)
    clear hc
    go_enter Try.func33, Try.ntmps33
    go_wp2_with (first | (refine wpList_widen rfl rfl Try.underlying22 Try.underlying29 rfl ?_; intro r n hr hrw) | (go_at_call 37; refine (abs_any _ (by assumption) _).mono ?_; rintro e w' ⟨rfl, rfl⟩))
    have e := subn_wide b r hr.out
    rw [HC.out] at e
    go_ret
    exact ⟨congrArg (fun x => Ending.returned (Value.bool x)) e, _, rfl⟩
  | some c =>
    have e1 := cls_word hc
    subst e1
    have hz := zero_test c (cls_ok .f32 _ _ hc)
    by_cases h : c % 2147483648 = 0
    · have H : Hid (subn (some c) = false) := subn_zero h
      have hz' : FloatKind.f32.format.order c 0 = some .eq := by rw [decide_eq_true h] at hz; simpa using hz
      clear hz h hc
      go_enter Try.func33, Try.ntmps33
      go_wp2
      go_ret
      exact ⟨by rw [H.out]; rfl, 0, rfl⟩
    · have H : Hid (subn (some c) = decide (c % 2147483648 < 8388608)) := subn_other h
      have hz' : (FloatKind.f32.format.order c 0 == some .eq) = false := by rw [hz]; simpa using h
      have hz'' : (FloatKind.f32.format.order c 0 != some .eq) = true := by simp only [bne, hz', Bool.not_false]
      have HC := (show Hid _ from hc)
      clear hz h hc hz'
      go_enter Try.func33, Try.ntmps33
      go_wp2_with (first | (refine wpList_widen rfl rfl Try.underlying22 Try.underlying29 rfl ?_; intro r n hr hrw) | (go_at_call 37; refine (abs_any _ (by assumption) _).mono ?_; rintro e w' ⟨rfl, rfl⟩))
      have e := subn_wide c r hr.out
      rw [HC.out] at e
      go_ret
      exact ⟨by rw [H.out]; exact congrArg (fun x => Ending.returned (Value.bool x)) e, _, rfl⟩
theorem l01Flush_any (b : Nat) (hb : b < 4294967296) (w : World) : Calls Try.prog 32 #[.float .f32 b] w fun e w' => ∃ r, e = .returned (.float .f32 r) ∧ cls .f32 r = flushC (cls .f32 b) ∧ w = w' := by
  cases hc : cls .f32 b with
  | none =>
    have hB : bitsC (cls .f32 b) = 2143289344 := by rw [hc]; rfl
    have hx : bits .and .i64 2143289344 2139095040 = 2139095040 := by decide
    have HC := (show Hid _ from hc)
    clear hc
    go_enter Try.func32, Try.ntmps32
    go_wp2_with (go_at_call 25; refine (l01Bits_any _ hb _).mono ?_; rintro e w' ⟨rfl, rfl⟩)
    go_ret
    exact ⟨_, rfl, by rw [HC.out]; rfl, rfl⟩
  | some c =>
    have e1 := cls_word hc
    subst e1
    have hB : bitsC (cls .f32 c) = c := by rw [hc]; rfl
    have hx := bits_exp c hb
    have hy := bits_top c hb
    by_cases h : c % 2147483648 < 8388608
    · have hx0 : bits .and .i64 (c : Int) 2139095040 = 0 := by rw [hx]; omega
      have HC : Hid (flushC (some c) = some (c - c % 2147483648)) := by show flushC (some c) = _; simp [flushC, h]
      have hn : nanW .f32 (c - c % 2147483648) = false := by
        unfold nanW
        have hS : FloatKind.f32.format.signWeight = 2147483648 := by decide
        have hI : FloatKind.f32.format.infRung = 2139095040 := by decide
        rw [hS, hI]; simp; omega
      have HN := (show Hid _ from cls_num hn)
      have b1 : (0 : Int) ≤ ((c - c % 2147483648 : Nat) : Int) := by omega
      have b2 : ((c - c % 2147483648 : Nat) : Int) < 4294967296 := by omega
      clear hx hc hn h
      go_enter Try.func32, Try.ntmps32
      go_wp2_with (first | (go_at_call 25; refine (l01Bits_any _ hb _).mono ?_; rintro e w' ⟨rfl, rfl⟩) | (go_at_call 29; refine (l01From_any _ b1 b2 _).mono ?_; rintro e w' ⟨rfl, rfl⟩))
      go_ret
      exact ⟨_, rfl, by rw [HC.out, HN.out], rfl⟩
    · have hx0 : (bits .and .i64 (c : Int) 2139095040 == 0) = false := by rw [hx]; simp; omega
      have HC : Hid (flushC (some c) = some c) := by show flushC (some c) = _; simp [flushC, h]
      have HN := (show Hid _ from hc)
      clear hx hc h hy
      go_enter Try.func32, Try.ntmps32
      go_wp2_with (first | (go_at_call 25; refine (l01Bits_any _ hb _).mono ?_; rintro e w' ⟨rfl, rfl⟩))
      go_ret
      exact ⟨_, rfl, by rw [HC.out, ← HN.out], rfl⟩
theorem sFlush_any (b : Nat) (hb : b < 4294967296) (w : World) : Calls Try.prog 20 #[.float .f32 b] w fun e w' => ∃ r, e = .returned (.float .f32 r) ∧ Hid (cls .f32 r = flushC (cls .f32 b)) ∧ w = w' := by
  go_enter Try.func20, Try.ntmps20
  go_wp2_with (go_at_call 32; refine (l01Flush_any _ hb _).mono ?_; rintro e w' ⟨r, rfl, hr, rfl⟩; have HR := (show Hid _ from hr); clear hr)
  go_ret
  exact ⟨_, rfl, HR, rfl⟩
theorem copysign0_any (b : Nat) (hb : Hid (b < 18446744073709551616)) (w : World) : Calls Try.prog 34 #[.float .f64 0, .float .f64 b] w fun e w' => e = .returned (.float .f64 (signW b)) ∧ w = w' := by
  have e1 := bits_sign b hb.out
  have e2 := bits_or_zero (signW b) (signW_lt hb.out)
  have e3 : bits .andNot .u64 0 9223372036854775808 = 0 := by decide
  have E2 := (show Hid _ from e2)
  clear e2
  go_enter Try.func34, Try.ntmps34
  go_wp2
  go_ret
  exact ⟨by show Ending.returned (.float .f64 (bits .or .u64 0 ((signW b : Nat) : Int)).toNat) = _; rw [E2.out, Int.toNat_natCast], rfl⟩
theorem flush_any (b : Nat) (hb : b < 4294967296) (w : World) : Calls Try.prog 21 #[.float .f32 b] w fun e w' => ∃ r, e = .returned (.float .f32 r) ∧ Hid (cls .f32 r = flushC (cls .f32 b)) ∧ ∃ n, w' = w.drewN n := by
  cases hs : subn (cls .f32 b) with
  | false =>
    have HF := (show Hid _ from flush_not hs)
    go_enter Try.func21, Try.ntmps21
    go_wp2_with (go_at_call 33; refine (isSubnormal_any _ _).mono ?_; rintro e w' ⟨rfl, n, rfl⟩)
    go_ret
    exact ⟨_, rfl, HF.out.symm, _, rfl⟩
  | true =>
    have HX := (show Hid _ from flush_fit b hb hs)
    go_enter Try.func21, Try.ntmps21
    go_wp2_with (first | (go_at_call 33; refine (isSubnormal_any _ _).mono ?_; rintro e w' ⟨rfl, n, rfl⟩) | (refine wpList_widen rfl rfl Try.underlying22 Try.underlying29 rfl ?_; intro r n hr hrw) | (go_at_call 34; refine (copysign0_any _ (by assumption) _).mono ?_; rintro e w' ⟨rfl, rfl⟩) | (refine wpList_narrow rfl rfl Try.underlying29 Try.underlying22 rfl (HX.out _ (by assumption)).1 ?_; intro r n hr hrw))
    rename_i r0 n0 hr0 _
    go_ret
    exact ⟨_, rfl, by show cls .f32 r = _; rw [hr.out, (HX.out _ hr0).2], _, rfl⟩
theorem FnExactFlushNumber_walk (a0 : Nat) (w0 : (Lit.float .f32 a0).wf = true) (w : World) :
    Calls Try.prog 8 #[.float .f32 a0] w fun e w' => e = .returned (.bool true) ∧ Grown w w' := by
  have ha := wf32 w0
  clear w0
  go_enter Try.func8, Try.ntmps8
  go_wp2_with (first | (go_at_call 20; refine (sFlush_any _ ha _).mono ?_; rintro e w' ⟨r, rfl, hr, rfl⟩) | (go_at_call 21; refine (flush_any _ ha _).mono ?_; rintro e w' ⟨r, rfl, hr, n, rfl⟩) | (refine wpList_widen rfl rfl Try.underlying22 Try.underlying29 rfl ?_; intro r n hr hrw; rw [Hid.out (p := cls .f32 _ = flushC _) (by assumption)] at hr) | (go_at_call 17; refine (sameFloat_yes _ _ _ (by assumption) (by assumption) _).mono ?_; rintro e w' ⟨rfl, n, rfl⟩))
  go_ret
  exact ⟨rfl, grown_drewN (Grown.refl _) _⟩
end Go.Proofs.Ytlgamkbonpjchaa
