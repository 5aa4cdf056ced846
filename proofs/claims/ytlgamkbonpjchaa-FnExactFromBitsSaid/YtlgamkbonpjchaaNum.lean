/- Contracts of the small functions on numbers. -/
import Derived.Test.YtlgamkbonpjchaaRows
import Derived.Test.YtlgamkbonpjchaaFlt
import Derived.Test.YtlgamkbonpjchaaFlt2
import Derived.KernelRfl
namespace Go.Proofs.Ytlgamkbonpjchaa
open Go.RowKit Flt

@[go_sem] theorem callFloat32bits (b : Nat) (w : World) : (callFunc 27 #[.float .f32 b]).run Try.prog w = .ok (.value (.int .u32 b)) w :=
  run_callFunc_extern (fn := Try.f27) Try.func27 (by kernel_rfl) (by kernel_rfl) (by kernel_rfl) (e := Extern.MathFloatBits.float32bits) (by kernel_rfl) _ _
@[go_sem] theorem callFloat32frombits (n : Int) (w : World) : (callFunc 30 #[.int .u32 n]).run Try.prog w = .ok (.value (.float .f32 n.toNat)) w :=
  run_callFunc_extern (fn := Try.f30) Try.func30 (by kernel_rfl) (by kernel_rfl) (by kernel_rfl) (e := Extern.MathFloatBits.float32frombits) (by kernel_rfl) _ _
@[go_sem] theorem callFloat64frombits (n : Int) (w : World) : (callFunc 38 #[.int .u64 n]).run Try.prog w = .ok (.value (.float .f64 n.toNat)) w :=
  run_callFunc_extern (fn := Try.f38) Try.func38 (by kernel_rfl) (by kernel_rfl) (by kernel_rfl) (e := Extern.MathFloatBits.float64frombits) (by kernel_rfl) _ _
@[go_sem] theorem callFloat64bits (b : Nat) (w : World) : (callFunc 39 #[.float .f64 b]).run Try.prog w = .ok (.value (.int .u64 b)) w :=
  run_callFunc_extern (fn := Try.f39) Try.func39 (by kernel_rfl) (by kernel_rfl) (by kernel_rfl) (e := Extern.MathFloatBits.float64bits) (by kernel_rfl) _ _

theorem l01Bits_any (b : Nat) (hb : b < 4294967296) (w : World) : Calls Try.prog 25 #[.float .f32 b] w fun e w' => e = .returned (.int .i64 (bitsC (cls .f32 b))) ∧ w = w' := by
  by_cases hn : nanW .f32 b = true
  · have H : Hid (bitsC (cls .f32 b) = 2143289344) := by rw [cls_nan hn]; rfl
    have hh : FloatKind.f32.format.order b b = none := by rw [order_self, hn]; rfl
    clear hn
    go_enter Try.func25, Try.ntmps25
    go_wp2
    go_ret
    exact ⟨by rw [H.out]; rfl, rfl⟩
  · simp only [Bool.not_eq_true] at hn
    have H : Hid (bitsC (cls .f32 b) = b) := by rw [cls_num hn]; rfl
    have hh : FloatKind.f32.format.order b b = some .eq := by rw [order_self, hn]; rfl
    clear hn
    go_enter Try.func25, Try.ntmps25
    go_wp2
    go_ret
    exact ⟨by rw [H.out]; rfl, rfl⟩
theorem isNaN64_any (b : Nat) (w : World) : Calls Try.prog 35 #[.float .f64 b] w fun e w' => e = .returned (.bool (cls .f64 b).isNone) ∧ w = w' := by
  by_cases hn : nanW .f64 b = true
  · have H : Hid ((cls .f64 b).isNone = true) := by rw [cls_nan hn]; rfl
    have hh : FloatKind.f64.format.order b b = none := by rw [order_self, hn]; rfl
    clear hn
    go_enter Try.func35, Try.ntmps35
    go_wp2
    go_ret
    exact ⟨by rw [H.out]; rfl, rfl⟩
  · simp only [Bool.not_eq_true] at hn
    have H : Hid ((cls .f64 b).isNone = false) := by rw [cls_num hn]; rfl
    have hh : FloatKind.f64.format.order b b = some .eq := by rw [order_self, hn]; rfl
    clear hn
    go_enter Try.func35, Try.ntmps35
    go_wp2
    go_ret
    exact ⟨by rw [H.out]; rfl, rfl⟩
theorem isNaN_any (b : Nat) (w : World) : Calls Try.prog 26 #[.float .f32 b] w fun e w' => e = .returned (.bool (cls .f32 b).isNone) ∧ ∃ n, w' = w.drewN n := by
  go_enter Try.func26, Try.ntmps26
  go_wp2_with (first | (refine wpList_widen rfl rfl Try.underlying22 Try.underlying29 rfl ?_; intro r n hr hrw) | (go_at_call 35; refine (isNaN64_any _ _).mono ?_; rintro e w' ⟨rfl, rfl⟩))
  go_ret
  exact ⟨by rw [hr.out, isNone_wide]; rfl, _, rfl⟩
theorem bitsOf_any (b : Nat) (hb : b < 4294967296) (w : World) : Calls Try.prog 14 #[.float .f32 b] w fun e w' => e = .returned (.int .i64 (bitsC (cls .f32 b))) ∧ ∃ n, w' = w.drewN n := by
  cases hc : cls .f32 b with
  | none =>
    have hN : (cls .f32 b).isNone = true := by rw [hc]; rfl
    clear hc
    go_enter Try.func14, Try.ntmps14
    go_wp2_with (go_at_call 26; refine (isNaN_any _ _).mono ?_; rintro e w' ⟨rfl, n, rfl⟩)
    go_ret
    exact ⟨rfl, _, rfl⟩
  | some c =>
    have hN : (cls .f32 b).isNone = false := by rw [hc]; rfl
    have hcb : c = b := by
      unfold cls at hc; split at hc
      · cases hc
      · cases hc; rfl
    subst hcb
    clear hc
    go_enter Try.func14, Try.ntmps14
    go_wp2_with (go_at_call 26; refine (isNaN_any _ _).mono ?_; rintro e w' ⟨rfl, n, rfl⟩)
    go_ret
    exact ⟨rfl, _, rfl⟩
theorem sBitsOf_any (b : Nat) (hb : b < 4294967296) (w : World) : Calls Try.prog 13 #[.float .f32 b] w fun e w' => e = .returned (.int .i64 (bitsC (cls .f32 b))) ∧ w = w' := by
  go_enter Try.func13, Try.ntmps13
  go_wp2_with (go_at_call 25; refine (l01Bits_any _ hb _).mono ?_; rintro e w' ⟨rfl, rfl⟩)
  go_ret
  exact ⟨rfl, rfl⟩
theorem l01Same_any (a b : Nat) (ha : a < 4294967296) (hb : b < 4294967296) (w : World) : Calls Try.prog 22 #[.float .f32 a, .float .f32 b] w fun e w' => e = .returned (.bool (bitsC (cls .f32 a) == bitsC (cls .f32 b))) ∧ w = w' := by
  go_enter Try.func22, Try.ntmps22
  go_wp2_with (go_at_call 25; refine (l01Bits_any _ (by assumption) _).mono ?_; rintro e w' ⟨rfl, rfl⟩)
  go_ret
  exact ⟨rfl, rfl⟩
theorem sSame_any (a b : Nat) (ha : a < 4294967296) (hb : b < 4294967296) (w : World) : Calls Try.prog 9 #[.float .f32 a, .float .f32 b] w fun e w' => e = .returned (.bool (bitsC (cls .f32 a) == bitsC (cls .f32 b))) ∧ w = w' := by
  go_enter Try.func9, Try.ntmps9
  go_wp2_with (go_at_call 22; refine (l01Same_any _ _ ha hb _).mono ?_; rintro e w' ⟨rfl, rfl⟩)
  go_ret
  exact ⟨rfl, rfl⟩
theorem same_any (a b : Nat) (ha : a < 4294967296) (hb : b < 4294967296) (w : World) : Calls Try.prog 10 #[.float .f32 a, .float .f32 b] w fun e w' => e = .returned (.bool (bitsC (cls .f32 a) == bitsC (cls .f32 b))) ∧ ∃ n, w' = w.drewN n := by
  go_enter Try.func10, Try.ntmps10
  go_wp2_with (go_at_call 14; refine (bitsOf_any _ (by assumption) _).mono ?_; rintro e w' ⟨rfl, n, rfl⟩)
  go_ret
  exact ⟨rfl, _, rfl⟩
theorem FnExactSameNumber_walk (a0 : Nat) (w0 : (Lit.float .f32 a0).wf = true) (a1 : Nat) (w1 : (Lit.float .f32 a1).wf = true) (w : World) :
    Calls Try.prog 3 #[.float .f32 a0, .float .f32 a1] w fun e w' => e = .returned (.bool true) ∧ Grown w w' := by
  have ha := wf32 w0
  have hb := wf32 w1
  clear w0 w1
  go_enter Try.func3, Try.ntmps3
  go_wp2_with (first | (go_at_call 9; refine (sSame_any _ _ ha hb _).mono ?_; rintro e w' ⟨rfl, rfl⟩) | (go_at_call 10; refine (same_any _ _ ha hb _).mono ?_; rintro e w' ⟨rfl, n, rfl⟩))
  go_ret
  exact ⟨rfl, grown_drewN (Grown.refl _) _⟩
theorem FnExactBitsOf_walk (a0 : Nat) (w0 : (Lit.float .f32 a0).wf = true) (w : World) :
    Calls Try.prog 5 #[.float .f32 a0] w fun e w' => e = .returned (.bool true) ∧ Grown w w' := by
  have ha := wf32 w0
  clear w0
  go_enter Try.func5, Try.ntmps5
  go_wp2_with (first | (go_at_call 13; refine (sBitsOf_any _ ha _).mono ?_; rintro e w' ⟨rfl, rfl⟩) | (go_at_call 14; refine (bitsOf_any _ ha _).mono ?_; rintro e w' ⟨rfl, n, rfl⟩))
  go_ret
  exact ⟨rfl, grown_drewN (Grown.refl _) _⟩
theorem sameFloat_yes (a b : Nat) (x : Option Nat) (hxa : Hid (cls .f64 a = x)) (hxb : Hid (cls .f64 b = x)) (w : World) : Calls Try.prog 17 #[.float .f64 a, .float .f64 b] w fun e w' => e = .returned (.bool true) ∧ ∃ n, w' = w.drewN n := by
  have h : cls .f64 a = cls .f64 b := hxa.out.trans hxb.out.symm
  clear hxa hxb
  cases hc : cls .f64 a with
  | none =>
    have ha : FloatKind.f64.format.order a a = none := by rw [order_cls, hc]; rfl
    have hb : FloatKind.f64.format.order b b = none := by rw [order_cls, ← h, hc]; rfl
    clear h hc
    go_enter Try.func17, Try.ntmps17
    go_wp2
    go_ret
    exact ⟨rfl, 0, rfl⟩
  | some c =>
    have e1 := cls_word hc
    have e2 := cls_word (h.symm.trans hc)
    subst e1
    subst e2
    have hn := cls_ok .f64 _ _ hc
    have ha : FloatKind.f64.format.order c c = some .eq := by rw [order_self, hn]; rfl
    clear h hc hn
    by_cases h0 : (FloatKind.f64.format.order c 0 == some .eq) = true
    · go_enter Try.func17, Try.ntmps17
      go_wp2_with (refine wpList_farith rfl rfl rfl rfl rfl ?_; intro r n hr hrw)
      rename_i r1 n1 g1 _
      have e : FloatKind.f64.format.order r1 0 = FloatKind.f64.format.order r 0 := by
        rw [order_cls, order_cls .f64 r, g1.out, hr.out]
      go_ret
      exact ⟨by simp [e], _, rfl⟩
    · simp only [Bool.not_eq_true] at h0
      go_enter Try.func17, Try.ntmps17
      go_wp2
      go_ret
      exact ⟨rfl, 0, rfl⟩
theorem l00In_yes (n lo hi : Int) (h1 : lo ≤ n) (h2 : n ≤ hi) (w : World) : Calls Try.prog 28 #[.int .i64 n, .int .i64 lo, .int .i64 hi] w fun e w' => e = .returned (.bool true) ∧ w = w' := by
  go_enter Try.func28, Try.ntmps28
  go_wp2
  go_ret
  exact ⟨rfl, rfl⟩
theorem l00In_no (n lo hi : Int) (h : ¬ (lo ≤ n ∧ n ≤ hi)) (w : World) : Calls Try.prog 28 #[.int .i64 n, .int .i64 lo, .int .i64 hi] w fun e w' => e = .returned (.bool false) ∧ w = w' := by
  by_cases h1 : lo ≤ n
  · have h2 : ¬ n ≤ hi := by omega
    clear h
    go_enter Try.func28, Try.ntmps28
    go_wp2
    go_ret
    exact ⟨rfl, rfl⟩
  · clear h
    go_enter Try.func28, Try.ntmps28
    go_wp2
    go_ret
    exact ⟨rfl, rfl⟩
theorem l01From_any (n : Int) (h0 : 0 ≤ n) (h1 : n < 4294967296) (w : World) : Calls Try.prog 29 #[.int .i64 n] w fun e w' => e = .returned (.float .f32 n.toNat) ∧ w = w' := by
  go_enter Try.func29, Try.ntmps29
  go_wp2
  go_ret
  exact ⟨rfl, rfl⟩
theorem sFromBits_yes (n : Int) (h0 : 0 ≤ n) (h1 : n < 4294967296) (w : World) : Calls Try.prog 15 #[.int .i64 n] w fun e w' => e = .returned (.tuple #[.float .f32 n.toNat, .bool true]) ∧ w = w' := by
  go_enter Try.func15, Try.ntmps15
  go_wp2_with (first | (go_at_call 28; refine (l00In_yes _ _ _ h0 (by omega) _).mono ?_; rintro e w' ⟨rfl, rfl⟩) | (go_at_call 29; refine (l01From_any _ h0 h1 _).mono ?_; rintro e w' ⟨rfl, rfl⟩))
  go_ret2
  exact ⟨rfl, rfl⟩
theorem sFromBits_no (n : Int) (h : ¬ (0 ≤ n ∧ n < 4294967296)) (w : World) : Calls Try.prog 15 #[.int .i64 n] w fun e w' => e = .returned (.tuple #[.float .f32 0, .bool false]) ∧ w = w' := by
  go_enter Try.func15, Try.ntmps15
  go_wp2_with (go_at_call 28; refine (l00In_no _ _ _ (by omega) _).mono ?_; rintro e w' ⟨rfl, rfl⟩)
  go_ret2
  exact ⟨rfl, rfl⟩
theorem fromBits_yes (n : Int) (h0 : 0 ≤ n) (h1 : n < 4294967296) (w : World) : Calls Try.prog 16 #[.int .i64 n] w fun e w' => e = .returned (.tuple #[.float .f32 n.toNat, .bool true]) ∧ w = w' := by
  go_enter Try.func16, Try.ntmps16
  go_wp2
  go_ret2
  exact ⟨rfl, rfl⟩
theorem fromBits_no (n : Int) (h : ¬ (0 ≤ n ∧ n < 4294967296)) (w : World) : Calls Try.prog 16 #[.int .i64 n] w fun e w' => e = .returned (.tuple #[.float .f32 0, .bool false]) ∧ w = w' := by
  by_cases h0 : n < 0
  · go_enter Try.func16, Try.ntmps16
    go_wp2
    go_ret2
    exact ⟨rfl, rfl⟩
  · have h1 : 4294967295 < n := by omega
    clear h
    go_enter Try.func16, Try.ntmps16
    go_wp2
    go_ret2
    exact ⟨rfl, rfl⟩
theorem FnExactFromBits_walk (a0 : Int) (_w0 : (Lit.int .i64 a0).wf = true) (w : World) :
    Calls Try.prog 6 #[.int .i64 a0] w fun e w' => e = .returned (.bool true) ∧ Grown w w' := by
  by_cases h : 0 ≤ a0 ∧ a0 < 4294967296
  · obtain ⟨h0, h1⟩ := h
    go_enter Try.func6, Try.ntmps6
    go_wp2_with (first | (go_at_call 15; refine (sFromBits_yes _ h0 h1 _).mono ?_; rintro e w' ⟨rfl, rfl⟩) | (go_at_call 16; refine (fromBits_yes _ h0 h1 _).mono ?_; rintro e w' ⟨rfl, rfl⟩) | (refine wpList_widen rfl rfl Try.underlying22 Try.underlying29 rfl ?_; intro r n hr hrw) | (go_at_call 17; refine (sameFloat_yes _ _ _ (by assumption) (by assumption) _).mono ?_; rintro e w' ⟨rfl, n, rfl⟩))
    go_ret
    exact ⟨rfl, grown_drewN (Grown.refl _) _⟩
  · go_enter Try.func6, Try.ntmps6
    go_wp2_with (first | (go_at_call 15; refine (sFromBits_no _ h _).mono ?_; rintro e w' ⟨rfl, rfl⟩) | (go_at_call 16; refine (fromBits_no _ h _).mono ?_; rintro e w' ⟨rfl, rfl⟩) | (refine wpList_widen rfl rfl Try.underlying22 Try.underlying29 rfl ?_; intro r n hr hrw) | (go_at_call 17; refine (sameFloat_yes _ _ _ (by assumption) (by assumption) _).mono ?_; rintro e w' ⟨rfl, n, rfl⟩))
    go_ret
    exact ⟨rfl, grown_drewN (Grown.refl _) _⟩
end Go.Proofs.Ytlgamkbonpjchaa
