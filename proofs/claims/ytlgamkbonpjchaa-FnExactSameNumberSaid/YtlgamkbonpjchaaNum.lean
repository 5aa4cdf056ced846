/- Contracts of the small functions on numbers. -/
import Derived.Test.YtlgamkbonpjchaaRows
import Derived.Test.YtlgamkbonpjchaaFlt
import Derived.KernelRfl
namespace Go.Proofs.Ytlgamkbonpjchaa
open Go.RowKit Flt

@[go_sem] theorem callFloat32bits (b : Nat) (w : World) : (callFunc 27 #[.float .f32 b]).run Try.prog w = .ok (.value (.int .u32 b)) w :=
  run_callFunc_extern (fn := Try.f27) Try.func27 (by kernel_rfl) (by kernel_rfl) (by kernel_rfl) (e := Extern.MathFloatBits.float32bits) (by kernel_rfl) _ _
@[go_sem] theorem callFloat32frombits (n : Int) (w : World) : (callFunc 30 #[.int .u32 n]).run Try.prog w = .ok (.value (.float .f32 n.toNat)) w :=
  run_callFunc_extern (fn := Try.f30) Try.func30 (by kernel_rfl) (by kernel_rfl) (by kernel_rfl) (e := Extern.MathFloatBits.float32frombits) (by kernel_rfl) _ _
@[go_sem] theorem callFloat64frombits (n : Int) (w : World) : (callFunc 38 #[.int .u64 n]).run Try.prog w = .ok (.value (.float .f64 n.toNat)) w :=
  run_callFunc_extern (fn := Try.f38) Try.func38 (by kernel_rfl) (by kernel_rfl) (by kernel_rfl) (e := Extern.MathFloatBits.float64frombits) (by kernel_rfl) _ _
@[go_sem] theorem callFloat64bits (b : Nat) (w : World) : (callFunc 39 #[.float .f64 b]).run Try.prog w = .ok (.value (.int .u64 b)) w :=
  run_callFunc_extern (fn := Try.f39) Try.func39 (by kernel_rfl) (by kernel_rfl) (by kernel_rfl) (e := Extern.MathFloatBits.float64bits) (by kernel_rfl) _ _

theorem l01Bits_any (b : Nat) (hb : b < 4294967296) (w : World) : Calls Try.prog 25 #[.float .f32 b] w fun e w' => e = .returned (.int .i64 (bitsC (cls .f32 b))) ∧ w = w' := by
  by_cases hn : nanW .f32 b = true
  · have H : Hid (bitsC (cls .f32 b) = 2143289344) := by rw [cls_nan hn]; rfl
    have hh : FloatKind.f32.format.order b b = none := by rw [order_self, hn]; rfl
    clear hn
    go_enter Try.func25, Try.ntmps25
    go_wp2
    go_ret
    exact ⟨by rw [H.out]; rfl, rfl⟩
  · simp only [Bool.not_eq_true] at hn
    have H : Hid (bitsC (cls .f32 b) = b) := by rw [cls_num hn]; rfl
    have hh : FloatKind.f32.format.order b b = some .eq := by rw [order_self, hn]; rfl
    clear hn
    go_enter Try.func25, Try.ntmps25
    go_wp2
    go_ret
    exact ⟨by rw [H.out]; rfl, rfl⟩
theorem isNaN64_any (b : Nat) (w : World) : Calls Try.prog 35 #[.float .f64 b] w fun e w' => e = .returned (.bool (cls .f64 b).isNone) ∧ w = w' := by
  by_cases hn : nanW .f64 b = true
  · have H : Hid ((cls .f64 b).isNone = true) := by rw [cls_nan hn]; rfl
    have hh : FloatKind.f64.format.order b b = none := by rw [order_self, hn]; rfl
    clear hn
    go_enter Try.func35, Try.ntmps35
    go_wp2
    go_ret
    exact ⟨by rw [H.out]; rfl, rfl⟩
  · simp only [Bool.not_eq_true] at hn
    have H : Hid ((cls .f64 b).isNone = false) := by rw [cls_num hn]; rfl
    have hh : FloatKind.f64.format.order b b = some .eq := by rw [order_self, hn]; rfl
    clear hn
    go_enter Try.func35, Try.ntmps35
    go_wp2
    go_ret
    exact ⟨by rw [H.out]; rfl, rfl⟩
theorem isNaN_any (b : Nat) (w : World) : Calls Try.prog 26 #[.float .f32 b] w fun e w' => e = .returned (.bool (cls .f32 b).isNone) ∧ ∃ n, w' = w.drewN n := by
  go_enter Try.func26, Try.ntmps26
  go_wp2_with (first | (refine wpList_widen rfl rfl Try.underlying22 Try.underlying29 rfl ?_; intro r n hr hrw) | (go_at_call 35; refine (isNaN64_any _ _).mono ?_; rintro e w' ⟨rfl, rfl⟩))
  go_ret
  exact ⟨by rw [hr.out, isNone_wide]; rfl, _, rfl⟩
theorem bitsOf_any (b : Nat) (hb : b < 4294967296) (w : World) : Calls Try.prog 14 #[.float .f32 b] w fun e w' => e = .returned (.int .i64 (bitsC (cls .f32 b))) ∧ ∃ n, w' = w.drewN n := by
  cases hc : cls .f32 b with
  | none =>
    have hN : (cls .f32 b).isNone = true := by rw [hc]; rfl
    clear hc
    go_enter Try.func14, Try.ntmps14
    go_wp2_with (go_at_call 26; refine (isNaN_any _ _).mono ?_; rintro e w' ⟨rfl, n, rfl⟩)
    go_ret
    exact ⟨rfl, _, rfl⟩
  | some c =>
    have hN : (cls .f32 b).isNone = false := by rw [hc]; rfl
    have hcb : c = b := by
      unfold cls at hc; split at hc
      · cases hc
      · cases hc; rfl
    subst hcb
    clear hc
    go_enter Try.func14, Try.ntmps14
    go_wp2_with (go_at_call 26; refine (isNaN_any _ _).mono ?_; rintro e w' ⟨rfl, n, rfl⟩)
    go_ret
    exact ⟨rfl, _, rfl⟩
theorem sBitsOf_any (b : Nat) (hb : b < 4294967296) (w : World) : Calls Try.prog 13 #[.float .f32 b] w fun e w' => e = .returned (.int .i64 (bitsC (cls .f32 b))) ∧ w = w' := by
  go_enter Try.func13, Try.ntmps13
  go_wp2_with (go_at_call 25; refine (l01Bits_any _ hb _).mono ?_; rintro e w' ⟨rfl, rfl⟩)
  go_ret
  exact ⟨rfl, rfl⟩
theorem l01Same_any (a b : Nat) (ha : a < 4294967296) (hb : b < 4294967296) (w : World) : Calls Try.prog 22 #[.float .f32 a, .float .f32 b] w fun e w' => e = .returned (.bool (bitsC (cls .f32 a) == bitsC (cls .f32 b))) ∧ w = w' := by
  go_enter Try.func22, Try.ntmps22
  go_wp2_with (go_at_call 25; refine (l01Bits_any _ (by assumption) _).mono ?_; rintro e w' ⟨rfl, rfl⟩)
  go_ret
  exact ⟨rfl, rfl⟩
theorem sSame_any (a b : Nat) (ha : a < 4294967296) (hb : b < 4294967296) (w : World) : Calls Try.prog 9 #[.float .f32 a, .float .f32 b] w fun e w' => e = .returned (.bool (bitsC (cls .f32 a) == bitsC (cls .f32 b))) ∧ w = w' := by
  go_enter Try.func9, Try.ntmps9
  go_wp2_with (go_at_call 22; refine (l01Same_any _ _ ha hb _).mono ?_; rintro e w' ⟨rfl, rfl⟩)
  go_ret
  exact ⟨rfl, rfl⟩
theorem same_any (a b : Nat) (ha : a < 4294967296) (hb : b < 4294967296) (w : World) : Calls Try.prog 10 #[.float .f32 a, .float .f32 b] w fun e w' => e = .returned (.bool (bitsC (cls .f32 a) == bitsC (cls .f32 b))) ∧ ∃ n, w' = w.drewN n := by
  go_enter Try.func10, Try.ntmps10
  go_wp2_with (go_at_call 14; refine (bitsOf_any _ (by assumption) _).mono ?_; rintro e w' ⟨rfl, n, rfl⟩)
  go_ret
  exact ⟨rfl, _, rfl⟩
theorem FnExactSameNumber_walk (a0 : Nat) (w0 : (Lit.float .f32 a0).wf = true) (a1 : Nat) (w1 : (Lit.float .f32 a1).wf = true) (w : World) :
    Calls Try.prog 3 #[.float .f32 a0, .float .f32 a1] w fun e w' => e = .returned (.bool true) ∧ Grown w w' := by
  have ha := wf32 w0
  have hb := wf32 w1
  clear w0 w1
  go_enter Try.func3, Try.ntmps3
  go_wp2_with (first | (go_at_call 9; refine (sSame_any _ _ ha hb _).mono ?_; rintro e w' ⟨rfl, rfl⟩) | (go_at_call 10; refine (same_any _ _ ha hb _).mono ?_; rintro e w' ⟨rfl, n, rfl⟩))
  go_ret
  exact ⟨rfl, grown_drewN (Grown.refl _) _⟩
theorem FnExactBitsOf_walk (a0 : Nat) (w0 : (Lit.float .f32 a0).wf = true) (w : World) :
    Calls Try.prog 5 #[.float .f32 a0] w fun e w' => e = .returned (.bool true) ∧ Grown w w' := by
  have ha := wf32 w0
  clear w0
  go_enter Try.func5, Try.ntmps5
  go_wp2_with (first | (go_at_call 13; refine (sBitsOf_any _ ha _).mono ?_; rintro e w' ⟨rfl, rfl⟩) | (go_at_call 14; refine (bitsOf_any _ ha _).mono ?_; rintro e w' ⟨rfl, n, rfl⟩))
  go_ret
  exact ⟨rfl, grown_drewN (Grown.refl _) _⟩
end Go.Proofs.Ytlgamkbonpjchaa
