/- Contracts of the small functions on numbers. -/
import Derived.Test.YthinjgiakaflpabRows
import Derived.Test.YthinjgiakaflpabFlt
import Derived.Test.YthinjgiakaflpabFlt2
import Derived.Test.YthinjgiakaflpabIn
import Derived.KernelRfl
namespace Go.Proofs.Ythinjgiakaflpab
open Go.RowKit Flt

@[go_sem] theorem callFloat32bits (b : Nat) (w : World) : (callFunc 160 #[.float .f32 b]).run Try.prog w = .ok (.value (.int .u32 b)) w :=
  run_callFunc_extern (fn := Try.f160) Try.func160 (by kernel_rfl) (by kernel_rfl) (by kernel_rfl) (e := Extern.MathFloatBits.float32bits) (by kernel_rfl) _ _
@[go_sem] theorem callFloat64frombits (n : Int) (w : World) : (callFunc 162 #[.int .u64 n]).run Try.prog w = .ok (.value (.float .f64 n.toNat)) w :=
  run_callFunc_extern (fn := Try.f162) Try.func162 (by kernel_rfl) (by kernel_rfl) (by kernel_rfl) (e := Extern.MathFloatBits.float64frombits) (by kernel_rfl) _ _
@[go_sem] theorem callFloat64bits (b : Nat) (w : World) : (callFunc 163 #[.float .f64 b]).run Try.prog w = .ok (.value (.int .u64 b)) w :=
  run_callFunc_extern (fn := Try.f163) Try.func163 (by kernel_rfl) (by kernel_rfl) (by kernel_rfl) (e := Extern.MathFloatBits.float64bits) (by kernel_rfl) _ _

theorem l01Bits_any (b : Nat) (hb : b < 4294967296) (w : World) : Calls Try.prog 133 #[.float .f32 b] w fun e w' => e = .returned (.int .i64 (bitsC (cls .f32 b))) ∧ w = w' := by
  by_cases hn : nanW .f32 b = true
  · have H : Hid (bitsC (cls .f32 b) = 2143289344) := by rw [cls_nan hn]; rfl
    have hh : FloatKind.f32.format.order b b = none := by rw [order_self, hn]; rfl
    clear hn
    go_enter Try.func133, Try.ntmps133
    go_wp2
    go_ret
    exact ⟨by rw [H.out]; rfl, rfl⟩
  · simp only [Bool.not_eq_true] at hn
    have H : Hid (bitsC (cls .f32 b) = b) := by rw [cls_num hn]; rfl
    have hh : FloatKind.f32.format.order b b = some .eq := by rw [order_self, hn]; rfl
    clear hn
    go_enter Try.func133, Try.ntmps133
    go_wp2
    go_ret
    exact ⟨by rw [H.out]; rfl, rfl⟩
theorem isNaN64_any (b : Nat) (w : World) : Calls Try.prog 168 #[.float .f64 b] w fun e w' => e = .returned (.bool (cls .f64 b).isNone) ∧ w = w' := by
  by_cases hn : nanW .f64 b = true
  · have H : Hid ((cls .f64 b).isNone = true) := by rw [cls_nan hn]; rfl
    have hh : FloatKind.f64.format.order b b = none := by rw [order_self, hn]; rfl
    clear hn
    go_enter Try.func168, Try.ntmps168
    go_wp2
    go_ret
    exact ⟨by rw [H.out]; rfl, rfl⟩
  · simp only [Bool.not_eq_true] at hn
    have H : Hid ((cls .f64 b).isNone = false) := by rw [cls_num hn]; rfl
    have hh : FloatKind.f64.format.order b b = some .eq := by rw [order_self, hn]; rfl
    clear hn
    go_enter Try.func168, Try.ntmps168
    go_wp2
    go_ret
    exact ⟨by rw [H.out]; rfl, rfl⟩
theorem isNaN_any (b : Nat) (w : World) : Calls Try.prog 161 #[.float .f32 b] w fun e w' => e = .returned (.bool (cls .f32 b).isNone) ∧ ∃ n, w' = w.drewN n := by
  go_enter Try.func161, Try.ntmps161
  go_wp2_with (first | (refine wpList_widen rfl rfl Try.underlying22 Try.underlying107 rfl ?_; intro r n hr hrw) | (go_at_call 168; refine (isNaN64_any _ _).mono ?_; rintro e w' ⟨rfl, rfl⟩))
  go_ret
  exact ⟨by rw [hr.out, isNone_wide]; rfl, _, rfl⟩
theorem bitsOf_any (b : Nat) (hb : b < 4294967296) (w : World) : Calls Try.prog 134 #[.float .f32 b] w fun e w' => e = .returned (.int .i64 (bitsC (cls .f32 b))) ∧ ∃ n, w' = w.drewN n := by
  cases hc : cls .f32 b with
  | none =>
    have hN : (cls .f32 b).isNone = true := by rw [hc]; rfl
    clear hc
    go_enter Try.func134, Try.ntmps134
    go_wp2_with (go_at_call 161; refine (isNaN_any _ _).mono ?_; rintro e w' ⟨rfl, n, rfl⟩)
    go_ret
    exact ⟨rfl, _, rfl⟩
  | some c =>
    have hN : (cls .f32 b).isNone = false := by rw [hc]; rfl
    have hcb : c = b := by
      unfold cls at hc; split at hc
      · cases hc
      · cases hc; rfl
    subst hcb
    clear hc
    go_enter Try.func134, Try.ntmps134
    go_wp2_with (go_at_call 161; refine (isNaN_any _ _).mono ?_; rintro e w' ⟨rfl, n, rfl⟩)
    go_ret
    exact ⟨rfl, _, rfl⟩
theorem l01Same_any (a b : Nat) (ha : a < 4294967296) (hb : b < 4294967296) (w : World) : Calls Try.prog 84 #[.float .f32 a, .float .f32 b] w fun e w' => e = .returned (.bool (bitsC (cls .f32 a) == bitsC (cls .f32 b))) ∧ w = w' := by
  go_enter Try.func84, Try.ntmps84
  go_wp2_with (go_at_call 133; refine (l01Bits_any _ (by assumption) _).mono ?_; rintro e w' ⟨rfl, rfl⟩)
  go_ret
  exact ⟨rfl, rfl⟩
theorem same_any (a b : Nat) (ha : a < 4294967296) (hb : b < 4294967296) (w : World) : Calls Try.prog 85 #[.float .f32 a, .float .f32 b] w fun e w' => e = .returned (.bool (bitsC (cls .f32 a) == bitsC (cls .f32 b))) ∧ ∃ n, w' = w.drewN n := by
  go_enter Try.func85, Try.ntmps85
  go_wp2_with (go_at_call 134; refine (bitsOf_any _ (by assumption) _).mono ?_; rintro e w' ⟨rfl, n, rfl⟩)
  go_ret
  exact ⟨rfl, _, rfl⟩
theorem sameFloat_yes (a b : Nat) (x : Option Nat) (hxa : Hid (cls .f64 a = x)) (hxb : Hid (cls .f64 b = x)) (w : World) : Calls Try.prog 80 #[.float .f64 a, .float .f64 b] w fun e w' => e = .returned (.bool true) ∧ ∃ n, w' = w.drewN n := by
  have h : cls .f64 a = cls .f64 b := hxa.out.trans hxb.out.symm
  clear hxa hxb
  cases hc : cls .f64 a with
  | none =>
    have ha : FloatKind.f64.format.order a a = none := by rw [order_cls, hc]; rfl
    have hb : FloatKind.f64.format.order b b = none := by rw [order_cls, ← h, hc]; rfl
    clear h hc
    go_enter Try.func80, Try.ntmps80
    go_wp2
    go_ret
    exact ⟨rfl, 0, rfl⟩
  | some c =>
    have e1 := cls_word hc
    have e2 := cls_word (h.symm.trans hc)
    subst e1
    subst e2
    have hn := cls_ok .f64 _ _ hc
    have ha : FloatKind.f64.format.order c c = some .eq := by rw [order_self, hn]; rfl
    clear h hc hn
    by_cases h0 : (FloatKind.f64.format.order c 0 == some .eq) = true
    · go_enter Try.func80, Try.ntmps80
      go_wp2_with (refine wpList_farith rfl rfl rfl rfl rfl ?_; intro r n hr hrw)
      rename_i r1 n1 g1 _
      have e : FloatKind.f64.format.order r1 0 = FloatKind.f64.format.order r 0 := by
        rw [order_cls, order_cls .f64 r, g1.out, hr.out]
      go_ret
      exact ⟨by simp [e], _, rfl⟩
    · simp only [Bool.not_eq_true] at h0
      go_enter Try.func80, Try.ntmps80
      go_wp2
      go_ret
      exact ⟨rfl, 0, rfl⟩
end Go.Proofs.Ythinjgiakaflpab
