/- Contracts of the small functions on numbers. -/
import Derived.Test.YthadoamehdnnoaaRows
import Derived.Test.YthadoamehdnnoaaFlt
import Derived.Test.YthadoamehdnnoaaFlt2
import Derived.Test.YthadoamehdnnoaaIn
import Derived.KernelRfl
namespace Go.Proofs.Ythadoamehdnnoaa
open Go.RowKit Flt

@[go_sem] theorem callFloat64frombits (n : Int) (w : World) : (callFunc 26 #[.int .u64 n]).run Try.prog w = .ok (.value (.float .f64 n.toNat)) w :=
  run_callFunc_extern (fn := Try.f26) Try.func26 (by kernel_rfl) (by kernel_rfl) (by kernel_rfl) (e := Extern.MathFloatBits.float64frombits) (by kernel_rfl) _ _
@[go_sem] theorem callFloat64bits (b : Nat) (w : World) : (callFunc 27 #[.float .f64 b]).run Try.prog w = .ok (.value (.int .u64 b)) w :=
  run_callFunc_extern (fn := Try.f27) Try.func27 (by kernel_rfl) (by kernel_rfl) (by kernel_rfl) (e := Extern.MathFloatBits.float64bits) (by kernel_rfl) _ _

theorem isNaN64_any (b : Nat) (w : World) : Calls Try.prog 23 #[.float .f64 b] w fun e w' => e = .returned (.bool (cls .f64 b).isNone) ∧ w = w' := by
  by_cases hn : nanW .f64 b = true
  · have H : Hid ((cls .f64 b).isNone = true) := by rw [cls_nan hn]; rfl
    have hh : FloatKind.f64.format.order b b = none := by rw [order_self, hn]; rfl
    clear hn
    go_enter Try.func23, Try.ntmps23
    go_wp2
    go_ret
    exact ⟨by rw [H.out]; rfl, rfl⟩
  · simp only [Bool.not_eq_true] at hn
    have H : Hid ((cls .f64 b).isNone = false) := by rw [cls_num hn]; rfl
    have hh : FloatKind.f64.format.order b b = some .eq := by rw [order_self, hn]; rfl
    clear hn
    go_enter Try.func23, Try.ntmps23
    go_wp2
    go_ret
    exact ⟨by rw [H.out]; rfl, rfl⟩
theorem sameFloat_yes (a b : Nat) (x : Option Nat) (hxa : Hid (cls .f64 a = x)) (hxb : Hid (cls .f64 b = x)) (w : World) : Calls Try.prog 16 #[.float .f64 a, .float .f64 b] w fun e w' => e = .returned (.bool true) ∧ ∃ n, w' = w.drewN n := by
  have h : cls .f64 a = cls .f64 b := hxa.out.trans hxb.out.symm
  clear hxa hxb
  cases hc : cls .f64 a with
  | none =>
    have ha : FloatKind.f64.format.order a a = none := by rw [order_cls, hc]; rfl
    have hb : FloatKind.f64.format.order b b = none := by rw [order_cls, ← h, hc]; rfl
    clear h hc
    go_enter Try.func16, Try.ntmps16
    go_wp2
    go_ret
    exact ⟨rfl, 0, rfl⟩
  | some c =>
    have e1 := cls_word hc
    have e2 := cls_word (h.symm.trans hc)
    subst e1
    subst e2
    have hn := cls_ok .f64 _ _ hc
    have ha : FloatKind.f64.format.order c c = some .eq := by rw [order_self, hn]; rfl
    clear h hc hn
    by_cases h0 : (FloatKind.f64.format.order c 0 == some .eq) = true
    · go_enter Try.func16, Try.ntmps16
      go_wp2_with (refine wpList_farith rfl rfl rfl rfl rfl ?_; intro r n hr hrw)
      rename_i r1 n1 g1 _
      have e : FloatKind.f64.format.order r1 0 = FloatKind.f64.format.order r 0 := by
        rw [order_cls, order_cls .f64 r, g1.out, hr.out]
      go_ret
      exact ⟨by simp [e], _, rfl⟩
    · simp only [Bool.not_eq_true] at h0
      go_enter Try.func16, Try.ntmps16
      go_wp2
      go_ret
      exact ⟨rfl, 0, rfl⟩
end Go.Proofs.Ythadoamehdnnoaa
