/- e to a power, in the middle. -/
import Derived.Test.YtdepfikbjehjiaaNum
import Derived.Test.YtdepfikbjehjiaaIs
namespace Go.Proofs.Ytdepfikbjehjiaa
open Go.RowKit Flt

def expStep (t p : Option Nat) (k : Int) : Option Nat := fop .add .f64 (some 4607182418800017408) (fop .quo .f64 (fop .mul .f64 t p) (some (floatOfInt .f64 k)))
def expSum (t : Option Nat) : Option Nat := expStep t (expStep t (expStep t (expStep t (expStep t (expStep t (expStep t (expStep t (expStep t (expStep t (expStep t (expStep t (some 4607182418800017408) 12) 11) 10) 9) 8) 7) 6) 5) 4) 3) 2) 1
def sqC (p : Option Nat) : Option Nat := fop .mul .f64 p p
def expC (X : Option Nat) : Option Nat := sqC (sqC (sqC (sqC (sqC (sqC (sqC (sqC (expSum (fop .quo .f64 X (some 4643211215818981376))))))))))
set_option maxRecDepth 100000 in
set_option maxHeartbeats 1000000 in
theorem exp_mid (a : Nat) (hN : (cls .f32 a).isNone = false) (hG : fcmp .gtr (ford .f32 (cls .f32 a) (some 1128792064)) = false) (hL : fcmp .lss (ford .f32 (cls .f32 a) (some 3276275712)) = false) (HF : Hid (fits (expC (fwide (cls .f32 a))))) (w : World) :
    Calls Try.prog 17 #[.float .f32 a] w fun e w' => ∃ r, e = .returned (.float .f32 r) ∧ Is .f32 r (fnar (expC (fwide (cls .f32 a)))) ∧ ∃ m, w' = w.drewN m := by
  have h0 : Is .f32 a (cls .f32 a) := rfl
  have H : Hid (expC (fwide (cls .f32 a)) = sqC (sqC (sqC (sqC (sqC (sqC (sqC (sqC (expSum (fop .quo .f64 (fwide (cls .f32 a)) (some 4643211215818981376))))))))))) := rfl
  go_enter Try.func17, Try.ntmps17
  go_wp2_with (first | (go_at_call 21; refine (isNaN_any _ _).mono ?_; rintro e w' ⟨rfl, n, rfl⟩) | (refine wpList_fw rfl rfl Try.underlying28 Try.underlying34 rfl (by assumption) ?_; intro r n hr hrw) | (refine wpList_fa rfl rfl rfl rfl rfl (by first | assumption | exact is_const (by decide)) (by first | assumption | exact is_const (by decide) | exact is_int _) ?_; intro r n hr hrw) | (refine wpList_fcmp rfl rfl rfl rfl rfl (by first | assumption | exact is_const (by decide)) (by first | assumption | exact is_const (by decide)) ?_; try simp only [hG, hL]))
  refine wp_loop_rounds 13 ?_
  repeat (rw [rounds_succ]; go_wp2_with (first | (refine wpList_fa rfl rfl rfl rfl rfl (by first | assumption | exact is_const (by decide)) (by first | assumption | exact is_const (by decide) | exact is_int _) ?_; intro r n hr hrw) | (refine wpList_fn rfl rfl Try.underlying34 Try.underlying28 rfl (by first | assumption | exact is_const (by decide)) HF.out ?_; intro r n hr hrw) | (refine wpList_fcmp rfl rfl rfl rfl rfl (by first | assumption | exact is_const (by decide)) (by first | assumption | exact is_const (by decide)) ?_; try simp only [hG, hL])))
  refine wp_loop_rounds 9 ?_
  repeat (rw [rounds_succ]; go_wp2_with (first | (refine wpList_fa rfl rfl rfl rfl rfl (by first | assumption | exact is_const (by decide)) (by first | assumption | exact is_const (by decide) | exact is_int _) ?_; intro r n hr hrw) | (refine wpList_fn rfl rfl Try.underlying34 Try.underlying28 rfl (by first | assumption | exact is_const (by decide)) HF.out ?_; intro r n hr hrw) | (refine wpList_fcmp rfl rfl rfl rfl rfl (by first | assumption | exact is_const (by decide)) (by first | assumption | exact is_const (by decide)) ?_; try simp only [hG, hL])))
  go_ret
  exact ⟨_, rfl, by assumption, _, rfl⟩
end Go.Proofs.Ytdepfikbjehjiaa
