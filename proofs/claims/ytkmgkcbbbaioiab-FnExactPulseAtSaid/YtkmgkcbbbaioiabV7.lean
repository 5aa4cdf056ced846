/- Numbers that tremble. -/
import Derived.Test.YtkmgkcbbbaioiabV5
import Derived.Test.YtkmgkcbbbaioiabSineT
namespace Go.Proofs.Ytkmgkcbbbaioiab
open Go.RowKit Flt
set_option linter.unusedVariables false

/-- the sine of turns, as a function of classes -/
noncomputable def sineF (x : Option Nat) : Option Nat := by
  classical exact if h : ∃ r, sineResult x r then Classical.choose h else none
theorem sineF_of {x r : Option Nat} (h : sineResult x r) : sineF x = r := by
  have hx : ∃ r, sineResult x r := ⟨r, h⟩
  unfold sineF
  rw [dif_pos hx]
  exact sine_one (Classical.choose_spec hx) h
theorem sine_is (b : Nat) (X : Option Nat) (hX : Is .f32 b X) (w : World) : Calls Try.prog 75 #[.float .f32 b] w fun e w' => ∃ r, e = .returned (.float .f32 r) ∧ Is .f32 r (sineF X) ∧ ∃ m, w' = w.drewN m := by
  refine (sineTurns_any b w).mono ?_
  rintro e w' ⟨r, Y, rfl, hr, hs, m, rfl⟩
  rw [hX.out] at hs
  exact ⟨r, rfl, by rw [sineF_of hs]; exact hr, m, rfl⟩
theorem l01Sine_is (b : Nat) (X : Option Nat) (hX : Is .f32 b X) (w : World) : Calls Try.prog 73 #[.float .f32 b] w fun e w' => ∃ r, e = .returned (.float .f32 r) ∧ Is .f32 r (sineF X) ∧ ∃ m, w' = w.drewN m := by
  refine (l01Sine_any b w).mono ?_
  rintro e w' ⟨r, Y, rfl, hr, hs, m, rfl⟩
  rw [hX.out] at hs
  exact ⟨r, rfl, by rw [sineF_of hs]; exact hr, m, rfl⟩
noncomputable def tremC (b d t : Option Nat) (k : Nat) : Option Nat := fop .mul .f32 b (fop .add .f32 (some 1065353216) (fop .mul .f32 d (sineF (fop .mul .f32 t (some (floatOfInt .f32 (k : Int)))))))
noncomputable def tremR (b d t : Option Nat) (n : Int) : List (Option Nat) × Bool := if finsC [b, d, t] && (decide (1 ≤ n) && decide (n ≤ 256)) then soundR (tremC b d t) n.toNat else ([], false)
theorem trem_len (b d t : Option Nat) (n : Int) : (tremR b d t n).1.length ≤ 256 := by
  unfold tremR
  split
  · rename_i h
    simp at h
    have := soundR_len (tremC b d t) n.toNat
    omega
  · exact Nat.zero_le _
set_option maxHeartbeats 1000000 in
theorem tremble_clo (k : Nat) (b6 b4 b5 x y z : Nat) (w : World) (h6 : Box w b6 #[.float .f32 z]) (h4 : Box w b4 #[.float .f32 x]) (h5 : Box w b5 #[.float .f32 y]) :
    Calls Try.prog 74 #[.int .i64 (k : Int), .pointer (some ⟨b6, 0, none⟩), .pointer (some ⟨b4, 0, none⟩), .pointer (some ⟨b5, 0, none⟩)] w fun e w' => ∃ r, e = .returned (.float .f32 r) ∧ cls .f32 r = tremC (cls .f32 x) (cls .f32 y) (cls .f32 z) k ∧ Ext w w' := by
  obtain ⟨c6, l6⟩ := Box.cells1 h6
  obtain ⟨c4, l4⟩ := Box.cells1 h4
  obtain ⟨c5, l5⟩ := Box.cells1 h5
  have HZ := is_self .f32 z
  have HX := is_self .f32 x
  have HY := is_self .f32 y
  clear h6 h4 h5
  go_enter Try.func74, Try.ntmps74
  go_wp2_with (first
    | (refine wpList_fa rfl rfl rfl rfl rfl (by first | assumption | exact is_const (by decide) | exact is_int _) (by first | assumption | exact is_const (by decide) | exact is_int _) ?_; intro r n hr hrw)
    | (go_at_call 75; refine (sine_is _ _ (by assumption) _).mono ?_; rintro e w' ⟨r, rfl, hr, m, rfl⟩))
  go_ret
  refine ⟨_, rfl, Is.out (by assumption), ?_⟩
  (repeat with_reducible (first | exact Ext.refl _ | exact ext_alloc _ _ | refine Ext.drewN ?_ _ | refine Ext.drew1 ?_ | refine Ext.set ?_ (by dsimp only; omega) _ | refine Ext.alloc ?_ _))
end Go.Proofs.Ytkmgkcbbbaioiab
