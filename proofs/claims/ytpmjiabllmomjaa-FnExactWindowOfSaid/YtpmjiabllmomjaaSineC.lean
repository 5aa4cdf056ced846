/- The sine of turns, as the documents tells it, on classes. -/
import Derived.Test.YtpmjiabllmomjaaTrunc
import Derived.Test.YtpmjiabllmomjaaSqrt
namespace Go.Proofs.Ytpmjiabllmomjaa.Flt
open Ieee Go.RowKit

def cOne : Option Nat := some 4607182418800017408
def cHalf : Option Nat := some 4602678819172646912
def cQuarter : Option Nat := some 4598175219545276416
def cTurn : Option Nat := some 4618760256179416344
/-- what is behind the whole turns -/
def fracC (x : Option Nat) (n : Int) : Option Nat :=
  if fcmp .lss (ford .f64 (fop .sub .f64 x (some (floatOfInt .f64 n))) (some 0)) then fop .add .f64 (fop .sub .f64 x (some (floatOfInt .f64 n))) (some 4607182418800017408) else fop .sub .f64 x (some (floatOfInt .f64 n))
/-- the polynomial's rounds -/
def roundC (u p : Option Nat) (d : Int) : Option Nat := fop .sub .f64 (some 4607182418800017408) (fop .quo .f64 (fop .mul .f64 u p) (some (floatOfInt .f64 d)))
def polyC (u : Option Nat) : Option Nat := roundC u (roundC u (roundC u (roundC u (roundC u (roundC u (roundC u (roundC u (some 4607182418800017408) 272) 210) 156) 110) 72) 42) 20) 6
def zC (f : Option Nat) : Option Nat := fop .mul .f64 f (some 4618760256179416344)
def armC (f : Option Nat) : Option Nat := fop .mul .f64 (zC f) (polyC (fop .mul .f64 (zC f) (zC f)))
def foldC (f : Option Nat) : Option Nat := if fcmp .gtr (ford .f64 f (some 4598175219545276416)) then fop .sub .f64 (some 4602678819172646912) f else f
def sineC (f : Option Nat) : Option Nat :=
  if fcmp .geq (ford .f64 f (some 4602678819172646912)) then fneg (armC (foldC (fop .sub .f64 f (some 4602678819172646912)))) else armC (foldC f)

theorem mag_num (c : Nat) (s : Bool) (m : Nat) (i e : Int) (h : FloatKind.f64.format.read c = .number s m i) (hi : -1074 ≤ i) (hl : i ≤ e ∧ m ≤ 2 ^ (e - i).toNat) : magC (some c) e := ⟨c, s, m, i, rfl, h, hi, .inr hl⟩
theorem mag_one : magC (some 4607182418800017408) 0 := mag_num _ false (2 ^ 52) (-52) 0 (by decide) (by omega) (by decide)
theorem mag_half : magC (some 4602678819172646912) 0 := mag_num _ false (2 ^ 52) (-53) 0 (by decide) (by omega) (by decide)
theorem mag_turn : magC (some 4618760256179416344) 3 := mag_num _ false 7074237752028440 (-50) 3 (by decide) (by omega) (by decide)
theorem pos_int (d : Int) (c : Nat) (hc : floatOfInt .f64 d = c) (m : Nat) (i : Int) (h : FloatKind.f64.format.read c = .number false m i) (hi : -1074 ≤ i) (hm : m ≠ 0 ∧ 2 ^ (2 - i).toNat ≤ m) : posC (some (floatOfInt .f64 d)) 2 := by
  rw [hc]; exact ⟨c, m, i, rfl, h, hi, hm⟩

theorem mag_frac {x : Option Nat} {n : Int} (h : magC (fop .sub .f64 x (some (floatOfInt .f64 n))) 0) : magC (fracC x n) 1 := by
  unfold fracC
  split
  · exact mag_add h mag_one (by omega) (by omega)
  · exact magC_mono h (by omega)
theorem mag_round {u p : Option Nat} {d : Int} {e : Int} (hu : magC u 16) (hp : magC p e) (hd : posC (some (floatOfInt .f64 d)) 2) (h0 : 0 ≤ e) (h1 : e ≤ 500) : magC (roundC u p d) (e + 15) := by
  have g1 := mag_mul hu hp (by omega) (by omega)
  have g2 := mag_quo g1 hd (by omega) (by omega)
  exact magC_mono (mag_sub mag_one g2 (by omega) (by omega)) (by omega)
theorem mag_poly {u : Option Nat} (hu : magC u 16) : magC (polyC u) 120 := by
  have h1 := mag_round hu mag_one (pos_int 272 4643492690795692032 (by decide) 4785074604081152 (-44) (by decide) (by omega) (by decide)) (by omega) (by omega)
  have h2 := mag_round hu h1 (pos_int 210 4641592734702895104 (by decide) 7388718138654720 (-45) (by decide) (by omega) (by decide)) (by omega) (by omega)
  have h3 := mag_round hu h2 (pos_int 156 4639692778610098176 (by decide) 5488762045857792 (-45) (by decide) (by omega) (by decide)) (by omega) (by omega)
  have h4 := mag_round hu h3 (pos_int 110 4637440978796412928 (by decide) 7740561859543040 (-46) (by decide) (by omega) (by decide)) (by omega) (by omega)
  have h5 := mag_round hu h4 (pos_int 72 4634766966517661696 (by decide) 5066549580791808 (-46) (by decide) (by omega) (by decide)) (by omega) (by omega)
  have h6 := mag_round hu h5 (pos_int 42 4631107791820423168 (by decide) 5910974510923776 (-47) (by decide) (by omega) (by decide)) (by omega) (by omega)
  have h7 := mag_round hu h6 (pos_int 20 4626322717216342016 (by decide) 5629499534213120 (-48) (by decide) (by omega) (by decide)) (by omega) (by omega)
  have h8 := mag_round hu h7 (pos_int 6 4618441417868443648 (by decide) 6755399441055744 (-50) (by decide) (by omega) (by decide)) (by omega) (by omega)
  exact magC_mono h8 (by omega)
theorem mag_z {f : Option Nat} {e : Int} (h : magC f e) (h0 : 0 ≤ e) (h1 : e ≤ 500) : magC (zC f) (e + 3) := mag_mul h mag_turn (by omega) (by omega)
theorem mag_arm {f : Option Nat} (h : magC f 3) : magC (armC f) 126 := by
  have hz := mag_z h (by omega) (by omega)
  have hu := mag_mul hz hz (by omega) (by omega)
  have hp := mag_poly (magC_mono hu (by omega))
  exact magC_mono (mag_mul hz hp (by omega) (by omega)) (by omega)
theorem mag_fold {f : Option Nat} {e : Int} (h : magC f e) (h0 : 0 ≤ e) (h1 : e ≤ 500) : magC (foldC f) (e + 1) := by
  unfold foldC
  split
  · exact magC_mono (mag_sub mag_half h (by omega) (by omega)) (by omega)
  · exact magC_mono h (by omega)
theorem mag_sine {f : Option Nat} (h : magC f 1) : magC (sineC f) 126 := by
  unfold sineC
  split
  · exact mag_neg (mag_arm (mag_fold (mag_sub h mag_half (by omega) (by omega)) (by omega) (by omega)))
  · exact mag_arm (magC_mono (mag_fold h (by omega) (by omega)) (by omega))

end Go.Proofs.Ytpmjiabllmomjaa.Flt
