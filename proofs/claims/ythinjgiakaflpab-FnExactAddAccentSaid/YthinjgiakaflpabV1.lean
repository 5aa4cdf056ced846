/- Valid throats. -/
import Derived.Test.YthinjgiakaflpabT18
import Derived.Test.YthinjgiakaflpabT5
import Derived.Test.YthinjgiakaflpabMany
import Derived.Test.YthinjgiakaflpabQuo
import Derived.BigQuiet
import Derived.Deep.RegionHeld3
namespace Go.Proofs.Ythinjgiakaflpab
open Go.RowKit Flt Ieee
set_option linter.unusedVariables false

theorem Box.cells5 {w : World} {b : Nat} {v0 v1 v2 v3 v4 : Value} (h : Box w b #[v0, v1, v2, v3, v4]) :
    w.cell? ⟨b, 0, none⟩ = some v0 ∧ w.cell? ⟨b, 1, none⟩ = some v1 ∧ w.cell? ⟨b, 2, none⟩ = some v2 ∧ w.cell? ⟨b, 3, none⟩ = some v3 ∧ w.cell? ⟨b, 4, none⟩ = some v4 ∧ b < w.heap.size := ⟨h.cell 0, h.cell 1, h.cell 2, h.cell 3, h.cell 4, h.lt⟩
theorem Box.cells3 {w : World} {b : Nat} {v0 v1 v2 : Value} (h : Box w b #[v0, v1, v2]) :
    w.cell? ⟨b, 0, none⟩ = some v0 ∧ w.cell? ⟨b, 1, none⟩ = some v1 ∧ w.cell? ⟨b, 2, none⟩ = some v2 ∧ b < w.heap.size := ⟨h.cell 0, h.cell 1, h.cell 2, h.lt⟩
theorem Box.cells1 {w : World} {b : Nat} {v0 : Value} (h : Box w b #[v0]) : w.cell? ⟨b, 0, none⟩ = some v0 ∧ b < w.heap.size := ⟨h.cell 0, h.lt⟩
theorem Box.cast' {w : World} {b b' : Nat} {vs : Array Value} (h : Box w b vs) (e : b = b') : Box w b' vs := e ▸ h

/-- a throat, told by the classes of its numbers -/
def leastC (x : Option Nat) : Bool := fcmp .geq (ford .f32 x (some 0)) && fin32 x
def periodC (x : Option Nat) : Bool := fcmp .geq (ford .f32 x (some 1073741824)) && fcmp .leq (ford .f32 x (some 1148846080))
def opensC (o c : Option Nat) : Bool := fcmp .gtr (ford .f32 o (some 0)) && (fcmp .gtr (ford .f32 c (some 0)) && fcmp .leq (ford .f32 (fop .add .f32 o c) (some 1065353216)))
def shakeC (x : Option Nat) : Bool := fcmp .geq (ford .f32 x (some 0)) && fcmp .leq (ford .f32 x (some 1056964608))
def throatC (p o c b s : Option Nat) : Bool := periodC p && (opensC o c && (leastC b && shakeC s))

theorem l02Least_any (b : Nat) (w : World) : Calls Try.prog 116 #[.float .f32 b] w fun e w' => e = .returned (.bool (leastC (cls .f32 b))) ∧ Ext w w' := by
  unfold leastC
  cases h2 : fin32 (cls .f32 b) <;> cases h1 : fcmp .geq (ford .f32 (cls .f32 b) (some 0))
  all_goals
    go_enter Try.func116, Try.ntmps116
    go_wp2_with (first | (refine wpList_fcmp rfl rfl rfl rfl rfl (by first | exact is_const (by decide) | exact is_self _ _) (by first | exact is_const (by decide) | exact is_self _ _) ?_; try simp only [h1]) | (go_at_call 101; refine (l01Finite_any _ _).mono ?_; rintro e w' ⟨rfl, m, rfl⟩))
    go_ret
    refine ⟨rfl, ?_⟩
    (repeat with_reducible (first | exact Ext.refl _ | exact ext_alloc _ _ | refine Ext.drewN ?_ _ | refine Ext.drew1 ?_ | refine Ext.set ?_ (by dsimp only; omega) _ | refine Ext.alloc ?_ _))
def throatS (p o c b s : Option Nat) : Bool := periodC p && (areaC o && (areaC c && (fcmp .leq (ford .f32 (fop .add .f32 o c) (some 1065353216)) && (leastC b && shakeC s))))
theorem ord_geq (b c : Nat) (hc : nanW .f32 c = false) : (FloatKind.f32.format.order b c == some .gt || FloatKind.f32.format.order b c == some .eq) = fcmp .geq (ford .f32 (cls .f32 b) (some c)) := by
  rw [order_cls, cls_num hc]; rfl
theorem ord_leq (b c : Nat) (hc : nanW .f32 c = false) : (FloatKind.f32.format.order b c == some .lt || FloatKind.f32.format.order b c == some .eq) = fcmp .leq (ford .f32 (cls .f32 b) (some c)) := by
  rw [order_cls, cls_num hc]; rfl
theorem ord_leq_of (b c : Nat) {X : Option Nat} (hb : cls .f32 b = X) (hc : nanW .f32 c = false) : (FloatKind.f32.format.order b c == some .lt || FloatKind.f32.format.order b c == some .eq) = fcmp .leq (ford .f32 X (some c)) := by
  rw [order_cls, cls_num hc, hb]; rfl
theorem sum_some {x y : Nat} {d : Datum} (h : (FloatKind.f32.format.read x).sum (FloatKind.f32.format.read y) = some d) : floatBits .add .f32 x y = some (FloatKind.f32.format.write d) := by
  simp [floatBits, Format.add, h]
theorem open_sum (o c : Nat) {t : TypeId} (h3 : areaC (cls .f32 o) = true) (h4 : areaC (cls .f32 c) = true) : ∃ r, cls .f32 r = fop .add .f32 (cls .f32 o) (cls .f32 c) ∧ ∀ w, (binOp .add t (.float .f32 o) (.float .f32 c)).run Try.prog w = .ok (.float .f32 r) w := by
  unfold areaC at h3 h4
  simp only [Bool.and_eq_true] at h3 h4
  obtain ⟨m, i, e1, r1, hm, _⟩ := area_num o h3.1 h3.2
  obtain ⟨n, j, e2, r2, _⟩ := area_num c h4.1 h4.2
  have e := sum_some (x := o) (y := c) (by rw [r1, r2]; exact sum_pos m n i j hm)
  refine ⟨_, ?_, fun w => run_float_arith w _ _ _ _ _ _ e⟩
  rw [← floatBits_cls, e]
  exact cls_num (floatBits_num e)
theorem pos_inf (w : Nat) (h1 : fcmp .gtr (ford .f32 (cls .f32 w) (some 0)) = true) (h2 : fin32 (cls .f32 w) = false) : cls .f32 w = some w ∧ FloatKind.f32.format.read w = .infinity false := by
  cases hc : cls .f32 w with
  | none => rw [hc] at h1; simp [ford, fcmp] at h1
  | some b =>
    have hn := cls_ok .f32 w b hc
    have hb := cls_word hc
    subst hb
    refine ⟨rfl, ?_⟩
    rw [hc] at h1 h2
    have hz : FloatKind.f32.format.read 0 = .number false 0 (-149) := by decide
    rcases read32 b hn with ⟨s, hr⟩ | ⟨s, m, i, hr, _⟩
    · cases s
      · exact hr
      · simp [fcmp, ford, Format.order, hr, hz, Datum.order] at h1
    · simp [fin32, hr, Datum.isInfinity] at h2
theorem sum_inf_bad {o c : Nat} (ho : cls .f32 o = some o) (hc : cls .f32 c = some c) (h : (FloatKind.f32.format.read o).sum (FloatKind.f32.format.read c) = some (.infinity false)) : fcmp .leq (ford .f32 (fop .add .f32 (cls .f32 o) (cls .f32 c)) (some 1065353216)) = false := by
  have e : fop .add .f32 (some o) (some c) = some (FloatKind.f32.format.write (.infinity false)) := by
    show (floatBits .add .f32 o c) = _
    simp [floatBits, Format.add, h]
  rw [ho, hc, e]
  decide
theorem opens_fin (o c : Nat) (h3 : fcmp .gtr (ford .f32 (cls .f32 o) (some 0)) = true) (h4 : fcmp .gtr (ford .f32 (cls .f32 c) (some 0)) = true) (h5 : fcmp .leq (ford .f32 (fop .add .f32 (cls .f32 o) (cls .f32 c)) (some 1065353216)) = true) : fin32 (cls .f32 o) = true ∧ fin32 (cls .f32 c) = true := by
  cases ho : fin32 (cls .f32 o) with
  | false =>
    exfalso
    obtain ⟨e1, r1⟩ := pos_inf o h3 ho
    cases hc : fin32 (cls .f32 c) with
    | false =>
      obtain ⟨e2, r2⟩ := pos_inf c h4 hc
      rw [sum_inf_bad e1 e2 (by rw [r1, r2]; rfl)] at h5; cases h5
    | true =>
      obtain ⟨m, i, e2, r2, _⟩ := area_num c h4 hc
      rw [sum_inf_bad e1 e2 (by rw [r1, r2]; rfl)] at h5; cases h5
  | true =>
    refine ⟨rfl, ?_⟩
    cases hc : fin32 (cls .f32 c) with
    | true => rfl
    | false =>
      exfalso
      obtain ⟨e2, r2⟩ := pos_inf c h4 hc
      obtain ⟨m, i, e1, r1, _⟩ := area_num o h3 ho
      rw [sum_inf_bad e1 e2 (by rw [r1, r2]; rfl)] at h5; cases h5
theorem throat_eq (p o c b s : Nat) : throatS (cls .f32 p) (cls .f32 o) (cls .f32 c) (cls .f32 b) (cls .f32 s) = throatC (cls .f32 p) (cls .f32 o) (cls .f32 c) (cls .f32 b) (cls .f32 s) := by
  unfold throatS throatC opensC areaC
  generalize periodC (cls .f32 p) = A
  generalize (leastC (cls .f32 b) && shakeC (cls .f32 s)) = D
  have := opens_fin o c
  revert this
  cases fcmp .gtr (ford .f32 (cls .f32 o) (some 0)) <;> cases fcmp .gtr (ford .f32 (cls .f32 c) (some 0)) <;> cases fcmp .leq (ford .f32 (fop .add .f32 (cls .f32 o) (cls .f32 c)) (some 1065353216)) <;> simp
  intro h1 h2
  simp [h1, h2]
theorem l02Least_drew (b : Nat) (w : World) : Calls Try.prog 116 #[.float .f32 b] w fun e w' => e = .returned (.bool (leastC (cls .f32 b))) ∧ ∃ m, w' = w.drewN m := by
  unfold leastC
  cases h2 : fin32 (cls .f32 b) <;> cases h1 : fcmp .geq (ford .f32 (cls .f32 b) (some 0))
  all_goals
    go_enter Try.func116, Try.ntmps116
    go_wp2_with (first | (refine wpList_fcmp rfl rfl rfl rfl rfl (by first | exact is_const (by decide) | exact is_self _ _) (by first | exact is_const (by decide) | exact is_self _ _) ?_; try simp only [h1]) | (go_at_call 101; refine (l01Finite_any _ _).mono ?_; rintro e w' ⟨rfl, m, rfl⟩; simp only [h2]))
    go_ret
    exact ⟨rfl, _, rfl⟩
theorem l02Above_is (b : Nat) (V : Bool) (w : World) (h : areaC (cls .f32 b) = V) : Calls Try.prog 117 #[.float .f32 b] w fun e w' => e = .returned (.bool V) ∧ ∃ m, w' = w.drewN m := by
  rw [← h]; exact l02Above_any _ _
theorem l02Least_is (b : Nat) (V : Bool) (w : World) (h : leastC (cls .f32 b) = V) : Calls Try.prog 116 #[.float .f32 b] w fun e w' => e = .returned (.bool V) ∧ ∃ m, w' = w.drewN m := by
  rw [← h]; exact l02Least_drew _ _
end Go.Proofs.Ythinjgiakaflpab
