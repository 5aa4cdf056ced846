/- The flow of a throat: the closure's contract. -/
import Derived.Test.YtkmgkcbbbaioiabP2
import Derived.Test.YtkmgkcbbbaioiabT8
import Derived.Deep.RegionHeld3
namespace Go.Proofs.Ytkmgkcbbbaioiab
open Go.RowKit Flt Ieee
set_option linter.unusedVariables false

def behindC (X : Option Nat) : Option Nat := fop .sub .f32 X (fnar (X.map fun q => floorW (wide q)))
noncomputable def flowK (t o c : Option Nat) (k : Nat) : Option Nat := flowC o c (behindC (quoC t k))
theorem cellsQ5 {w : World} {b : Nat} {v0 v1 v2 v3 v4 : Value} (h : Box w b #[v0, v1, v2, v3, v4]) :
    w.cell? ⟨b, 0, none⟩ = some v0 ∧ w.cell? ⟨b, 1, none⟩ = some v1 ∧ w.cell? ⟨b, 2, none⟩ = some v2 ∧ w.cell? ⟨b, 3, none⟩ = some v3 ∧ w.cell? ⟨b, 4, none⟩ = some v4 := ⟨h.cell 0, h.cell 1, h.cell 2, h.cell 3, h.cell 4⟩
theorem wide_bits {b : Nat} (hn' : nanW .f32 b = false) : floatToFloatBits .f32 b .f64 = some (wide b) := by
  rcases read32 b hn' with ⟨s, hr⟩ | ⟨s, m, e, hr, h1, h2, h3⟩
  · have hr' : FloatKind.f32.decode b = .infinity s := hr
    simp [floatToFloatBits, hr', wide]
  · have hr' : FloatKind.f32.decode b = .number s m e := hr
    have := encode_fin s m e h1 h2 h3
    simp [floatToFloatBits, hr', wide]
    exact this
theorem nar_bits {b : Nat} {e : Int} (hm : magC (some b) e) (he : e ≤ 126) : floatToFloatBits .f64 b .f32 = some (nar b) := by
  have hn' := mag_num64 hm
  have hf := fits_of_mag hm he
  obtain ⟨_, s, m, i, hb, hd, _⟩ := hm
  cases hb
  have hr' : FloatKind.f64.decode b = .number s m i := hd
  rcases hf b rfl with ⟨t, ht⟩ | hi
  · rw [hd] at ht; cases ht
  · have e1 : nar b = FloatKind.f32.encode (.number s m i) := by simp [nar, hr']
    have hi' : (FloatKind.f32.decode (FloatKind.f32.encode (.number s m i))).isInfinity = false := by
      rw [← e1]; exact hi
    simp [floatToFloatBits, hr', nar, hi']
theorem nar_num {b : Nat} (hm : magC (some b) 22) : ∃ s m i, FloatKind.f32.format.read (nar b) = .number s m i := by
  obtain ⟨_, s, m, i, hb, hd, _, hl⟩ := hm
  cases hb
  have hr' : FloatKind.f64.decode b = .number s m i := hd
  have e1 : nar b = FloatKind.f32.format.nearest s m i := by simp [nar, hr']; rfl
  obtain ⟨m', i', g1, _⟩ := near32 s m i 22 hl (by omega) (by omega)
  exact ⟨s, m', i', by rw [e1]; exact g1⟩
/-- what is behind the whole part of a small number: no tape has a say in it -/
theorem behind_bits {q : Nat} (hn : nanW .f32 q = false) (hm : magC (fwide (some q)) 22) : ∃ r, floatBits .sub .f32 q (nar (floorW (wide q))) = some r ∧ behindC (some q) = some r ∧ nanW .f32 r = false := by
  have hm2 : magC (some (wide q)) 22 := hm
  obtain ⟨t, n, j, h2⟩ := nar_num (floor_mag hm2)
  rcases read32 q hn with ⟨s, hr⟩ | ⟨s, m, i, hr, _⟩
  · exfalso
    obtain ⟨b, s2, m2, i2, hb, hd, _⟩ := hm2
    have e1 : wide q = FloatKind.f64.format.write (.infinity s) := by
      have hr' : FloatKind.f32.decode q = .infinity s := hr
      simp [wide, hr', FloatKind.encode]
    have hb2 : b = wide q := (Option.some.inj hb).symm
    subst hb2
    rw [e1] at hd
    cases s
    · have : FloatKind.f64.format.read (FloatKind.f64.format.write (.infinity false)) = .infinity false := by decide
      rw [this] at hd; cases hd
    · have : FloatKind.f64.format.read (FloatKind.f64.format.write (.infinity true)) = .infinity true := by decide
      rw [this] at hd; cases hd
  · obtain ⟨d, hd, hnan⟩ : ∃ d, (Datum.number s m i).sum (Datum.number t n j).opposite = some d ∧ d.isNaN = false := ⟨_, rfl, rfl⟩
    have hb : floatBits .sub .f32 q (nar (floorW (wide q))) = some (FloatKind.f32.format.write d) := by
      simp only [floatBits, Format.sub, hr, h2, hd]; rfl
    exact ⟨_, hb, hb, write_num .f32 d hnan⟩
set_option maxHeartbeats 4000000 in
set_option maxRecDepth 100000 in
theorem flow_clo (k bx t o c b s : Nat) (w : World) (hk : k < 258) (hb : Box w bx #[.float .f32 t, .float .f32 o, .float .f32 c, .float .f32 b, .float .f32 s]) (g1 : fcmp .geq (ford .f32 (cls .f32 t) (some 1073741824)) = true) (g2 : fcmp .leq (ford .f32 (cls .f32 t) (some 1148846080)) = true) :
    Calls Try.prog 90 #[.int .i64 (k : Int), .pointer (some ⟨bx, 0, none⟩)] w fun e w' => ∃ r, e = .returned (.float .f32 r) ∧ cls .f32 r = flowK (cls .f32 t) (cls .f32 o) (cls .f32 c) k ∧ Ext w w' := by
  obtain ⟨q, hq1, hq2, hq3⟩ := quo_small hk g1 g2
  obtain ⟨v, hv1, hv2, hv3⟩ := behind_bits hq2 hq3
  have c1 : ∀ w : World, (convert 33 37 (.float .f32 q)).run Try.prog w = .ok (.float .f64 (wide q)) w := fun w => run_convert_float_float w _ _ .f32 .f64 q _ (by rw [Try.underlying33]; rfl) Try.underlying37 (wide_bits hq2)
  have c2 : ∀ w : World, (convert 37 33 (.float .f64 (floorW (wide q)))).run Try.prog w = .ok (.float .f32 (nar (floorW (wide q)))) w := fun w => run_convert_float_float w _ _ .f64 .f32 _ _ (by rw [Try.underlying37]; rfl) Try.underlying33 (nar_bits (floor_mag hq3) (by omega))
  have c3 : ∀ w : World, (binOp .sub 33 (.float .f32 q) (.float .f32 (nar (floorW (wide q))))).run Try.prog w = .ok (.float .f32 v) w := fun w => run_float_arith w .sub 33 .f32 _ _ _ hv1
  have HV := hid (And.intro hv2 (cls_num hv3))
  have HB := hid hb
  have HT := is_self .f32 t
  have HN : nanW .f64 (wide q) = false := mag_num64 hq3
  have hcq := cls_num hq2
  unfold flowK
  rw [hq1]
  clear g1 g2 hb hq3 hv1 hv2 hv3
  obtain ⟨d0, d1, d2, d3, d4, dl⟩ := Box.cells5 HB.out
  go_enter Try.func90, Try.ntmps90
  go_wp2_with (first | (refine wpList_fa rfl rfl rfl rfl rfl (is_int _) HT ?_; intro r m hr hrw))
  obtain rfl : q = r := cls_word (show cls .f32 r = some q from hr.trans hq1)
  clear d0 d1 d2 d3 d4 dl
  go_region_held3 (fun w' => w'.cell? ⟨bx, 0, none⟩ = some (.float .f32 t) ∧ w'.cell? ⟨bx, 1, none⟩ = some (.float .f32 o) ∧ w'.cell? ⟨bx, 2, none⟩ = some (.float .f32 c) ∧ w'.cell? ⟨bx, 3, none⟩ = some (.float .f32 b) ∧ w'.cell? ⟨bx, 4, none⟩ = some (.float .f32 s))
    (first | exact cellsQ5 (Box.ext HB.out (Ext.trans (by (repeat with_reducible (first | exact Ext.refl _ | exact ext_alloc _ _ | refine Ext.drewN ?_ _ | refine Ext.drew1 ?_ | refine Ext.set ?_ (by dsimp only; omega) _ | refine Ext.alloc ?_ _))) E5)) | exact cellsQ5 (Box.ext HB.out (by (repeat with_reducible (first | exact Ext.refl _ | exact ext_alloc _ _ | refine Ext.drewN ?_ _ | refine Ext.drew1 ?_ | refine Ext.set ?_ (by dsimp only; omega) _ | refine Ext.alloc ?_ _)))))
    (first | (go_at_call 89; with_reducible refine (floor_any _ HN _).mono ?_; rintro e w' ⟨rfl, rfl⟩) | (go_at_call 88; with_reducible refine (flowAt_any t o c b s _ _).mono ?_; rintro e w' ⟨r5, rfl, hr5, E5⟩))
  go_wp2_with fail
  go_ret
  exact ⟨r5, rfl, by rw [hr5, HV.out.2, HV.out.1], Ext.trans (by (repeat with_reducible (first | exact Ext.refl _ | exact ext_alloc _ _ | refine Ext.drewN ?_ _ | refine Ext.drew1 ?_ | refine Ext.set ?_ (by dsimp only; omega) _ | refine Ext.alloc ?_ _))) E5⟩
end Go.Proofs.Ytkmgkcbbbaioiab
