/- Frames that are the same. -/
import Derived.Test.YthinjgiakaflpaaT17
import Derived.Test.YthinjgiakaflpaaF2
namespace Go.Proofs.Ythinjgiakaflpaa
open Go.RowKit Flt
set_option linter.unusedVariables false

theorem validFrame_ext (a : Option Addr) (n c l t p : Nat) (zs : List Nat) (V : Bool) (w : World) (h : Holds .f32 w a n zs) (hn : n ≤ 1048576) (hV : frameC (zs.map (cls .f32)) (cls .f32 l) (cls .f32 t) (cls .f32 p) = V) :
    Calls Try.prog 29 #[.agg #[.slice a n c, .float .f32 l, .float .f32 t, .float .f32 p]] w fun e w' => e = .returned (.bool V) ∧ Ext w w' := by
  refine (validFrame_any _ _ _ _ _ _ _ _ h hn).mono ?_
  rintro e w' ⟨rfl, m, rfl⟩
  rw [hV]
  refine ⟨rfl, ?_⟩
  (repeat with_reducible (first | exact Ext.refl _ | exact ext_alloc _ _ | refine Ext.drewN ?_ _ | refine Ext.drew1 ?_ | refine Ext.set ?_ (by dsimp only; omega) _ | refine Ext.alloc ?_ _))
theorem l06Frame_ext (b : Nat) (a : Option Addr) (n c l t p : Nat) (zs : List Nat) (V : Bool) (w : World) (hb : Box w b #[.slice a n c, .float .f32 l, .float .f32 t, .float .f32 p]) (h : Holds .f32 w a n zs) (hn : n ≤ 1048576) (hV : frameC (zs.map (cls .f32)) (cls .f32 l) (cls .f32 t) (cls .f32 p) = V) :
    Calls Try.prog 78 #[.pointer (some ⟨b, 0, none⟩)] w fun e w' => e = .returned (.bool V) ∧ Ext w w' := by
  refine (l06Frame_any _ _ _ _ _ _ _ _ _ hb h hn).mono ?_
  rintro e w' ⟨rfl, m, rfl⟩
  rw [hV]
  refine ⟨rfl, ?_⟩
  (repeat with_reducible (first | exact Ext.refl _ | exact ext_alloc _ _ | refine Ext.drewN ?_ _ | refine Ext.drew1 ?_ | refine Ext.set ?_ (by dsimp only; omega) _ | refine Ext.alloc ?_ _))

theorem validFrame_is (a : Option Addr) (n c l t p : Nat) (zs : List Nat) (V : Bool) (w : World) (h : Holds .f32 w a n zs) (hn : n ≤ 1048576) (hV : frameC (zs.map (cls .f32)) (cls .f32 l) (cls .f32 t) (cls .f32 p) = V) :
    Calls Try.prog 29 #[.agg #[.slice a n c, .float .f32 l, .float .f32 t, .float .f32 p]] w fun e w' => e = .returned (.bool V) ∧ Ext w w' := validFrame_ext _ _ _ _ _ _ _ _ _ h hn hV
theorem sValidFrame_is (a : Option Addr) (n c l t p : Nat) (zs : List Nat) (V : Bool) (w : World) (h : Holds .f32 w a n zs) (hn : n ≤ 1048576) (hV : frameC (zs.map (cls .f32)) (cls .f32 l) (cls .f32 t) (cls .f32 p) = V) :
    Calls Try.prog 27 #[.agg #[.slice a n c, .float .f32 l, .float .f32 t, .float .f32 p]] w fun e w' => e = .returned (.bool V) ∧ Ext w w' := by
  refine (sValidFrame_any _ _ _ _ _ _ _ _ h hn).mono ?_
  rintro e w' ⟨rfl, m, rfl⟩
  rw [hV]
  refine ⟨rfl, ?_⟩
  (repeat with_reducible (first | exact Ext.refl _ | exact ext_alloc _ _ | refine Ext.drewN ?_ _ | refine Ext.drew1 ?_ | refine Ext.set ?_ (by dsimp only; omega) _ | refine Ext.alloc ?_ _))

set_option maxHeartbeats 2000000 in
theorem sameFrame_any (a1 a2 : Option Addr) (n m c1 c2 l1 t1 p1 l2 t2 p2 : Nat) (xs ys : List Nat) (V : Bool) (w : World) (h1 : Holds .f32 w a1 n xs) (h2 : Holds .f32 w a2 m ys) (hn : n ≤ 1048576) (hm : m ≤ 1048576) (k1 : Words n xs) (k2 : Words m ys) (fl1 : l1 < 4294967296) (ft1 : t1 < 4294967296) (fp1 : p1 < 4294967296) (fl2 : l2 < 4294967296) (ft2 : t2 < 4294967296) (fp2 : p2 < 4294967296) (hV : (sameB xs ys && (eqW l1 l2 && (eqW t1 t2 && eqW p1 p2))) = V) :
    Calls Try.prog 32 #[.agg #[.slice a1 n c1, .float .f32 l1, .float .f32 t1, .float .f32 p1], .agg #[.slice a2 m c2, .float .f32 l2, .float .f32 t2, .float .f32 p2]] w fun e w' => e = .returned (.bool V) ∧ Ext w w' := by
  have H1 := hid h1
  have H2 := hid h2
  have K1 := hid k1
  have K2 := hid k2
  have HN := hid hn
  have HM := hid hm
  have FL := hid (And.intro fl1 fl2)
  have FT := hid (And.intro ft1 ft2)
  have FP := hid (And.intro fp1 fp2)
  clear h1 h2 k1 k2 hn hm fl1 ft1 fp1 fl2 ft2 fp2
  cases hA : sameB xs ys
  ·
    have e : V = false := by rw [← hV, hA]; rfl
    subst e
    clear hV
    go_enter Try.func32, Try.ntmps32
    go_wp2_with fail
    refine (sameNumbers_any _ _ _ _ _ _ xs ys _ (Holds.alloc (Holds.alloc H1.out _) _) (Holds.alloc (Holds.alloc H2.out _) _) HN.out HM.out K1.out K2.out).mono ?_
    rintro e w1 ⟨rfl, m1, rfl⟩
    simp only [hA]
    go_wp2_with fail
    go_ret
    refine ⟨rfl, ?_⟩
    (repeat with_reducible (first | exact Ext.refl _ | exact ext_alloc _ _ | refine Ext.drewN ?_ _ | refine Ext.drew1 ?_ | refine Ext.set ?_ (by dsimp only; omega) _ | refine Ext.alloc ?_ _))
  cases hB : eqW l1 l2
  ·
    have e : V = false := by rw [← hV, hA, hB]; rfl
    subst e
    clear hV
    go_enter Try.func32, Try.ntmps32
    go_wp2_with fail
    refine (sameNumbers_any _ _ _ _ _ _ xs ys _ (Holds.alloc (Holds.alloc H1.out _) _) (Holds.alloc (Holds.alloc H2.out _) _) HN.out HM.out K1.out K2.out).mono ?_
    rintro e w1 ⟨rfl, m1, rfl⟩
    simp only [hA]
    go_wp2_with fail
    refine (same_eq _ _ FL.out.1 FL.out.2 _).mono ?_
    rintro e0 w2 ⟨rfl, m2, rfl⟩
    simp only [hB]
    go_wp2_with fail
    go_ret
    refine ⟨rfl, ?_⟩
    (repeat with_reducible (first | exact Ext.refl _ | exact ext_alloc _ _ | refine Ext.drewN ?_ _ | refine Ext.drew1 ?_ | refine Ext.set ?_ (by dsimp only; omega) _ | refine Ext.alloc ?_ _))
  cases hC : eqW t1 t2
  ·
    have e : V = false := by rw [← hV, hA, hB, hC]; rfl
    subst e
    clear hV
    go_enter Try.func32, Try.ntmps32
    go_wp2_with fail
    refine (sameNumbers_any _ _ _ _ _ _ xs ys _ (Holds.alloc (Holds.alloc H1.out _) _) (Holds.alloc (Holds.alloc H2.out _) _) HN.out HM.out K1.out K2.out).mono ?_
    rintro e w1 ⟨rfl, m1, rfl⟩
    simp only [hA]
    go_wp2_with fail
    refine (same_eq _ _ FL.out.1 FL.out.2 _).mono ?_
    rintro e0 w2 ⟨rfl, m2, rfl⟩
    simp only [hB]
    go_wp2_with fail
    refine (same_eq _ _ FT.out.1 FT.out.2 _).mono ?_
    rintro e1 w3 ⟨rfl, m3, rfl⟩
    simp only [hC]
    go_wp2_with fail
    go_ret
    refine ⟨rfl, ?_⟩
    (repeat with_reducible (first | exact Ext.refl _ | exact ext_alloc _ _ | refine Ext.drewN ?_ _ | refine Ext.drew1 ?_ | refine Ext.set ?_ (by dsimp only; omega) _ | refine Ext.alloc ?_ _))
  cases hD : eqW p1 p2
  ·
    have e : V = false := by rw [← hV, hA, hB, hC, hD]; rfl
    subst e
    clear hV
    go_enter Try.func32, Try.ntmps32
    go_wp2_with fail
    refine (sameNumbers_any _ _ _ _ _ _ xs ys _ (Holds.alloc (Holds.alloc H1.out _) _) (Holds.alloc (Holds.alloc H2.out _) _) HN.out HM.out K1.out K2.out).mono ?_
    rintro e w1 ⟨rfl, m1, rfl⟩
    simp only [hA]
    go_wp2_with fail
    refine (same_eq _ _ FL.out.1 FL.out.2 _).mono ?_
    rintro e0 w2 ⟨rfl, m2, rfl⟩
    simp only [hB]
    go_wp2_with fail
    refine (same_eq _ _ FT.out.1 FT.out.2 _).mono ?_
    rintro e1 w3 ⟨rfl, m3, rfl⟩
    simp only [hC]
    go_wp2_with fail
    refine (same_eq _ _ FP.out.1 FP.out.2 _).mono ?_
    rintro e2 w4 ⟨rfl, m4, rfl⟩
    simp only [hD]
    go_wp2_with fail
    go_ret
    refine ⟨rfl, ?_⟩
    (repeat with_reducible (first | exact Ext.refl _ | exact ext_alloc _ _ | refine Ext.drewN ?_ _ | refine Ext.drew1 ?_ | refine Ext.set ?_ (by dsimp only; omega) _ | refine Ext.alloc ?_ _))
  ·
    have e : V = true := by rw [← hV, hA, hB, hC, hD]; rfl
    subst e
    clear hV
    go_enter Try.func32, Try.ntmps32
    go_wp2_with fail
    refine (sameNumbers_any _ _ _ _ _ _ xs ys _ (Holds.alloc (Holds.alloc H1.out _) _) (Holds.alloc (Holds.alloc H2.out _) _) HN.out HM.out K1.out K2.out).mono ?_
    rintro e w1 ⟨rfl, m1, rfl⟩
    simp only [hA]
    go_wp2_with fail
    refine (same_eq _ _ FL.out.1 FL.out.2 _).mono ?_
    rintro e0 w2 ⟨rfl, m2, rfl⟩
    simp only [hB]
    go_wp2_with fail
    refine (same_eq _ _ FT.out.1 FT.out.2 _).mono ?_
    rintro e1 w3 ⟨rfl, m3, rfl⟩
    simp only [hC]
    go_wp2_with fail
    refine (same_eq _ _ FP.out.1 FP.out.2 _).mono ?_
    rintro e2 w4 ⟨rfl, m4, rfl⟩
    simp only [hD]
    go_wp2_with fail
    go_ret
    refine ⟨rfl, ?_⟩
    (repeat with_reducible (first | exact Ext.refl _ | exact ext_alloc _ _ | refine Ext.drewN ?_ _ | refine Ext.drew1 ?_ | refine Ext.set ?_ (by dsimp only; omega) _ | refine Ext.alloc ?_ _))


set_option maxHeartbeats 2000000 in
theorem sSameFrame_any (a1 a2 : Option Addr) (n m c1 c2 l1 t1 p1 l2 t2 p2 : Nat) (xs ys : List Nat) (V : Bool) (w : World) (h1 : Holds .f32 w a1 n xs) (h2 : Holds .f32 w a2 m ys) (hn : n ≤ 1048576) (hm : m ≤ 1048576) (k1 : Words n xs) (k2 : Words m ys) (fl1 : l1 < 4294967296) (ft1 : t1 < 4294967296) (fp1 : p1 < 4294967296) (fl2 : l2 < 4294967296) (ft2 : t2 < 4294967296) (fp2 : p2 < 4294967296) (hV : (sameB xs ys && (eqW l1 l2 && (eqW t1 t2 && eqW p1 p2))) = V) :
    Calls Try.prog 31 #[.agg #[.slice a1 n c1, .float .f32 l1, .float .f32 t1, .float .f32 p1], .agg #[.slice a2 m c2, .float .f32 l2, .float .f32 t2, .float .f32 p2]] w fun e w' => e = .returned (.bool V) ∧ Ext w w' := by
  have H1 := hid h1
  have H2 := hid h2
  have K1 := hid k1
  have K2 := hid k2
  have HN := hid hn
  have HM := hid hm
  have FL := hid (And.intro fl1 fl2)
  have FT := hid (And.intro ft1 ft2)
  have FP := hid (And.intro fp1 fp2)
  clear h1 h2 k1 k2 hn hm fl1 ft1 fp1 fl2 ft2 fp2
  cases hA : sameB xs ys
  ·
    have e : V = false := by rw [← hV, hA]; rfl
    subst e
    clear hV
    go_enter Try.func31, Try.ntmps31
    go_wp2_with fail
    refine (l01SameAll_any _ _ _ _ _ _ xs ys _ (Holds.alloc (Holds.alloc H1.out _) _) (Holds.alloc (Holds.alloc H2.out _) _) HN.out HM.out K1.out K2.out).mono ?_
    rintro e w1 ⟨rfl, m1, rfl⟩
    simp only [hA]
    go_wp2_with fail
    go_ret
    refine ⟨rfl, ?_⟩
    (repeat with_reducible (first | exact Ext.refl _ | exact ext_alloc _ _ | refine Ext.drewN ?_ _ | refine Ext.drew1 ?_ | refine Ext.set ?_ (by dsimp only; omega) _ | refine Ext.alloc ?_ _))
  cases hB : eqW l1 l2
  ·
    have e : V = false := by rw [← hV, hA, hB]; rfl
    subst e
    clear hV
    go_enter Try.func31, Try.ntmps31
    go_wp2_with fail
    refine (l01SameAll_any _ _ _ _ _ _ xs ys _ (Holds.alloc (Holds.alloc H1.out _) _) (Holds.alloc (Holds.alloc H2.out _) _) HN.out HM.out K1.out K2.out).mono ?_
    rintro e w1 ⟨rfl, m1, rfl⟩
    simp only [hA]
    go_wp2_with fail
    refine (l01Same_eq _ _ FL.out.1 FL.out.2 _).mono ?_
    rintro e0 w2 ⟨rfl, rfl⟩
    simp only [hB]
    go_wp2_with fail
    go_ret
    refine ⟨rfl, ?_⟩
    (repeat with_reducible (first | exact Ext.refl _ | exact ext_alloc _ _ | refine Ext.drewN ?_ _ | refine Ext.drew1 ?_ | refine Ext.set ?_ (by dsimp only; omega) _ | refine Ext.alloc ?_ _))
  cases hC : eqW t1 t2
  ·
    have e : V = false := by rw [← hV, hA, hB, hC]; rfl
    subst e
    clear hV
    go_enter Try.func31, Try.ntmps31
    go_wp2_with fail
    refine (l01SameAll_any _ _ _ _ _ _ xs ys _ (Holds.alloc (Holds.alloc H1.out _) _) (Holds.alloc (Holds.alloc H2.out _) _) HN.out HM.out K1.out K2.out).mono ?_
    rintro e w1 ⟨rfl, m1, rfl⟩
    simp only [hA]
    go_wp2_with fail
    refine (l01Same_eq _ _ FL.out.1 FL.out.2 _).mono ?_
    rintro e0 w2 ⟨rfl, rfl⟩
    simp only [hB]
    go_wp2_with fail
    refine (l01Same_eq _ _ FT.out.1 FT.out.2 _).mono ?_
    rintro e1 w3 ⟨rfl, rfl⟩
    simp only [hC]
    go_wp2_with fail
    go_ret
    refine ⟨rfl, ?_⟩
    (repeat with_reducible (first | exact Ext.refl _ | exact ext_alloc _ _ | refine Ext.drewN ?_ _ | refine Ext.drew1 ?_ | refine Ext.set ?_ (by dsimp only; omega) _ | refine Ext.alloc ?_ _))
  cases hD : eqW p1 p2
  ·
    have e : V = false := by rw [← hV, hA, hB, hC, hD]; rfl
    subst e
    clear hV
    go_enter Try.func31, Try.ntmps31
    go_wp2_with fail
    refine (l01SameAll_any _ _ _ _ _ _ xs ys _ (Holds.alloc (Holds.alloc H1.out _) _) (Holds.alloc (Holds.alloc H2.out _) _) HN.out HM.out K1.out K2.out).mono ?_
    rintro e w1 ⟨rfl, m1, rfl⟩
    simp only [hA]
    go_wp2_with fail
    refine (l01Same_eq _ _ FL.out.1 FL.out.2 _).mono ?_
    rintro e0 w2 ⟨rfl, rfl⟩
    simp only [hB]
    go_wp2_with fail
    refine (l01Same_eq _ _ FT.out.1 FT.out.2 _).mono ?_
    rintro e1 w3 ⟨rfl, rfl⟩
    simp only [hC]
    go_wp2_with fail
    refine (l01Same_eq _ _ FP.out.1 FP.out.2 _).mono ?_
    rintro e2 w4 ⟨rfl, rfl⟩
    simp only [hD]
    go_wp2_with fail
    go_ret
    refine ⟨rfl, ?_⟩
    (repeat with_reducible (first | exact Ext.refl _ | exact ext_alloc _ _ | refine Ext.drewN ?_ _ | refine Ext.drew1 ?_ | refine Ext.set ?_ (by dsimp only; omega) _ | refine Ext.alloc ?_ _))
  ·
    have e : V = true := by rw [← hV, hA, hB, hC, hD]; rfl
    subst e
    clear hV
    go_enter Try.func31, Try.ntmps31
    go_wp2_with fail
    refine (l01SameAll_any _ _ _ _ _ _ xs ys _ (Holds.alloc (Holds.alloc H1.out _) _) (Holds.alloc (Holds.alloc H2.out _) _) HN.out HM.out K1.out K2.out).mono ?_
    rintro e w1 ⟨rfl, m1, rfl⟩
    simp only [hA]
    go_wp2_with fail
    refine (l01Same_eq _ _ FL.out.1 FL.out.2 _).mono ?_
    rintro e0 w2 ⟨rfl, rfl⟩
    simp only [hB]
    go_wp2_with fail
    refine (l01Same_eq _ _ FT.out.1 FT.out.2 _).mono ?_
    rintro e1 w3 ⟨rfl, rfl⟩
    simp only [hC]
    go_wp2_with fail
    refine (l01Same_eq _ _ FP.out.1 FP.out.2 _).mono ?_
    rintro e2 w4 ⟨rfl, rfl⟩
    simp only [hD]
    go_wp2_with fail
    go_ret
    refine ⟨rfl, ?_⟩
    (repeat with_reducible (first | exact Ext.refl _ | exact ext_alloc _ _ | refine Ext.drewN ?_ _ | refine Ext.drew1 ?_ | refine Ext.set ?_ (by dsimp only; omega) _ | refine Ext.alloc ?_ _))


end Go.Proofs.Ythinjgiakaflpaa
