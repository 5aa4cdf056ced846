/- Frames that are the same. -/
import Derived.Test.YthinjgiakaflpabT17
import Derived.Test.YthinjgiakaflpabF2
namespace Go.Proofs.Ythinjgiakaflpab
open Go.RowKit Flt
set_option linter.unusedVariables false

theorem validFrame_ext (a : Option Addr) (n c l t p : Nat) (zs : List Nat) (V : Bool) (w : World) (h : Holds .f32 w a n zs) (hn : n ≤ 1048576) (hV : frameC (zs.map (cls .f32)) (cls .f32 l) (cls .f32 t) (cls .f32 p) = V) :
    Calls Try.prog 137 #[.agg #[.slice a n c, .float .f32 l, .float .f32 t, .float .f32 p]] w fun e w' => e = .returned (.bool V) ∧ Ext w w' := by
  refine (validFrame_any _ _ _ _ _ _ _ _ h hn).mono ?_
  rintro e w' ⟨rfl, m, rfl⟩
  rw [hV]
  refine ⟨rfl, ?_⟩
  (repeat with_reducible (first | exact Ext.refl _ | exact ext_alloc _ _ | refine Ext.drewN ?_ _ | refine Ext.drew1 ?_ | refine Ext.set ?_ (by dsimp only; omega) _ | refine Ext.alloc ?_ _))
theorem l06Frame_ext (b : Nat) (a : Option Addr) (n c l t p : Nat) (zs : List Nat) (V : Bool) (w : World) (hb : Box w b #[.slice a n c, .float .f32 l, .float .f32 t, .float .f32 p]) (h : Holds .f32 w a n zs) (hn : n ≤ 1048576) (hV : frameC (zs.map (cls .f32)) (cls .f32 l) (cls .f32 t) (cls .f32 p) = V) :
    Calls Try.prog 90 #[.pointer (some ⟨b, 0, none⟩)] w fun e w' => e = .returned (.bool V) ∧ Ext w w' := by
  refine (l06Frame_any _ _ _ _ _ _ _ _ _ hb h hn).mono ?_
  rintro e w' ⟨rfl, m, rfl⟩
  rw [hV]
  refine ⟨rfl, ?_⟩
  (repeat with_reducible (first | exact Ext.refl _ | exact ext_alloc _ _ | refine Ext.drewN ?_ _ | refine Ext.drew1 ?_ | refine Ext.set ?_ (by dsimp only; omega) _ | refine Ext.alloc ?_ _))

theorem validFrame_is (a : Option Addr) (n c l t p : Nat) (zs : List Nat) (V : Bool) (w : World) (h : Holds .f32 w a n zs) (hn : n ≤ 1048576) (hV : frameC (zs.map (cls .f32)) (cls .f32 l) (cls .f32 t) (cls .f32 p) = V) :
    Calls Try.prog 137 #[.agg #[.slice a n c, .float .f32 l, .float .f32 t, .float .f32 p]] w fun e w' => e = .returned (.bool V) ∧ Ext w w' := validFrame_ext _ _ _ _ _ _ _ _ _ h hn hV
end Go.Proofs.Ythinjgiakaflpab
