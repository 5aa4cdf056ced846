/- Helpers of the laws with several parameters. -/
import Derived.Test.YthinjgiakaflpabT17
import Derived.Test.YthinjgiakaflpabT13
namespace Go.Proofs.Ythinjgiakaflpab
open Go.RowKit Flt
set_option linter.unusedVariables false

theorem keep_of {S : World → Prop} {c w' : World} (h : ∀ u, Ext c u → S u) (e : Ext c w') : S w' := h _ e
theorem with_box {w1 w' : World} {vs : Array Value} {t : TypeId} {G : Prop} (e : Ext (w1.alloc (.cells vs t)) w') (k : Box w' w1.heap.size vs → G) : G := k (Box.ext (box_new vs t) e)
theorem own_far4 {w : World} {B n b : Nat} {v : Value} {zs : List Nat} (h : Own w B n v zs) (hb : b < B) (u0 u1 u2 u3 : Value) :
    Own ((((w.setCell ⟨b, 0, none⟩ u0).setCell ⟨b, 1, none⟩ u1).setCell ⟨b, 2, none⟩ u2).setCell ⟨b, 3, none⟩ u3) B n v zs := by
  have hn : v.ownBlock ≠ some b := fun hk => by have := (Own.block h _ hk).1; omega
  exact Own.far (Own.far (Own.far (Own.far h hn _) hn _) hn _) hn _
theorem own_far2 {w : World} {B n b : Nat} {v : Value} {zs : List Nat} (h : Own w B n v zs) (hb : b < B) (u0 u1 : Value) :
    Own ((w.setCell ⟨b, 0, none⟩ u0).setCell ⟨b, 1, none⟩ u1) B n v zs := by
  have hn : v.ownBlock ≠ some b := fun hk => by have := (Own.block h _ hk).1; omega
  exact Own.far (Own.far h hn _) hn _
theorem szL_yes (a : Option Addr) (n c : Nat) (k : Int) (hk0 : (n : Int) ≤ k) (hk : k ≤ 1048576) (w : World) :
    Calls Try.prog 115 #[.slice a n c, .int .i64 k] w fun e w' => e = .returned (.int .i64 (k - n)) ∧ Ext w w' := by
  refine (szF_yes _ _ _ _ hk0 hk _).mono ?_
  rintro e w' ⟨rfl, rfl⟩
  exact ⟨rfl, Ext.refl _⟩
theorem szL_no (a : Option Addr) (n c : Nat) (k : Int) (hn : n ≤ maxLen) (hk0 : k < (n : Int)) (hk1 : 0 ≤ k) (w : World) :
    Calls Try.prog 115 #[.slice a n c, .int .i64 k] w fun e w' => e = .returned (.int .i64 (-1)) ∧ Ext w w' := by
  refine (szF_no _ _ _ _ hn hk0 hk1 _).mono ?_
  rintro e w' ⟨rfl, rfl⟩
  exact ⟨rfl, Ext.refl _⟩
theorem heldL_any (a : Option Addr) (n c k B : Nat) (w : World) (h : Own w B n (.slice a n c) (marks k n)) (hn : n ≤ 1048576) (hk : k ≤ 1099511627776) :
    Calls Try.prog 33 #[.slice a n c, .int .i64 k] w fun e w' => e = .returned (.int .i64 ((k + n : Nat) : Int)) ∧ Ext w w' := by
  refine (heldF_any _ _ _ _ _ _ h hn hk).mono ?_
  rintro e w' ⟨rfl, rfl⟩
  exact ⟨rfl, Ext.refl _⟩
theorem toList_any (a : Option Addr) (len cap : Nat) (zs : List Nat) (w : World) (h : IsRowF .f32 w a len cap zs) (hl : len ≤ 1048576) :
    Calls Try.prog 65 #[.slice a len cap] w fun e w' => ∃ b, e = .returned (.slice (some ⟨b, 0, none⟩) len len) ∧ Own w' w.heap.size len (.slice (some ⟨b, 0, none⟩) len len) (zs.take len) ∧ Ext w w' := by
  have hz := (holds_row h).1
  refine (toFloat32S_any _ _ _ zs _ h hl).mono ?_
  rintro e w' ⟨cs, rfl, hc, rfl⟩
  exact ⟨_, rfl, own_fresh hc hz rfl (Nat.le_refl _) (by unfold maxLen; omega), ext_alloc _ _⟩
theorem eqList_any (a1 a2 : Option Addr) (n c1 c2 : Nat) (xs ys : List Nat) (w : World) (h1 : Holds .f32 w a1 n xs) (h2 : Holds .f32 w a2 n ys) (hn : n ≤ 1048576) (he : xs.map (cls .f32) = ys.map (cls .f32)) :
    Calls Try.prog 29 #[.slice a1 n c1, .slice a2 n c2] w fun e w' => e = .returned (.bool true) ∧ Ext w w' := by
  refine (eqFloat32S_yes _ _ _ _ _ xs ys _ h1 h2 hn (fun i _ => map_cls_get he i)).mono ?_
  rintro e w' ⟨rfl, m, rfl⟩
  exact ⟨rfl, Ext.drewN (Ext.refl _) _⟩
end Go.Proofs.Ythinjgiakaflpab
