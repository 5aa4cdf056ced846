/- Tunes: copies, and what is the same. -/
import Derived.Test.YthinjgiakaflpabA1
import Derived.Test.YthinjgiakaflpabF7
namespace Go.Proofs.Ythinjgiakaflpab
open Go.RowKit Flt
set_option linter.unusedVariables false


theorem holdsA_row {w : World} {a : Option Addr} {n c : Nat} {zs : List Nat} (h : IsRowA w a n c zs) : HoldsA w a n (zs.take (n * 3)) := by
  rcases h with ⟨rfl, rfl, rfl, rfl⟩ | ⟨x, rfl, h1, h2, h3, h4, h5⟩
  · exact ⟨rfl, .inl rfl⟩
  · have hl : (zs.take (n * 3)).length = n * 3 := by simp; omega
    refine ⟨hl, ?_⟩
    rcases Nat.eq_zero_or_pos n with h0 | hp
    · exact .inl h0
    · right
      obtain ⟨b, off, xo⟩ := x
      have h6 := h4 0 (by omega)
      have hsp : xo = none := by
        cases xo with
        | none => rfl
        | some s =>
          simp only [World.cell?, Addr.add] at h6
          split at h6 <;> simp at h6
      subst hsp
      have hlt : b < w.heap.size := by
        rw [addr_add] at h6
        simp only [World.cell?] at h6
        rcases Nat.lt_or_ge b w.heap.size with h7 | h7
        · exact h7
        · rw [Array.getElem?_eq_none h7] at h6; cases h6
      · refine ⟨b, off, rfl, hlt, fun i hi => ?_⟩
        have key : ∀ j, j < n * 3 → w.cell? ⟨b, off + j, none⟩ = some (.float .f32 ((zs.take (n * 3)).getD j 0)) := by
          intro j hj
          have := h4 j (by omega)
          rw [addr_add] at this
          rw [this, getD_take _ _ _ hj]
        exact ⟨key (i * 3) (by omega), key (i * 3 + 1) (by omega), key (i * 3 + 2) (by omega)⟩
theorem OwnA.far {w : World} {B n b : Nat} {v : Value} {zs : List Nat} (h : OwnA w B n v zs) (hb : b < B) (j : Nat) (u : Value) : OwnA (w.setCell ⟨b, j, none⟩ u) B n v zs := by
  refine ⟨h.1, ?_⟩
  rcases h.2 with h0 | ⟨g, cap, cur, rfl, hg1, hg, hr⟩
  · exact .inl h0
  · refine .inr ⟨g, cap, cur, rfl, hg1, ?_, hr⟩
    rw [heap_setCell_other w ⟨b, j, none⟩ g u (by simp; omega)]; exact hg
theorem infoTu : (Try.prog.info? 31).map (·.size) = some 4 := by kernel_rfl
set_option maxHeartbeats 2000000 in
theorem toTune_any (b f r : Nat) (a : Option Addr) (n c : Nat) (ys : List Nat) (w : World) (h : HoldsA w a n ys) (hn : n ≤ 1048576) :
    Calls Try.prog 17 #[.agg #[.float .f32 b, .float .f32 f, .float .f32 r, .slice a n c]] w fun e w' => ∃ g, e = .returned (.agg #[.float .f32 b, .float .f32 f, .float .f32 r, .slice (some ⟨g, 0, none⟩) n n]) ∧ OwnA w' w.heap.size n (.slice (some ⟨g, 0, none⟩) n n) ys ∧ Ext w w' := by
  have HH := hid h
  clear h
  go_enter Try.func17, Try.ntmps17
  go_wp2_with fail
  refine (toAccentS_any a n c ys _ (HoldsA.ext HH.out (by (repeat with_reducible (first | exact Ext.refl _ | exact ext_alloc _ _ | refine Ext.drewN ?_ _ | refine Ext.drew1 ?_ | refine Ext.set ?_ (by dsimp only; omega) _ | refine Ext.alloc ?_ _)))) hn).mono ?_
  rintro e w1 ⟨g, rfl, OA, E1⟩
  have B2 := hid (Box.cast (b' := w.heap.size + 1) (Box.ext (Box.alloc (box_new (w := (w.alloc (.cells #[.float .f32 b, .float .f32 f, .float .f32 r, .slice a n c] 25))) #[.float .f32 0, .float .f32 0, .float .f32 0, .slice none 0 0] 31) _) E1) (by simp))
  have B3 := hid (Box.cast (b' := w.heap.size + 1 + 1) (Box.ext (box_new (w := ((w.alloc (.cells #[.float .f32 b, .float .f32 f, .float .f32 r, .slice a n c] 25)).alloc (.cells #[.float .f32 0, .float .f32 0, .float .f32 0, .slice none 0 0] 31))) #[.float .f32 b, .float .f32 f, .float .f32 r, .slice none 0 0] 31) E1) (by simp))
  have EX := hid (show Ext w w1 from Ext.trans (by (repeat with_reducible (first | exact Ext.refl _ | exact ext_alloc _ _ | refine Ext.drewN ?_ _ | refine Ext.drew1 ?_ | refine Ext.set ?_ (by dsimp only; omega) _ | refine Ext.alloc ?_ _))) E1)
  have HO := hid (OwnA.base (B' := w.heap.size + 3) OA (by simp))
  clear OA E1
  obtain ⟨y0, y1, y2, y3, yf0, yf1, yf2, yf3, yl⟩ := Box.all4 B2.out
  obtain ⟨z0, z1, z2, z3, zf0, zf1, zf2, zf3, zl⟩ := Box.all4 B3.out
  go_wp2_with fail
  clear z0 z1 z2 z3 zf0 zf1 zf2 zf3 zl y0 y1 y2 y3 yf0 yf1 yf2 yf3 yl
  refine bodyPost_ret (ret_cell1 Try.results17 rfl (box_set4 (Box.far B2.out (by omega) _) _ _ _ _) Try.underlying31 infoTu) rfl ?_
  exact ⟨g, rfl, OwnA.base (OwnA.far (OwnA.far (OwnA.far (OwnA.far (OwnA.far HO.out (by omega) _ _) (by omega) _ _) (by omega) _ _) (by omega) _ _) (by omega) _ _) (by omega), ext_set4 (Ext.set EX.out (by dsimp only; omega) _) (by omega) _ _ _ _⟩
set_option maxHeartbeats 4000000 in
theorem eqTune_yes (b1 f1 r1 b2 f2 r2 : Nat) (a1 a2 : Option Addr) (n c1 c2 : Nat) (xs : List Nat) (w : World) (h1 : HoldsA w a1 n xs) (h2 : HoldsA w a2 n xs) (hn : n ≤ 1048576) (g1 : cls .f32 b1 = cls .f32 b2) (g2 : cls .f32 f1 = cls .f32 f2) (g3 : cls .f32 r1 = cls .f32 r2) :
    Calls Try.prog 20 #[.agg #[.float .f32 b1, .float .f32 f1, .float .f32 r1, .slice a1 n c1], .agg #[.float .f32 b2, .float .f32 f2, .float .f32 r2, .slice a2 n c2]] w fun e w' => e = .returned (.bool true) ∧ Ext w w' := by
  have H1 := hid h1
  have H2 := hid h2
  have HN := hid hn
  have G1 := hid g1
  have G2 := hid g2
  have G3 := hid g3
  clear h1 h2 hn g1 g2 g3
  go_enter Try.func20, Try.ntmps20
  go_wp2_with (first
    | (refine wpList_widen rfl rfl Try.underlying22 Try.underlying107 rfl ?_; intro r m hr hrw)
    | (go_at_call 80; refine (sameFloat_yes _ _ _ (by assumption) (by first | (rw [G1.out]; assumption) | (rw [G2.out]; assumption) | (rw [G3.out]; assumption)) _).mono ?_; rintro e w' ⟨rfl, m, rfl⟩)
    | (go_at_call 81; refine (eqAccentS_yes _ _ _ _ _ xs _ (HoldsA.ext H1.out (by (repeat with_reducible (first | exact Ext.refl _ | exact ext_alloc _ _ | refine Ext.drewN ?_ _ | refine Ext.drew1 ?_ | refine Ext.set ?_ (by dsimp only; omega) _ | refine Ext.alloc ?_ _)))) (HoldsA.ext H2.out (by (repeat with_reducible (first | exact Ext.refl _ | exact ext_alloc _ _ | refine Ext.drewN ?_ _ | refine Ext.drew1 ?_ | refine Ext.set ?_ (by dsimp only; omega) _ | refine Ext.alloc ?_ _)))) HN.out).mono ?_; rintro e w1 ⟨rfl, E1⟩))
  go_ret
  refine ⟨rfl, Ext.trans (by (repeat with_reducible (first | exact Ext.refl _ | exact ext_alloc _ _ | refine Ext.drewN ?_ _ | refine Ext.drew1 ?_ | refine Ext.set ?_ (by dsimp only; omega) _ | refine Ext.alloc ?_ _))) E1⟩

end Go.Proofs.Ythinjgiakaflpab
