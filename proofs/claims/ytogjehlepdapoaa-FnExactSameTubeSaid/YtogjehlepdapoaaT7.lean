/- Tubes that come back in a result's own block; tubes with other ends. -/
import Derived.Test.YtogjehlepdapoaaT4
namespace Go.Proofs.Ytogjehlepdapoaa
open Go.RowKit Flt

theorem TubeIs.far4 {w : World} {B b : Nat} {R : TR} {v : Value} (h : TubeIs w B R v) (hb : b < B) (u0 u1 u2 u3 : Value) :
    TubeIs ((((w.setCell ⟨b, 0, none⟩ u0).setCell ⟨b, 1, none⟩ u1).setCell ⟨b, 2, none⟩ u2).setCell ⟨b, 3, none⟩ u3) B R v := by
  obtain ⟨a, c, l, t, p, zs, h1, h2, h3⟩ := h
  have hn : (Value.slice a R.cs.length c).ownBlock ≠ some b := fun hk => by have := (Own.block h2 _ hk).1; omega
  exact ⟨a, c, l, t, p, zs, h1, Own.far (Own.far (Own.far (Own.far h2 hn _) hn _) hn _) hn _, h3⟩
theorem box_set4 {w : World} {b : Nat} {v0 v1 v2 v3 : Value} (h : Box w b #[v0, v1, v2, v3]) (u0 u1 u2 u3 : Value) :
    Box ((((w.setCell ⟨b, 0, none⟩ u0).setCell ⟨b, 1, none⟩ u1).setCell ⟨b, 2, none⟩ u2).setCell ⟨b, 3, none⟩ u3) b #[u0, u1, u2, u3] :=
  Box.eqv (box_set (j := 3) (box_set (j := 2) (box_set (j := 1) (box_set (j := 0) h u0) u1) u2) u3) (by rfl)
theorem ext_set4 {a w : World} {b : Nat} (h : Ext a w) (hb : a.heap.size ≤ b) (u0 u1 u2 u3 : Value) :
    Ext a ((((w.setCell ⟨b, 0, none⟩ u0).setCell ⟨b, 1, none⟩ u1).setCell ⟨b, 2, none⟩ u2).setCell ⟨b, 3, none⟩ u3) :=
  Ext.set (Ext.set (Ext.set (Ext.set h hb _) hb _) hb _) hb _
theorem Box.cast {w : World} {b b' : Nat} {vs : Array Value} (h : Box w b vs) (e : b = b') : Box w b' vs := e ▸ h
def setEndsT (cs : List (Option Nat)) (l t p x y z : Option Nat) : TR := if tubeC cs l t p then giveT cs x y z else zeroT
def zv : Array Value := #[.slice none 0 0, .float .f32 0, .float .f32 0, .float .f32 0]

set_option maxHeartbeats 1000000 in
theorem setEnds_any (a : Option Addr) (n c l t p x y z : Nat) (zs : List Nat) (R : TR) (w : World) (h : Holds .f32 w a n zs) (hn : n ≤ 1048576) (hR : setEndsT (zs.map (cls .f32)) (cls .f32 l) (cls .f32 t) (cls .f32 p) (cls .f32 x) (cls .f32 y) (cls .f32 z) = R) :
    Calls Try.prog 31 #[.agg #[.slice a n c, .float .f32 l, .float .f32 t, .float .f32 p], .float .f32 x, .float .f32 y, .float .f32 z] w fun e w' => ∃ v, e = .returned (.tuple #[v, .bool R.ok]) ∧ TubeIs w' w.heap.size R v ∧ Ext w w' := by
  have HH := hid h
  have HN := hid hn
  have HL := hid h.1
  cases hV : tubeC (zs.map (cls .f32)) (cls .f32 l) (cls .f32 t) (cls .f32 p)
  · have e := hR
    unfold setEndsT at e
    rw [hV] at e
    simp only [Bool.false_eq_true, if_false] at e
    subst e
    clear h hn hR
    go_enter Try.func31, Try.ntmps31
    go_wp2_with fail
    refine (validTube_any _ _ _ _ _ _ zs _ (Holds.alloc (Holds.alloc HH.out _) _) HN.out).mono ?_
    rintro e w1 ⟨rfl, m, rfl⟩
    simp only [hV]
    go_wp2_with fail
    go_returns
    refine ⟨_, rfl, zero_is _ _, ?_⟩
    (repeat with_reducible (first | exact Ext.refl _ | exact ext_alloc _ _ | refine Ext.drewN ?_ _ | refine Ext.drew1 ?_ | refine Ext.set ?_ (by dsimp only; omega) _ | refine Ext.alloc ?_ _))
  have e := hR
  unfold setEndsT at e
  rw [hV] at e
  simp only [if_true] at e
  have H16 := hid (tube_len hV)
  have h1 : 1 ≤ n := by
    have h2 := H16.out.1
    have h3 := HL.out
    simp at h2; omega
  have H1 := hid h1
  clear h hn hR h1
  go_enter Try.func31, Try.ntmps31
  go_wp2_with fail
  refine (validTube_any _ _ _ _ _ _ zs _ (Holds.alloc (Holds.alloc HH.out _) _) HN.out).mono ?_
  rintro e1 w1 ⟨rfl, m, rfl⟩
  simp only [hV]
  go_wp2_with fail
  refine (clone_any _ _ _ zs _ (Holds.drew (Holds.alloc (Holds.alloc (Holds.alloc HH.out _) _) _) _) H1.out HN.out).mono ?_
  rintro e2 w2 ⟨b2, c2, rfl, O2, E2⟩
  have EE := hid (show Ext w w2 from Ext.trans (by (repeat with_reducible (first | exact Ext.refl _ | exact ext_alloc _ _ | refine Ext.drewN ?_ _ | refine Ext.drew1 ?_ | refine Ext.set ?_ (by dsimp only; omega) _ | refine Ext.alloc ?_ _))) E2)
  have HX0 := hid (Box.ext (Box.drewN (Box.alloc (box_new (w := w.alloc (.cells #[.slice a n c, .float .f32 l, .float .f32 t, .float .f32 p] 27)) #[.slice none 0 0, .float .f32 0, .float .f32 0, .float .f32 0] 27) (.cells #[.slice a n c, .float .f32 l, .float .f32 t, .float .f32 p] 27)) m) E2)
  have HO := hid (Own.base O2 (B' := w.heap.size + 1 + 1) (by simp <;> omega))
  clear O2 E2
  go_wp2_with fail
  refine (validOnly_any _ _ _ _ _ _ _ zs _ HO.out HN.out).mono ?_
  rintro e3 w3 ⟨v, rfl, hT, E3⟩
  rw [e] at hT ⊢
  replace EE := hid (Ext.trans EE.out E3)
  have HX := hid (Box.cast (b' := w.heap.size + 1) (Box.ext HX0.out E3) (by simp))
  obtain ⟨ra, rc, rl, rt, rp, rz, rfl, rO, re⟩ := hT
  have HT := hid (show TubeIs w3 (w.heap.size + 1 + 1) R (.agg #[.slice ra R.cs.length rc, .float .f32 rl, .float .f32 rt, .float .f32 rp]) from ⟨ra, rc, rl, rt, rp, rz, rfl, rO, re⟩)
  clear rO re
  obtain ⟨y0, y1, y2, y3, yf0, yf1, yf2, yf3, yl⟩ := Box.all4 HX.out
  go_wp2_with fail
  clear y0 y1 y2 y3 yf0 yf1 yf2 yf3 yl
  refine bodyPost_ret (ret_cell2 Try.results31 rfl (box_set4 HX.out _ _ _ _) Try.underlying27 infoT) rfl ?_
  exact ⟨_, rfl, TubeIs.base (TubeIs.far4 HT.out (by simp) _ _ _ _) (by omega), ext_set4 EE.out (by simp) _ _ _ _⟩

set_option maxHeartbeats 1000000 in
theorem sSetEnds_any (a : Option Addr) (n c l t p x y z : Nat) (zs : List Nat) (R : TR) (w : World) (h : Holds .f32 w a n zs) (hn : n ≤ 1048576) (hR : setEndsT (zs.map (cls .f32)) (cls .f32 l) (cls .f32 t) (cls .f32 p) (cls .f32 x) (cls .f32 y) (cls .f32 z) = R) :
    Calls Try.prog 59 #[.agg #[.slice a n c, .float .f32 l, .float .f32 t, .float .f32 p], .float .f32 x, .float .f32 y, .float .f32 z] w fun e w' => ∃ v, e = .returned (.tuple #[v, .bool R.ok]) ∧ TubeIs w' w.heap.size R v ∧ Ext w w' := by
  have HH := hid h
  have HN := hid hn
  have HL := hid h.1
  cases hV : tubeC (zs.map (cls .f32)) (cls .f32 l) (cls .f32 t) (cls .f32 p)
  · have e := hR
    unfold setEndsT at e
    rw [hV] at e
    simp only [Bool.false_eq_true, if_false] at e
    subst e
    clear h hn hR
    go_enter Try.func59, Try.ntmps59
    go_wp2_with fail
    refine (l02Is_any _ _ _ _ _ _ _ zs _ (Box.alloc (box_new _ _) _) (Holds.alloc (Holds.alloc HH.out _) _) HN.out).mono ?_
    rintro e w1 ⟨rfl, m, rfl⟩
    simp only [hV]
    go_wp2_with fail
    go_returns
    refine ⟨_, rfl, zero_is _ _, ?_⟩
    (repeat with_reducible (first | exact Ext.refl _ | exact ext_alloc _ _ | refine Ext.drewN ?_ _ | refine Ext.drew1 ?_ | refine Ext.set ?_ (by dsimp only; omega) _ | refine Ext.alloc ?_ _))
  have e := hR
  unfold setEndsT at e
  rw [hV] at e
  simp only [if_true] at e
  have H16 := hid (tube_len hV)
  have h1 : 1 ≤ n := by
    have h2 := H16.out.1
    have h3 := HL.out
    simp at h2; omega
  have H1 := hid h1
  clear h hn hR h1
  go_enter Try.func59, Try.ntmps59
  go_wp2_with fail
  refine (l02Is_any _ _ _ _ _ _ _ zs _ (Box.alloc (box_new _ _) _) (Holds.alloc (Holds.alloc HH.out _) _) HN.out).mono ?_
  rintro e1 w1 ⟨rfl, m, rfl⟩
  simp only [hV]
  go_wp2_with fail
  refine (l02Own_any _ _ _ _ _ _ _ zs _ (Box.drewN (Box.alloc (box_new _ _) _) _) (Holds.drew (Holds.alloc (Holds.alloc HH.out _) _) _) H1.out HN.out).mono ?_
  rintro e2 w2 ⟨b2, c2, rfl, O2, E2⟩
  have EE := hid (show Ext w w2 from Ext.trans (by (repeat with_reducible (first | exact Ext.refl _ | exact ext_alloc _ _ | refine Ext.drewN ?_ _ | refine Ext.drew1 ?_ | refine Ext.set ?_ (by dsimp only; omega) _ | refine Ext.alloc ?_ _))) E2)
  have HX0 := hid (Box.ext (Box.drewN (box_new (w := w.alloc (.cells #[.slice a n c, .float .f32 l, .float .f32 t, .float .f32 p] 27)) #[.slice none 0 0, .float .f32 0, .float .f32 0, .float .f32 0] 27) m) E2)
  have HO := hid (Own.base O2 (B' := w.heap.size + 1 + 1) (by simp <;> omega))
  clear O2 E2
  go_wp2_with fail
  refine (l02Give_any _ _ _ _ _ _ _ zs _ (Own.alloc HO.out _) HN.out).mono ?_
  rintro e3 w3 ⟨v, rfl, hT, E3⟩
  rw [e] at hT ⊢
  replace EE := hid (Ext.trans EE.out (Ext.trans (ext_alloc _ _) E3))
  have HX := hid (Box.cast (b' := w.heap.size + 1) (Box.ext (Box.alloc HX0.out _) E3) (by simp))
  obtain ⟨ra, rc, rl, rt, rp, rz, rfl, rO, re⟩ := hT
  have HT := hid (show TubeIs w3 (w.heap.size + 1 + 1) R (.agg #[.slice ra R.cs.length rc, .float .f32 rl, .float .f32 rt, .float .f32 rp]) from ⟨ra, rc, rl, rt, rp, rz, rfl, rO, re⟩)
  clear rO re
  obtain ⟨y0, y1, y2, y3, yf0, yf1, yf2, yf3, yl⟩ := Box.all4 HX.out
  go_wp2_with fail
  clear y0 y1 y2 y3 yf0 yf1 yf2 yf3 yl
  refine bodyPost_ret (ret_cell2 Try.results59 rfl (box_set4 HX.out _ _ _ _) Try.underlying27 infoT) rfl ?_
  exact ⟨_, rfl, TubeIs.base (TubeIs.far4 HT.out (by simp) _ _ _ _) (by omega), ext_set4 EE.out (by simp) _ _ _ _⟩

end Go.Proofs.Ytogjehlepdapoaa