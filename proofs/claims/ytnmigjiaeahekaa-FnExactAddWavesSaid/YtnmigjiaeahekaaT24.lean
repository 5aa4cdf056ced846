/- Sums of waves: the other package. -/
import Derived.Test.YtnmigjiaeahekaaT23
namespace Go.Proofs.Ytnmigjiaeahekaa
open Go.RowKit Flt
set_option linter.unusedVariables false

set_option maxHeartbeats 4000000 in
set_option maxRecDepth 100000 in
theorem sAdd_any (a b1 b2 b3 b4 : Option Addr) (n c l t p n1 d1 n2 d2 n3 d3 n4 d4 : Nat) (zs r1 l1 r2 l2 : List Nat) (R : WR) (w : World) (h : Holds .f32 w a n zs) (k1 : Holds .f32 w b1 n1 r1) (k2 : Holds .f32 w b2 n2 l1) (k3 : Holds .f32 w b3 n3 r2) (k4 : Holds .f32 w b4 n4 l2) (hn : n ≤ 1048576) (hn1 : n1 ≤ 1048576) (hn2 : n2 ≤ 1048576) (hn3 : n3 ≤ 1048576) (hn4 : n4 ≤ 1048576) (hR : addW zs (cls .f32 l) (cls .f32 t) (cls .f32 p) r1 l1 r2 l2 = R) :
    Calls Try.prog 29 #[.agg #[.slice a n c, .float .f32 l, .float .f32 t, .float .f32 p], .agg #[.slice b1 n1 d1, .slice b2 n2 d2], .agg #[.slice b3 n3 d3, .slice b4 n4 d4]] w fun e w' => ∃ v, e = .returned (.tuple #[v, .bool R.ok]) ∧ WavesIs w' w.heap.size R v ∧ Ext w w' := by
  have HH := hid h
  have H1 := hid k1
  have H2 := hid k2
  have H3 := hid k3
  have H4 := hid k4
  have HN := hid hn
  have HN1 := hid hn1
  have HN2 := hid hn2
  have HN3 := hid hn3
  have HN4 := hid hn4
  have HL := hid h.1
  cases hV1 : wavesB (zs.map (cls .f32)) (cls .f32 l) (cls .f32 t) (cls .f32 p) (r1.map (cls .f32)) (l1.map (cls .f32))
  · have e : R = zeroW := by rw [← hR]; unfold addW; rw [hV1]; rfl
    subst e
    clear h k1 k2 k3 k4 hn hn1 hn2 hn3 hn4 hR
    go_enter Try.func29, Try.ntmps29
    go_wp2_with fail
    refine (l02Waves_ext _ _ _ _ _ _ _ _ _ _ _ _ _ _ zs r1 l1 false _ (Box.ext (box_new (w := w) #[.slice a n c, .float .f32 l, .float .f32 t, .float .f32 p] 27) (by (repeat with_reducible (first | exact Ext.refl _ | exact ext_alloc _ _ | refine Ext.drewN ?_ _ | refine Ext.drew1 ?_ | refine Ext.set ?_ (by dsimp only; omega) _ | refine Ext.alloc ?_ _)))) (Box.cast (Box.ext (box_new (w := (w.alloc (.cells #[.slice a n c, .float .f32 l, .float .f32 t, .float .f32 p] 27))) #[.slice b1 n1 d1, .slice b2 n2 d2] 43) (by (repeat with_reducible (first | exact Ext.refl _ | exact ext_alloc _ _ | refine Ext.drewN ?_ _ | refine Ext.drew1 ?_ | refine Ext.set ?_ (by dsimp only; omega) _ | refine Ext.alloc ?_ _)))) (by simp)) (Holds.ext HH.out (by (repeat with_reducible (first | exact Ext.refl _ | exact ext_alloc _ _ | refine Ext.drewN ?_ _ | refine Ext.drew1 ?_ | refine Ext.set ?_ (by dsimp only; omega) _ | refine Ext.alloc ?_ _)))) (Holds.ext H1.out (by (repeat with_reducible (first | exact Ext.refl _ | exact ext_alloc _ _ | refine Ext.drewN ?_ _ | refine Ext.drew1 ?_ | refine Ext.set ?_ (by dsimp only; omega) _ | refine Ext.alloc ?_ _)))) (Holds.ext H2.out (by (repeat with_reducible (first | exact Ext.refl _ | exact ext_alloc _ _ | refine Ext.drewN ?_ _ | refine Ext.drew1 ?_ | refine Ext.set ?_ (by dsimp only; omega) _ | refine Ext.alloc ?_ _)))) HN.out HN1.out HN2.out hV1).mono ?_
    rintro e w1 ⟨rfl, E1⟩
    have BA1 := hid (Box.ext (Box.ext (box_new (w := w) #[.slice a n c, .float .f32 l, .float .f32 t, .float .f32 p] 27) (by (repeat with_reducible (first | exact Ext.refl _ | exact ext_alloc _ _ | refine Ext.drewN ?_ _ | refine Ext.drew1 ?_ | refine Ext.set ?_ (by dsimp only; omega) _ | refine Ext.alloc ?_ _)))) E1)
    have BB1 := hid (Box.cast (b' := w.heap.size + 1) (Box.ext (Box.ext (box_new (w := (w.alloc (.cells #[.slice a n c, .float .f32 l, .float .f32 t, .float .f32 p] 27))) #[.slice b1 n1 d1, .slice b2 n2 d2] 43) (by (repeat with_reducible (first | exact Ext.refl _ | exact ext_alloc _ _ | refine Ext.drewN ?_ _ | refine Ext.drew1 ?_ | refine Ext.set ?_ (by dsimp only; omega) _ | refine Ext.alloc ?_ _)))) E1) (by simp))
    have BC1 := hid (Box.cast (b' := w.heap.size + 2) (Box.ext (Box.ext (box_new (w := ((w.alloc (.cells #[.slice a n c, .float .f32 l, .float .f32 t, .float .f32 p] 27)).alloc (.cells #[.slice b1 n1 d1, .slice b2 n2 d2] 43))) #[.slice b3 n3 d3, .slice b4 n4 d4] 43) (by (repeat with_reducible (first | exact Ext.refl _ | exact ext_alloc _ _ | refine Ext.drewN ?_ _ | refine Ext.drew1 ?_ | refine Ext.set ?_ (by dsimp only; omega) _ | refine Ext.alloc ?_ _)))) E1) (by simp))
    have BR1 := hid (Box.cast (b' := w.heap.size + 3) (Box.ext (Box.ext (box_new (w := (((w.alloc (.cells #[.slice a n c, .float .f32 l, .float .f32 t, .float .f32 p] 27)).alloc (.cells #[.slice b1 n1 d1, .slice b2 n2 d2] 43)).alloc (.cells #[.slice b3 n3 d3, .slice b4 n4 d4] 43))) #[.slice none 0 0, .slice none 0 0] 43) (by (repeat with_reducible (first | exact Ext.refl _ | exact ext_alloc _ _ | refine Ext.drewN ?_ _ | refine Ext.drew1 ?_ | refine Ext.set ?_ (by dsimp only; omega) _ | refine Ext.alloc ?_ _)))) E1) (by simp))
    have EX1 := hid (show Ext w w1 from Ext.trans (by (repeat with_reducible (first | exact Ext.refl _ | exact ext_alloc _ _ | refine Ext.drewN ?_ _ | refine Ext.drew1 ?_ | refine Ext.set ?_ (by dsimp only; omega) _ | refine Ext.alloc ?_ _))) E1)
    have SZ1 := hid (show w.heap.size + 4 ≤ w1.heap.size from by have := Ext.size E1; simp at this; omega)
    clear E1
    obtain ⟨z0, z1, zf0, zf1, zl⟩ := Box.all2 BR1.out
    go_wp2_with fail
    clear z0 z1 zf0 zf1 zl
    refine bodyPost_ret (ret_cell2 Try.results29 rfl (box_set2 BR1.out _ _) Try.underlying43 infoW) rfl ?_
    exact ⟨_, rfl, zeroW_is _ _, ext_set2 EX1.out (by omega) _ _⟩
  have L1 := hid (waves_len hV1)
  have e1 : n1 = n := by
    have g := L1.out.2.2.1
    have g1 := h.1
    have g2 := k1.1
    simp only [List.length_map] at g; omega
  have e2 : n2 = n := by
    have g := L1.out.2.2.2
    have g1 := h.1
    have g2 := k2.1
    simp only [List.length_map] at g; omega
  subst n1
  subst n2
  cases hV2 : wavesB (zs.map (cls .f32)) (cls .f32 l) (cls .f32 t) (cls .f32 p) (r2.map (cls .f32)) (l2.map (cls .f32))
  · have e : R = zeroW := by rw [← hR]; unfold addW; rw [hV1, hV2]; rfl
    subst e
    clear h k1 k2 k3 k4 hn hn1 hn2 hn3 hn4 hR
    go_enter Try.func29, Try.ntmps29
    go_wp2_with fail
    refine (l02Waves_ext _ _ _ _ _ _ _ _ _ _ _ _ _ _ zs r1 l1 true _ (Box.ext (box_new (w := w) #[.slice a n c, .float .f32 l, .float .f32 t, .float .f32 p] 27) (by (repeat with_reducible (first | exact Ext.refl _ | exact ext_alloc _ _ | refine Ext.drewN ?_ _ | refine Ext.drew1 ?_ | refine Ext.set ?_ (by dsimp only; omega) _ | refine Ext.alloc ?_ _)))) (Box.cast (Box.ext (box_new (w := (w.alloc (.cells #[.slice a n c, .float .f32 l, .float .f32 t, .float .f32 p] 27))) #[.slice b1 n d1, .slice b2 n d2] 43) (by (repeat with_reducible (first | exact Ext.refl _ | exact ext_alloc _ _ | refine Ext.drewN ?_ _ | refine Ext.drew1 ?_ | refine Ext.set ?_ (by dsimp only; omega) _ | refine Ext.alloc ?_ _)))) (by simp)) (Holds.ext HH.out (by (repeat with_reducible (first | exact Ext.refl _ | exact ext_alloc _ _ | refine Ext.drewN ?_ _ | refine Ext.drew1 ?_ | refine Ext.set ?_ (by dsimp only; omega) _ | refine Ext.alloc ?_ _)))) (Holds.ext H1.out (by (repeat with_reducible (first | exact Ext.refl _ | exact ext_alloc _ _ | refine Ext.drewN ?_ _ | refine Ext.drew1 ?_ | refine Ext.set ?_ (by dsimp only; omega) _ | refine Ext.alloc ?_ _)))) (Holds.ext H2.out (by (repeat with_reducible (first | exact Ext.refl _ | exact ext_alloc _ _ | refine Ext.drewN ?_ _ | refine Ext.drew1 ?_ | refine Ext.set ?_ (by dsimp only; omega) _ | refine Ext.alloc ?_ _)))) HN.out HN1.out HN2.out hV1).mono ?_
    rintro e w1 ⟨rfl, E1⟩
    have BA1 := hid (Box.ext (Box.ext (box_new (w := w) #[.slice a n c, .float .f32 l, .float .f32 t, .float .f32 p] 27) (by (repeat with_reducible (first | exact Ext.refl _ | exact ext_alloc _ _ | refine Ext.drewN ?_ _ | refine Ext.drew1 ?_ | refine Ext.set ?_ (by dsimp only; omega) _ | refine Ext.alloc ?_ _)))) E1)
    have BB1 := hid (Box.cast (b' := w.heap.size + 1) (Box.ext (Box.ext (box_new (w := (w.alloc (.cells #[.slice a n c, .float .f32 l, .float .f32 t, .float .f32 p] 27))) #[.slice b1 n d1, .slice b2 n d2] 43) (by (repeat with_reducible (first | exact Ext.refl _ | exact ext_alloc _ _ | refine Ext.drewN ?_ _ | refine Ext.drew1 ?_ | refine Ext.set ?_ (by dsimp only; omega) _ | refine Ext.alloc ?_ _)))) E1) (by simp))
    have BC1 := hid (Box.cast (b' := w.heap.size + 2) (Box.ext (Box.ext (box_new (w := ((w.alloc (.cells #[.slice a n c, .float .f32 l, .float .f32 t, .float .f32 p] 27)).alloc (.cells #[.slice b1 n d1, .slice b2 n d2] 43))) #[.slice b3 n3 d3, .slice b4 n4 d4] 43) (by (repeat with_reducible (first | exact Ext.refl _ | exact ext_alloc _ _ | refine Ext.drewN ?_ _ | refine Ext.drew1 ?_ | refine Ext.set ?_ (by dsimp only; omega) _ | refine Ext.alloc ?_ _)))) E1) (by simp))
    have BR1 := hid (Box.cast (b' := w.heap.size + 3) (Box.ext (Box.ext (box_new (w := (((w.alloc (.cells #[.slice a n c, .float .f32 l, .float .f32 t, .float .f32 p] 27)).alloc (.cells #[.slice b1 n d1, .slice b2 n d2] 43)).alloc (.cells #[.slice b3 n3 d3, .slice b4 n4 d4] 43))) #[.slice none 0 0, .slice none 0 0] 43) (by (repeat with_reducible (first | exact Ext.refl _ | exact ext_alloc _ _ | refine Ext.drewN ?_ _ | refine Ext.drew1 ?_ | refine Ext.set ?_ (by dsimp only; omega) _ | refine Ext.alloc ?_ _)))) E1) (by simp))
    have EX1 := hid (show Ext w w1 from Ext.trans (by (repeat with_reducible (first | exact Ext.refl _ | exact ext_alloc _ _ | refine Ext.drewN ?_ _ | refine Ext.drew1 ?_ | refine Ext.set ?_ (by dsimp only; omega) _ | refine Ext.alloc ?_ _))) E1)
    have SZ1 := hid (show w.heap.size + 4 ≤ w1.heap.size from by have := Ext.size E1; simp at this; omega)
    clear E1
    obtain ⟨j0, j1, j2, j3, jl⟩ := Box.cells4 BA1.out
    obtain ⟨x0, x1, xl⟩ := Box.cells2 BB1.out
    obtain ⟨y0, y1, yl⟩ := Box.cells2 BC1.out
    go_wp2_with fail
    refine (l02Waves_ext _ _ _ _ _ _ _ _ _ _ _ _ _ _ zs r2 l2 false _ (Box.ext BA1.out (by (repeat with_reducible (first | exact Ext.refl _ | exact ext_alloc _ _ | refine Ext.drewN ?_ _ | refine Ext.drew1 ?_ | refine Ext.set ?_ (by dsimp only; omega) _ | refine Ext.alloc ?_ _)))) (Box.ext BC1.out (by (repeat with_reducible (first | exact Ext.refl _ | exact ext_alloc _ _ | refine Ext.drewN ?_ _ | refine Ext.drew1 ?_ | refine Ext.set ?_ (by dsimp only; omega) _ | refine Ext.alloc ?_ _)))) (Holds.ext HH.out (Ext.trans EX1.out (by (repeat with_reducible (first | exact Ext.refl _ | exact ext_alloc _ _ | refine Ext.drewN ?_ _ | refine Ext.drew1 ?_ | refine Ext.set ?_ (by dsimp only; omega) _ | refine Ext.alloc ?_ _))))) (Holds.ext H3.out (Ext.trans EX1.out (by (repeat with_reducible (first | exact Ext.refl _ | exact ext_alloc _ _ | refine Ext.drewN ?_ _ | refine Ext.drew1 ?_ | refine Ext.set ?_ (by dsimp only; omega) _ | refine Ext.alloc ?_ _))))) (Holds.ext H4.out (Ext.trans EX1.out (by (repeat with_reducible (first | exact Ext.refl _ | exact ext_alloc _ _ | refine Ext.drewN ?_ _ | refine Ext.drew1 ?_ | refine Ext.set ?_ (by dsimp only; omega) _ | refine Ext.alloc ?_ _))))) HN.out HN3.out HN4.out hV2).mono ?_
    rintro e w2 ⟨rfl, E2⟩
    have BA2 := hid (Box.ext BA1.out E2)
    have BB2 := hid (Box.ext BB1.out E2)
    have BC2 := hid (Box.ext BC1.out E2)
    have BR2 := hid (Box.ext BR1.out E2)
    have EX2 := hid (Ext.trans EX1.out E2)
    have SZ2 := hid (show w.heap.size + 4 ≤ w2.heap.size from by have h8 := SZ1.out; have h9 := Ext.size E2; omega)
    clear E2 BA1 BB1 BC1 BR1 EX1 SZ1
    clear j0 j1 j2 j3 jl x0 x1 xl y0 y1 yl
    obtain ⟨z0, z1, zf0, zf1, zl⟩ := Box.all2 BR2.out
    go_wp2_with fail
    clear z0 z1 zf0 zf1 zl
    refine bodyPost_ret (ret_cell2 Try.results29 rfl (box_set2 BR2.out _ _) Try.underlying43 infoW) rfl ?_
    exact ⟨_, rfl, zeroW_is _ _, ext_set2 EX2.out (by omega) _ _⟩
  have L2 := hid (waves_len hV2)
  have e3 : n3 = n := by
    have g := L2.out.2.2.1
    have g1 := h.1
    have g2 := k3.1
    simp only [List.length_map] at g; omega
  have e4 : n4 = n := by
    have g := L2.out.2.2.2
    have g1 := h.1
    have g2 := k4.1
    simp only [List.length_map] at g; omega
  subst n3
  subst n4
  obtain ⟨V3, hV3⟩ : ∃ V3, wavesB (zs.map (cls .f32)) (cls .f32 l) (cls .f32 t) (cls .f32 p) (plusK r1 r2 n) (plusK l1 l2 n) = V3 := ⟨_, rfl⟩
  have HV3 := hid hV3
  have HR := hid (show (if V3 = true then (⟨true, plusK r1 r2 n, plusK l1 l2 n⟩ : WR) else zeroW) = R from by rw [← hR]; unfold addW; rw [hV1, hV2, h.1, hV3]; cases V3 <;> rfl)
  obtain ⟨i0, hi, hz0, hz1, hz2⟩ := info_parts infoF
  have HI := hid (And.intro hi (And.intro hz0 (And.intro hz1 hz2)))
  clear h k1 k2 k3 k4 hn hn1 hn2 hn3 hn4 hR hV3 hi hz0 hz1 hz2
  go_enter Try.func29, Try.ntmps29
  go_wp2_with fail
  refine (l02Waves_ext _ _ _ _ _ _ _ _ _ _ _ _ _ _ zs r1 l1 true _ (Box.ext (box_new (w := w) #[.slice a n c, .float .f32 l, .float .f32 t, .float .f32 p] 27) (by (repeat with_reducible (first | exact Ext.refl _ | exact ext_alloc _ _ | refine Ext.drewN ?_ _ | refine Ext.drew1 ?_ | refine Ext.set ?_ (by dsimp only; omega) _ | refine Ext.alloc ?_ _)))) (Box.cast (Box.ext (box_new (w := (w.alloc (.cells #[.slice a n c, .float .f32 l, .float .f32 t, .float .f32 p] 27))) #[.slice b1 n d1, .slice b2 n d2] 43) (by (repeat with_reducible (first | exact Ext.refl _ | exact ext_alloc _ _ | refine Ext.drewN ?_ _ | refine Ext.drew1 ?_ | refine Ext.set ?_ (by dsimp only; omega) _ | refine Ext.alloc ?_ _)))) (by simp)) (Holds.ext HH.out (by (repeat with_reducible (first | exact Ext.refl _ | exact ext_alloc _ _ | refine Ext.drewN ?_ _ | refine Ext.drew1 ?_ | refine Ext.set ?_ (by dsimp only; omega) _ | refine Ext.alloc ?_ _)))) (Holds.ext H1.out (by (repeat with_reducible (first | exact Ext.refl _ | exact ext_alloc _ _ | refine Ext.drewN ?_ _ | refine Ext.drew1 ?_ | refine Ext.set ?_ (by dsimp only; omega) _ | refine Ext.alloc ?_ _)))) (Holds.ext H2.out (by (repeat with_reducible (first | exact Ext.refl _ | exact ext_alloc _ _ | refine Ext.drewN ?_ _ | refine Ext.drew1 ?_ | refine Ext.set ?_ (by dsimp only; omega) _ | refine Ext.alloc ?_ _)))) HN.out HN1.out HN2.out hV1).mono ?_
  rintro e w1 ⟨rfl, E1⟩
  have BA1 := hid (Box.ext (Box.ext (box_new (w := w) #[.slice a n c, .float .f32 l, .float .f32 t, .float .f32 p] 27) (by (repeat with_reducible (first | exact Ext.refl _ | exact ext_alloc _ _ | refine Ext.drewN ?_ _ | refine Ext.drew1 ?_ | refine Ext.set ?_ (by dsimp only; omega) _ | refine Ext.alloc ?_ _)))) E1)
  have BB1 := hid (Box.cast (b' := w.heap.size + 1) (Box.ext (Box.ext (box_new (w := (w.alloc (.cells #[.slice a n c, .float .f32 l, .float .f32 t, .float .f32 p] 27))) #[.slice b1 n d1, .slice b2 n d2] 43) (by (repeat with_reducible (first | exact Ext.refl _ | exact ext_alloc _ _ | refine Ext.drewN ?_ _ | refine Ext.drew1 ?_ | refine Ext.set ?_ (by dsimp only; omega) _ | refine Ext.alloc ?_ _)))) E1) (by simp))
  have BC1 := hid (Box.cast (b' := w.heap.size + 2) (Box.ext (Box.ext (box_new (w := ((w.alloc (.cells #[.slice a n c, .float .f32 l, .float .f32 t, .float .f32 p] 27)).alloc (.cells #[.slice b1 n d1, .slice b2 n d2] 43))) #[.slice b3 n d3, .slice b4 n d4] 43) (by (repeat with_reducible (first | exact Ext.refl _ | exact ext_alloc _ _ | refine Ext.drewN ?_ _ | refine Ext.drew1 ?_ | refine Ext.set ?_ (by dsimp only; omega) _ | refine Ext.alloc ?_ _)))) E1) (by simp))
  have BR1 := hid (Box.cast (b' := w.heap.size + 3) (Box.ext (Box.ext (box_new (w := (((w.alloc (.cells #[.slice a n c, .float .f32 l, .float .f32 t, .float .f32 p] 27)).alloc (.cells #[.slice b1 n d1, .slice b2 n d2] 43)).alloc (.cells #[.slice b3 n d3, .slice b4 n d4] 43))) #[.slice none 0 0, .slice none 0 0] 43) (by (repeat with_reducible (first | exact Ext.refl _ | exact ext_alloc _ _ | refine Ext.drewN ?_ _ | refine Ext.drew1 ?_ | refine Ext.set ?_ (by dsimp only; omega) _ | refine Ext.alloc ?_ _)))) E1) (by simp))
  have EX1 := hid (show Ext w w1 from Ext.trans (by (repeat with_reducible (first | exact Ext.refl _ | exact ext_alloc _ _ | refine Ext.drewN ?_ _ | refine Ext.drew1 ?_ | refine Ext.set ?_ (by dsimp only; omega) _ | refine Ext.alloc ?_ _))) E1)
  have SZ1 := hid (show w.heap.size + 4 ≤ w1.heap.size from by have := Ext.size E1; simp at this; omega)
  clear E1
  obtain ⟨j0, j1, j2, j3, jl⟩ := Box.cells4 BA1.out
  obtain ⟨x0, x1, xl⟩ := Box.cells2 BB1.out
  obtain ⟨y0, y1, yl⟩ := Box.cells2 BC1.out
  go_wp2_with fail
  refine (l02Waves_ext _ _ _ _ _ _ _ _ _ _ _ _ _ _ zs r2 l2 true _ (Box.ext BA1.out (by (repeat with_reducible (first | exact Ext.refl _ | exact ext_alloc _ _ | refine Ext.drewN ?_ _ | refine Ext.drew1 ?_ | refine Ext.set ?_ (by dsimp only; omega) _ | refine Ext.alloc ?_ _)))) (Box.ext BC1.out (by (repeat with_reducible (first | exact Ext.refl _ | exact ext_alloc _ _ | refine Ext.drewN ?_ _ | refine Ext.drew1 ?_ | refine Ext.set ?_ (by dsimp only; omega) _ | refine Ext.alloc ?_ _)))) (Holds.ext HH.out (Ext.trans EX1.out (by (repeat with_reducible (first | exact Ext.refl _ | exact ext_alloc _ _ | refine Ext.drewN ?_ _ | refine Ext.drew1 ?_ | refine Ext.set ?_ (by dsimp only; omega) _ | refine Ext.alloc ?_ _))))) (Holds.ext H3.out (Ext.trans EX1.out (by (repeat with_reducible (first | exact Ext.refl _ | exact ext_alloc _ _ | refine Ext.drewN ?_ _ | refine Ext.drew1 ?_ | refine Ext.set ?_ (by dsimp only; omega) _ | refine Ext.alloc ?_ _))))) (Holds.ext H4.out (Ext.trans EX1.out (by (repeat with_reducible (first | exact Ext.refl _ | exact ext_alloc _ _ | refine Ext.drewN ?_ _ | refine Ext.drew1 ?_ | refine Ext.set ?_ (by dsimp only; omega) _ | refine Ext.alloc ?_ _))))) HN.out HN3.out HN4.out hV2).mono ?_
  rintro e w2 ⟨rfl, E2⟩
  have BA2 := hid (Box.ext BA1.out E2)
  have BB2 := hid (Box.ext BB1.out E2)
  have BC2 := hid (Box.ext BC1.out E2)
  have BR2 := hid (Box.ext BR1.out E2)
  have EX2 := hid (Ext.trans EX1.out E2)
  have SZ2 := hid (show w.heap.size + 4 ≤ w2.heap.size from by have h8 := SZ1.out; have h9 := Ext.size E2; omega)
  clear E2 BA1 BB1 BC1 BR1 EX1 SZ1
  clear j0 j1 j2 j3 jl x0 x1 xl y0 y1 yl
  obtain ⟨j0, j1, j2, j3, jl⟩ := Box.cells4 BA2.out
  obtain ⟨x0, x1, xl⟩ := Box.cells2 BB2.out
  obtain ⟨y0, y1, yl⟩ := Box.cells2 BC2.out
  go_wp2_with fail
  go_loopw [9] (fun i wr => ∃ (k : Nat) (us vs : List Nat) (v1 v2 : Value), k ≤ n ∧ i = .int .i64 k ∧ Hid (Own wr (w.heap.size + 4) k v1 us) ∧ Hid (Own wr (w.heap.size + 4) k v2 vs) ∧ Hid (∀ q, v1.ownBlock = some q → v2.ownBlock ≠ some q) ∧ Hid (v1.ownBlock ≠ some (w2.heap.size + 1 + 1)) ∧ Hid (v2.ownBlock ≠ some (w2.heap.size + 1 + 1)) ∧ Hid (us.map (cls .f32) = plusK r1 r2 k) ∧ Hid (vs.map (cls .f32) = plusK l1 l2 k) ∧ Hid (Box wr (w2.heap.size + 1 + 1) #[v1, v2]) ∧ Hid (Box wr w.heap.size #[.slice a n c, .float .f32 l, .float .f32 t, .float .f32 p]) ∧ Hid (Box wr (w.heap.size + 1) #[.slice b1 n d1, .slice b2 n d2]) ∧ Hid (Box wr (w.heap.size + 2) #[.slice b3 n d3, .slice b4 n d4]) ∧ Hid (Box wr (w.heap.size + 3) #[.slice none 0 0, .slice none 0 0]) ∧ Hid (Ext w wr)) (fun i _ => n - (intOf i).toNat)
  case atStart =>
    refine ⟨0, [], [], .slice (some ⟨w2.heap.size, 0, none⟩) 0 0, .slice (some ⟨w2.heap.size + 1, 0, none⟩) 0 0, Nat.zero_le _, rfl, ?_, ?_, hid ?_, hid ?_, hid ?_, hid rfl, hid rfl, hid (Box.cast (box_new _ _) (by simp)), hid (Box.ext BA2.out (by (repeat with_reducible (first | exact Ext.refl _ | exact ext_alloc _ _ | refine Ext.drewN ?_ _ | refine Ext.drew1 ?_ | refine Ext.set ?_ (by dsimp only; omega) _ | refine Ext.alloc ?_ _)))), hid (Box.ext BB2.out (by (repeat with_reducible (first | exact Ext.refl _ | exact ext_alloc _ _ | refine Ext.drewN ?_ _ | refine Ext.drew1 ?_ | refine Ext.set ?_ (by dsimp only; omega) _ | refine Ext.alloc ?_ _)))), hid (Box.ext BC2.out (by (repeat with_reducible (first | exact Ext.refl _ | exact ext_alloc _ _ | refine Ext.drewN ?_ _ | refine Ext.drew1 ?_ | refine Ext.set ?_ (by dsimp only; omega) _ | refine Ext.alloc ?_ _)))), hid (Box.ext BR2.out (by (repeat with_reducible (first | exact Ext.refl _ | exact ext_alloc _ _ | refine Ext.drewN ?_ _ | refine Ext.drew1 ?_ | refine Ext.set ?_ (by dsimp only; omega) _ | refine Ext.alloc ?_ _)))), hid (Ext.trans EX2.out (by (repeat with_reducible (first | exact Ext.refl _ | exact ext_alloc _ _ | refine Ext.drewN ?_ _ | refine Ext.drew1 ?_ | refine Ext.set ?_ (by dsimp only; omega) _ | refine Ext.alloc ?_ _))))⟩
    · exact hid (Own.alloc (Own.alloc (own_fresh (cs := #[]) (zs := []) (hid rfl) rfl rfl SZ2.out (Nat.zero_le _)) _) _)
    · exact hid (Own.alloc (own_fresh (w := w2.alloc (.cells #[] 23)) (cs := #[]) (zs := []) (hid rfl) rfl (by simp) (by have := SZ2.out; simp; omega) (Nat.zero_le _)) _)
    · intro q h1 h2
      have e1 : w2.heap.size = q := Option.some.inj h1
      have e2 : w2.heap.size + 1 = q := Option.some.inj h2
      omega
    · intro h1
      have e1 : w2.heap.size = w2.heap.size + 1 + 1 := Option.some.inj h1
      omega
    · intro h1
      have e1 : w2.heap.size + 1 = w2.heap.size + 1 + 1 := Option.some.inj h1
      omega
  case round =>
    obtain ⟨k, us, vs, v1, v2, hk, rfl, ho, hv, hd, hn1, hn2, hu1, hu2, hD, hA, hB, hC, hZ, he⟩ := hrel
    clear j0 j1 j2 j3 jl x0 x1 xl y0 y1 yl
    obtain ⟨j0, j1, j2, j3, jl⟩ := Box.cells4 hA.out
    obtain ⟨x0, x1, xl⟩ := Box.cells2 hB.out
    obtain ⟨y0, y1, yl⟩ := Box.cells2 hC.out
    obtain ⟨g0, g1, gl⟩ := Box.cells2 hD.out
    obtain ⟨va, vc, rfl, _, _⟩ := Own.holds ho.out
    obtain ⟨wa, wc, rfl, _, _⟩ := Own.holds hv.out
    have hn0 : n ≤ 1048576 := HN.out
    have SW := hid (show w.heap.size + 4 ≤ w2.heap.size from SZ2.out)
    have HO1 := hid (Own.block ho.out)
    have HO2 := hid (Own.block hv.out)
    by_cases hlt : k < n
    · obtain ⟨b, off, b', off', rfl, rfl, e1, e2⟩ := two_cells (Holds.ext H1.out he.out) (Holds.ext H3.out he.out) k hlt
      have hi0 : (0 : Int) ≤ (k : Int) := by omega
      have hi1 : (k : Int) < (n : Int) := by omega
      have hkn := hid (show k + 1 ≤ n from hlt)
      have hms1 := hid (plus_snoc r1 r2 k)
      have hms2 := hid (plus_snoc l1 l2 k)
      generalize r1.getD k 0 = xa at e1 hms1
      generalize r2.getD k 0 = xb at e2 hms1
      go_wp2_with fail
      refine wp_region_load_tail 0 1 2 13 10 [14, 15, 16] (rest := [_, _, _]) (.pointer (some ⟨w2.heap.size + 1 + 1, 0, none⟩)) (.slice va k vc) (fun w' => w'.cell? ⟨w2.heap.size + 1 + 1, 0, none⟩ = some (.slice va k vc)) (by kernel_rfl) (by kernel_rfl) rfl rfl rfl rfl rfl rfl (fun _ _ _ h => h) (fun _ _ _ h => h) (Or.inl ⟨by rfl, fun w => by go_simp⟩) (Or.inl ⟨by rfl, fun w hS => by go_simp⟩) (fun m => g0) (fun m o => Box.cell (Box.alloc (Box.drewN hD.out m) o) 0) ?_
      simp only [List.take_succ_cons, List.take_zero, List.drop_succ_cons, List.drop_zero]
      repeat (first | (refine wpM_mult0 rfl rfl ?_; refine mult_farith rfl rfl rfl rfl ?_; intro r7 hqr7 hwr7) | (refine wpM_quiet rfl (fun K hK => ?_); go_simp; refine hK _ ?_; clear hK K))
      refine wpM_nil ?_
      intro w4 hw4
      obtain ⟨nq7, hw4⟩ := hw4
      subst hw4
      refine ⟨.slice (some ⟨wr.heap.size, 0, none⟩) 1 1, .cells #[.float .f32 r7] 23, ?_, ?_⟩
      · go_simp
      simp only [Act.put, List.setIfInBounds_toArray, List.set_cons_zero, List.set_cons_succ]
      refine wpList_append_lies _ rfl _ _ 22 rfl (w.heap.size + 4) 23 i0 (.float .f32 0) 1 4 Try.underlying22 HI.out.1 HI.out.2.1 HI.out.2.2.1 HI.out.2.2.2 rfl (by decide) (.slice va k vc) k (us.map (Value.float .f32)) rfl (Own.alloc (Own.drewN ho.out nq7) _) ⟨wr.heap.size, 0, none⟩ 1 1 [.float .f32 r7] rfl rfl (World.news_of_block (heap_alloc_new _ _)) (by intro u hu; simp at hu; subst hu; rfl) (by omega) (by have := hkn.out; unfold maxLen; omega) (by have := hkn.out; omega) (by have h9 := SW.out; have h7 := Box.lt hD.out; simp; omega) _ rfl ?_
      intro g5 cap5 w5 hown hgrow hat hlt5
      have E5 := hid (show Ext w w5 from But.below hgrow (Ext.alloc (Ext.drewN he.out nq7) _) (fun k2 hk2 => by have := (HO1.out k2 hk2).1; omega))
      have D5 := hid (But.box hgrow (Box.alloc (Box.drewN hD.out nq7) _) hn1.out)
      have A5 := hid (But.box hgrow (Box.alloc (Box.drewN hA.out nq7) _) (fun hk => by have := (HO1.out _ hk).1; omega))
      have B5 := hid (But.box hgrow (Box.alloc (Box.drewN hB.out nq7) _) (fun hk => by have := (HO1.out _ hk).1; omega))
      have C5 := hid (But.box hgrow (Box.alloc (Box.drewN hC.out nq7) _) (fun hk => by have := (HO1.out _ hk).1; omega))
      have Z5 := hid (But.box hgrow (Box.alloc (Box.drewN hZ.out nq7) _) (fun hk => by have := (HO1.out _ hk).1; omega))
      have V5 := hid (But.own hgrow (Own.alloc (Own.drewN hv.out nq7) _) (fun q hq h2 => hd.out q h2 hq))
      have GD5 := hid (show (Value.slice (some ⟨g5, 0, none⟩) (k + 1) cap5).ownBlock ≠ some (w2.heap.size + 1 + 1) from fun hg => hat.elim (fun h4 => hn1.out (by rw [h4]; exact hg)) (fun h4 => by have hg2 : g5 = w2.heap.size + 1 + 1 := Option.some.inj hg; have h7 := Box.lt hD.out; simp at h4; omega))
      have GV5 := hid (show ∀ q, (Value.slice (some ⟨g5, 0, none⟩) (k + 1) cap5).ownBlock = some q → (Value.slice wa k wc).ownBlock ≠ some q from fun q hg hq => hat.elim (fun h4 => hd.out q (by rw [h4]; exact hg) hq) (fun h4 => by have hg2 : g5 = q := Option.some.inj hg; have := (HO2.out q hq).2; simp at h4; omega))
      have O5 := hid (own_snoc23 hown)
      clear hown hgrow hat j0 j1 j2 j3 jl x0 x1 xl y0 y1 yl g0 g1 gl
      obtain ⟨g0, g1, gf0, gf1, gl⟩ := Box.all2 D5.out
      go_wp2_with fail
      clear g0 g1 gf0 gf1 gl
      have hcl1 := hid (show (us ++ [r7]).map (cls .f32) = plusK r1 r2 (k + 1) from by rw [List.map_append, hu1.out, hms1.out]; exact congrArg (fun z => _ ++ [z]) hqr7.out)
      have O7 := hid (Own.far (j := 0) O5.out GD5.out (.slice (some ⟨g5, 0, none⟩) (k + 1) cap5))
      have V7 := hid (Own.far (j := 0) V5.out hn2.out (.slice (some ⟨g5, 0, none⟩) (k + 1) cap5))
      have D7 := hid (show Box (w5.setCell ⟨w2.heap.size + 1 + 1, 0, none⟩ (.slice (some ⟨g5, 0, none⟩) (k + 1) cap5)) (w2.heap.size + 1 + 1) #[.slice (some ⟨g5, 0, none⟩) (k + 1) cap5, .slice wa k wc] from box_set (j := 0) D5.out _)
      have A7 := hid (Box.far (j := 0) A5.out (show w.heap.size ≠ w2.heap.size + 1 + 1 from by have := SW.out; omega) (.slice (some ⟨g5, 0, none⟩) (k + 1) cap5))
      have B7 := hid (Box.far (j := 0) B5.out (show w.heap.size + 1 ≠ w2.heap.size + 1 + 1 from by have := SW.out; omega) (.slice (some ⟨g5, 0, none⟩) (k + 1) cap5))
      have C7 := hid (Box.far (j := 0) C5.out (show w.heap.size + 2 ≠ w2.heap.size + 1 + 1 from by have := SW.out; omega) (.slice (some ⟨g5, 0, none⟩) (k + 1) cap5))
      have Z7 := hid (Box.far (j := 0) Z5.out (show w.heap.size + 3 ≠ w2.heap.size + 1 + 1 from by have := SW.out; omega) (.slice (some ⟨g5, 0, none⟩) (k + 1) cap5))
      have E7 := hid (Ext.set (p := ⟨w2.heap.size + 1 + 1, 0, none⟩) E5.out (by have := SW.out; dsimp only; omega) (.slice (some ⟨g5, 0, none⟩) (k + 1) cap5))
      obtain ⟨W7, hW7⟩ : ∃ u, w5.setCell ⟨w2.heap.size + 1 + 1, 0, none⟩ (.slice (some ⟨g5, 0, none⟩) (k + 1) cap5) = u := ⟨_, rfl⟩
      rw [hW7] at O7 V7 D7 A7 B7 C7 Z7 E7 ⊢
      clear hW7 e1 e2 O5 V5 D5 A5 B5 C5 Z5 E5 hqr7 hwr7 ho hv hD hA hB hC hZ he
      have hd7 := hid (show ∀ q, (Value.slice wa k wc).ownBlock = some q → (Value.slice (some ⟨g5, 0, none⟩) (k + 1) cap5).ownBlock ≠ some q from fun q h1 h2 => GV5.out q h2 h1)
      have HO7 := hid (Own.block V7.out)
      have HO8 := hid (Own.block O7.out)
      obtain ⟨j0, j1, j2, j3, jl⟩ := Box.cells4 A7.out
      obtain ⟨x0, x1, xl⟩ := Box.cells2 B7.out
      obtain ⟨y0, y1, yl⟩ := Box.cells2 C7.out
      obtain ⟨g0, g1, gl⟩ := Box.cells2 D7.out
      obtain ⟨bb, of2, bb', of2', rfl, rfl, e3, e4⟩ := two_cells (Holds.ext H2.out E7.out) (Holds.ext H4.out E7.out) k hlt
      generalize l1.getD k 0 = ya at e3 hms2
      generalize l2.getD k 0 = yb at e4 hms2
      refine wp_region_load_tail 0 1 2 13 10 [14, 15, 16] (rest := [_, _, _]) (.pointer (some ⟨w2.heap.size + 1 + 1, 1, none⟩)) (.slice wa k wc) (fun w' => w'.cell? ⟨w2.heap.size + 1 + 1, 1, none⟩ = some (.slice wa k wc)) (by kernel_rfl) (by kernel_rfl) rfl rfl rfl rfl rfl rfl (fun _ _ _ h => h) (fun _ _ _ h => h) (Or.inl ⟨by rfl, fun w => by go_simp⟩) (Or.inl ⟨by rfl, fun w hS => by go_simp⟩) (fun m => g1) (fun m o => Box.cell (Box.alloc (Box.drewN D7.out m) o) 1) ?_
      simp only [List.take_succ_cons, List.take_zero, List.drop_succ_cons, List.drop_zero]
      repeat (first | (refine wpM_mult0 rfl rfl ?_; refine mult_farith rfl rfl rfl rfl ?_; intro r8 hqr8 hwr8) | (refine wpM_quiet rfl (fun K hK => ?_); go_simp; refine hK _ ?_; clear hK K))
      refine wpM_nil ?_
      intro w4 hw4
      obtain ⟨nq8, hw4⟩ := hw4
      subst hw4
      refine ⟨.slice (some ⟨W7.heap.size, 0, none⟩) 1 1, .cells #[.float .f32 r8] 23, ?_, ?_⟩
      · go_simp
      simp only [Act.put, List.setIfInBounds_toArray, List.set_cons_zero, List.set_cons_succ]
      refine wpList_append_lies _ rfl _ _ 22 rfl (w.heap.size + 4) 23 i0 (.float .f32 0) 1 4 Try.underlying22 HI.out.1 HI.out.2.1 HI.out.2.2.1 HI.out.2.2.2 rfl (by decide) (.slice wa k wc) k (vs.map (Value.float .f32)) rfl (Own.alloc (Own.drewN V7.out nq8) _) ⟨W7.heap.size, 0, none⟩ 1 1 [.float .f32 r8] rfl rfl (World.news_of_block (heap_alloc_new _ _)) (by intro u hu; simp at hu; subst hu; rfl) (by omega) (by have := hkn.out; unfold maxLen; omega) (by have := hkn.out; omega) (by have h9 := SW.out; have h7 := Box.lt D7.out; simp; omega) _ rfl ?_
      intro g6 cap6 w6 hown hgrow hat hlt5
      have E6 := hid (show Ext w w6 from But.below hgrow (Ext.alloc (Ext.drewN E7.out nq8) _) (fun k2 hk2 => by have := (HO7.out k2 hk2).1; omega))
      have D6 := hid (But.box hgrow (Box.alloc (Box.drewN D7.out nq8) _) hn2.out)
      have A6 := hid (But.box hgrow (Box.alloc (Box.drewN A7.out nq8) _) (fun hk => by have := (HO7.out _ hk).1; omega))
      have B6 := hid (But.box hgrow (Box.alloc (Box.drewN B7.out nq8) _) (fun hk => by have := (HO7.out _ hk).1; omega))
      have C6 := hid (But.box hgrow (Box.alloc (Box.drewN C7.out nq8) _) (fun hk => by have := (HO7.out _ hk).1; omega))
      have Z6 := hid (But.box hgrow (Box.alloc (Box.drewN Z7.out nq8) _) (fun hk => by have := (HO7.out _ hk).1; omega))
      have V6 := hid (But.own hgrow (Own.alloc (Own.drewN O7.out nq8) _) (fun q hq h2 => hd7.out q h2 hq))
      have GD6 := hid (show (Value.slice (some ⟨g6, 0, none⟩) (k + 1) cap6).ownBlock ≠ some (w2.heap.size + 1 + 1) from fun hg => hat.elim (fun h4 => hn2.out (by rw [h4]; exact hg)) (fun h4 => by have hg2 : g6 = w2.heap.size + 1 + 1 := Option.some.inj hg; have h7 := Box.lt D7.out; simp at h4; omega))
      have GV6 := hid (show ∀ q, (Value.slice (some ⟨g6, 0, none⟩) (k + 1) cap6).ownBlock = some q → (Value.slice (some ⟨g5, 0, none⟩) (k + 1) cap5).ownBlock ≠ some q from fun q hg hq => hat.elim (fun h4 => hd7.out q (by rw [h4]; exact hg) hq) (fun h4 => by have hg2 : g6 = q := Option.some.inj hg; have := (HO8.out q hq).2; simp at h4; omega))
      have O6 := hid (own_snoc23 hown)
      clear hown hgrow hat j0 j1 j2 j3 jl x0 x1 xl y0 y1 yl g0 g1 gl
      obtain ⟨g0, g1, gf0, gf1, gl⟩ := Box.all2 D6.out
      go_wp2_with fail
      clear g0 g1 gf0 gf1 gl
      have hcl2 := hid (show (vs ++ [r8]).map (cls .f32) = plusK l1 l2 (k + 1) from by rw [List.map_append, hu2.out, hms2.out]; exact congrArg (fun z => _ ++ [z]) hqr8.out)
      go_roundw
      case rel => exact ⟨k + 1, us ++ [r7], vs ++ [r8], .slice (some ⟨g5, 0, none⟩) (k + 1) cap5, .slice (some ⟨g6, 0, none⟩) (k + 1) cap6, by omega, by go_num, hid (Own.far V6.out GD5.out _), hid (Own.far O6.out GD6.out _), hid (fun q h1 h2 => GV6.out q h2 h1), GD5, GD6, hcl1, hcl2, hid (box_set (j := 1) D6.out _), hid (Box.far A6.out (by have := SW.out; omega) _), hid (Box.far B6.out (by have := SW.out; omega) _), hid (Box.far C6.out (by have := SW.out; omega) _), hid (Box.far Z6.out (by have := SW.out; omega) _), hid (Ext.set E6.out (by have := SW.out; dsimp only; omega) _)⟩
      case measure => simp [intOf]; omega
    · have hkn : k = n := by omega
      subst hkn
      go_wp2_with fail
      refine (l02Both_any _ (w.heap.size + 4) _ _ _ _ _ _ _ _ _ _ zs us vs V3 R _ hA.out (Holds.ext HH.out he.out) ho.out hv.out (by have := Box.lt hD.out; have := SW.out; omega) HN.out hd.out (by rw [hu1.out, hu2.out]; exact HV3.out) (by rw [hu1.out, hu2.out]; exact HR.out)).mono ?_
      rintro e w9 ⟨v, rfl, hT, E9⟩
      have Z9 := hid (Box.ext hZ.out E9)
      have E10 := hid (Ext.trans he.out E9)
      clear E9 j0 j1 j2 j3 jl x0 x1 xl y0 y1 yl g0 g1 gl
      obtain ⟨ra, rc, rb, rd, rz, ry, rfl, hT2⟩ := hT
      have HT := hid (show WavesIs w9 (w.heap.size + 4) R (.agg #[.slice ra R.r.length rc, .slice rb R.l.length rd]) from ⟨ra, rc, rb, rd, rz, ry, rfl, hT2⟩)
      clear hT2
      obtain ⟨z0, z1, zf0, zf1, zl⟩ := Box.all2 Z9.out
      go_wp2_with fail
      clear z0 z1 zf0 zf1 zl
      refine bodyPost_ret (ret_cell2 Try.results29 rfl (box_set2 Z9.out _ _) Try.underlying43 infoW) rfl ?_
      exact ⟨_, rfl, WavesIs.base (WavesIs.far2 HT.out (by omega) _ _) (by omega), ext_set2 E10.out (by omega) _ _⟩
end Go.Proofs.Ytnmigjiaeahekaa
