/- Mixed frames, before they are given. -/
import Derived.Test.YthinjgiakaflpaaF7
import Derived.Test.YthinjgiakaflpaaT21
import Derived.Test.YthinjgiakaflpaaT18
import Derived.Test.YthinjgiakaflpaaF4
namespace Go.Proofs.Ythinjgiakaflpaa
open Go.RowKit Flt
set_option linter.unusedVariables false


def mixF (cs : List (Option Nat)) (l t p : Option Nat) (ds : List (Option Nat)) (l2 t2 p2 S : Option Nat) : FR :=
  if frameC cs l t p = true ∧ frameC ds l2 t2 p2 = true ∧ cs.length = ds.length ∧ shareC S = true then giveF (mixC S cs ds) (betC l l2 S) (betC t t2 S) (betC p p2 S) else zeroF
theorem mixF_len (cs : List (Option Nat)) (l t p : Option Nat) (ds : List (Option Nat)) (l2 t2 p2 S : Option Nat) : (mixF cs l t p ds l2 t2 p2 S).cs.length ≤ 16 := by
  unfold mixF
  split
  · exact giveF_len _ _ _ _
  · exact Nat.zero_le _

set_option maxHeartbeats 4000000 in
set_option maxRecDepth 100000 in
theorem l06Mix_any (x y : Nat) (a1 a2 : Option Addr) (n c1 c2 l1 t1 p1 l2 t2 p2 s : Nat) (xs ys : List Nat) (w : World) (hx : Box w x #[.slice a1 n c1, .float .f32 l1, .float .f32 t1, .float .f32 p1]) (hy : Box w y #[.slice a2 n c2, .float .f32 l2, .float .f32 t2, .float .f32 p2]) (h1 : Holds .f32 w a1 n xs) (h2 : Holds .f32 w a2 n ys) (hn : n ≤ 1048576) (h01 : 1 ≤ n) :
    Calls Try.prog 88 #[.pointer (some ⟨x, 0, none⟩), .pointer (some ⟨y, 0, none⟩), .float .f32 s] w fun e w' => ∃ b c' q1 q2 q3 zs, e = .returned (.agg #[.slice b n c', .float .f32 q1, .float .f32 q2, .float .f32 q3]) ∧ Own w' w.heap.size n (.slice b n c') zs ∧ zs.map (cls .f32) = mixC (cls .f32 s) (xs.map (cls .f32)) (ys.map (cls .f32)) ∧ Is .f32 q1 (betC (cls .f32 l1) (cls .f32 l2) (cls .f32 s)) ∧ Is .f32 q2 (betC (cls .f32 t1) (cls .f32 t2) (cls .f32 s)) ∧ Is .f32 q3 (betC (cls .f32 p1) (cls .f32 p2) (cls .f32 s)) ∧ Ext w w' := by
  have H1 := hid h1
  have H2 := hid h2
  have HN := hid hn
  have HX := hid hx
  have HY := hid hy
  obtain ⟨d0, d1, d2, d3, dl⟩ := Box.cells4 hx
  obtain ⟨y0, y1, y2, y3, yl⟩ := Box.cells4 hy
  clear h1 h2 hn hx hy
  go_enter Try.func88, Try.ntmps88
  go_wp2_with fail
  go_region_held3 (fun w' => w'.cell? ⟨x, 0, none⟩ = some (.slice a1 n c1) ∧ w'.cell? ⟨y, 0, none⟩ = some (.slice a2 n c2))
    (first | (refine keep_of (c := w) (S := fun w' => w'.cell? ⟨x, 0, none⟩ = some (.slice a1 n c1) ∧ w'.cell? ⟨y, 0, none⟩ = some (.slice a2 n c2)) (fun u hu => ⟨Box.cell (Box.ext HX.out hu) 0, Box.cell (Box.ext HY.out hu) 0⟩) ?_; (repeat (first | exact Ext.refl _ | exact ext_alloc _ _ | (with_reducible refine Ext.trans ?_ E1) | (with_reducible refine Ext.drewN ?_ _) | (with_reducible refine Ext.drew1 ?_) | (with_reducible refine Ext.alloc ?_ _) | (with_reducible refine Ext.set ?_ ?_ _; rotate_left; (first | exact Nat.le_succ _ | (simp; done) | (simp; omega))))); done))
    (first | (go_at_call 115; with_reducible refine (l02Mix_any a1 a2 n c1 c2 s xs ys _ (Holds.ext H1.out (by (repeat with_reducible (first | exact Ext.refl _ | exact ext_alloc _ _ | refine Ext.drewN ?_ _ | refine Ext.drew1 ?_ | refine Ext.set ?_ (by dsimp only; omega) _ | refine Ext.alloc ?_ _)))) (Holds.ext H2.out (by (repeat with_reducible (first | exact Ext.refl _ | exact ext_alloc _ _ | refine Ext.drewN ?_ _ | refine Ext.drew1 ?_ | refine Ext.set ?_ (by dsimp only; omega) _ | refine Ext.alloc ?_ _)))) HN.out).mono ?_; rintro e w1 ⟨b, c', zs, rfl, O1, hz, E1⟩; try (apply with_box (w' := w1) (vs := #[.slice none 0 0, .float .f32 0, .float .f32 0, .float .f32 0]) (t := 47); (· (repeat with_reducible (first | exact Ext.refl _ | exact ext_alloc _ _ | refine Ext.trans ?_ E1 | refine Ext.drewN ?_ _ | refine Ext.drew1 ?_ | refine Ext.alloc ?_ _))); intro BN; try (with_reducible replace BN := Box.at1 BN; obtain ⟨z0, z1, z2, z3, zf0, zf1, zf2, zf3, zl⟩ := Box.all4 BN))))
  · obtain ⟨wa, hwa⟩ : ∃ u : Nat, u = w1.heap.size := ⟨_, rfl⟩
    obtain ⟨v0, hv0⟩ : ∃ u, u = w1.alloc (.cells #[.slice b n c', .float .f32 0, .float .f32 0, .float .f32 0] 47) := ⟨_, rfl⟩
    have HW := hid (show w.heap.size < wa ∧ x < w.heap.size ∧ y < w.heap.size from ⟨by rw [hwa]; have h8 := Ext.size E1; simp at h8; omega, dl, yl⟩)
    have EXv := hid (show Ext w v0 from by rw [hv0]; exact Ext.alloc (Ext.trans (show Ext w _ from by (repeat with_reducible (first | exact Ext.refl _ | exact ext_alloc _ _ | refine Ext.drewN ?_ _ | refine Ext.drew1 ?_ | refine Ext.set ?_ (by dsimp only; omega) _ | refine Ext.alloc ?_ _))) E1) _)
    have BXh := hid (show Box v0 x #[.slice a1 n c1, .float .f32 l1, .float .f32 t1, .float .f32 p1] from by rw [hv0]; exact Box.alloc (Box.ext HX.out (Ext.trans (show Ext w _ from by (repeat with_reducible (first | exact Ext.refl _ | exact ext_alloc _ _ | refine Ext.drewN ?_ _ | refine Ext.drew1 ?_ | refine Ext.set ?_ (by dsimp only; omega) _ | refine Ext.alloc ?_ _))) E1)) _)
    have BYh := hid (show Box v0 y #[.slice a2 n c2, .float .f32 l2, .float .f32 t2, .float .f32 p2] from by rw [hv0]; exact Box.alloc (Box.ext HY.out (Ext.trans (show Ext w _ from by (repeat with_reducible (first | exact Ext.refl _ | exact ext_alloc _ _ | refine Ext.drewN ?_ _ | refine Ext.drew1 ?_ | refine Ext.set ?_ (by dsimp only; omega) _ | refine Ext.alloc ?_ _))) E1)) _)
    have B6 := hid (show Box v0 w.heap.size #[.slice none 0 0, .float .f32 0, .float .f32 0, .float .f32 0] from by rw [hv0]; exact Box.alloc (Box.ext (Box.ext (box_new (w := w) #[.slice none 0 0, .float .f32 0, .float .f32 0, .float .f32 0] 47) (by (repeat with_reducible (first | exact Ext.refl _ | exact ext_alloc _ _ | refine Ext.drewN ?_ _ | refine Ext.drew1 ?_ | refine Ext.set ?_ (by dsimp only; omega) _ | refine Ext.alloc ?_ _)))) E1) _)
    have B7 := hid (show Box v0 wa #[.slice b n c', .float .f32 0, .float .f32 0, .float .f32 0] from by rw [hv0, hwa]; exact box_new _ _)
    have HNE := hid (show (Value.slice b n c').ownBlock ≠ some wa from fun hk => by have h8 := Own.block O1 _ hk; omega)
    have OW := hid (show Own v0 (w.heap.size + 1) n (.slice b n c') zs from by rw [hv0]; exact Own.base (B' := w.heap.size + 1) (Own.alloc O1 _) (by simp))
    rw [← hv0, ← hwa]
    clear hv0 hwa O1 E1 BN d0 d1 d2 d3 dl y0 y1 y2 y3 yl
    try clear z0 z1 z2 z3 zf0 zf1 zf2 zf3 zl
    have HQ0 := hid hz
    clear hz
    obtain ⟨d0, d1, d2, d3, dl⟩ := Box.cells4 BXh.out
    obtain ⟨y0, y1, y2, y3, yl⟩ := Box.cells4 BYh.out
    obtain ⟨z0, z1, z2, z3, zf0, zf1, zf2, zf3, zl⟩ := Box.all4 B7.out
    go_wp2_with fail
    refine wp_region_tail 17 (by kernel_rfl) (by kernel_rfl) (by kernel_rfl) ?_
    simp only [List.take_succ_cons, List.take_zero, List.drop_succ_cons, List.drop_zero]
    repeat (with_reducible refine wpM_cons ?_; first
      | (refine wpM_fa rfl rfl rfl rfl rfl (by first | assumption | exact is_const (by decide) | exact is_int _ | exact is_self _ _) (by first | assumption | exact is_const (by decide) | exact is_int _ | exact is_self _ _) ?_; intro r hr hrw)
      | (refine wpM_quiet rfl (fun K hK => ?_); go_simp; refine hK _ ?_; clear hK K))
    with_reducible refine wpM_nil ?_
    intro w3 hw3
    obtain ⟨nq, hw3⟩ := hw3
    subst hw3
    have hq1 := hid (show Is .f32 r (betC (cls .f32 l1) (cls .f32 l2) (cls .f32 s)) from by unfold betC; rw [fop_mul_comm]; exact hr)
    generalize r = q1 at hq1 ⊢
    clear hr hrw
    go_wp2_with fail
    obtain ⟨v1, hv1⟩ : ∃ u, u = ((v0.drewN nq).setCell ⟨wa, 1, none⟩ (.float .f32 q1)) := ⟨_, rfl⟩
    rw [← hv1]
    replace BXh := hid (show Box v1 x #[.slice a1 n c1, .float .f32 l1, .float .f32 t1, .float .f32 p1] from by rw [hv1]; exact Box.far (Box.drewN BXh.out _) (by have := HW.out; omega) _)
    replace BYh := hid (show Box v1 y #[.slice a2 n c2, .float .f32 l2, .float .f32 t2, .float .f32 p2] from by rw [hv1]; exact Box.far (Box.drewN BYh.out _) (by have := HW.out; omega) _)
    replace B6 := hid (show Box v1 w.heap.size #[.slice none 0 0, .float .f32 0, .float .f32 0, .float .f32 0] from by rw [hv1]; exact Box.far (Box.drewN B6.out _) (by have := HW.out; omega) _)
    replace B7 := hid (show Box v1 wa #[.slice b n c', .float .f32 q1, .float .f32 0, .float .f32 0] from by rw [hv1]; exact Box.eqv (box_set (j := 1) (Box.drewN B7.out _) _) (by rfl))
    replace OW := hid (show Own v1 (w.heap.size + 1) n (.slice b n c') zs from by rw [hv1]; exact Own.far (Own.drewN OW.out _) HNE.out _)
    replace EXv := hid (show Ext w v1 from by rw [hv1]; exact Ext.set (Ext.drewN EXv.out _) (by have := HW.out; dsimp only; omega) _)
    clear hv1 d0 d1 d2 d3 dl y0 y1 y2 y3 yl z0 z1 z2 z3 zf0 zf1 zf2 zf3 zl
    obtain ⟨d0, d1, d2, d3, dl⟩ := Box.cells4 BXh.out
    obtain ⟨y0, y1, y2, y3, yl⟩ := Box.cells4 BYh.out
    obtain ⟨z0, z1, z2, z3, zf0, zf1, zf2, zf3, zl⟩ := Box.all4 B7.out
    skip
    refine wp_region_tail 17 (by kernel_rfl) (by kernel_rfl) (by kernel_rfl) ?_
    simp only [List.take_succ_cons, List.take_zero, List.drop_succ_cons, List.drop_zero]
    repeat (with_reducible refine wpM_cons ?_; first
      | (refine wpM_fa rfl rfl rfl rfl rfl (by first | assumption | exact is_const (by decide) | exact is_int _ | exact is_self _ _) (by first | assumption | exact is_const (by decide) | exact is_int _ | exact is_self _ _) ?_; intro r hr hrw)
      | (refine wpM_quiet rfl (fun K hK => ?_); go_simp; refine hK _ ?_; clear hK K))
    with_reducible refine wpM_nil ?_
    intro w3 hw3
    obtain ⟨nq, hw3⟩ := hw3
    subst hw3
    have hq2 := hid (show Is .f32 r (betC (cls .f32 t1) (cls .f32 t2) (cls .f32 s)) from by unfold betC; rw [fop_mul_comm]; exact hr)
    generalize r = q2 at hq2 ⊢
    clear hr hrw
    go_wp2_with fail
    obtain ⟨v2, hv2⟩ : ∃ u, u = ((v1.drewN nq).setCell ⟨wa, 2, none⟩ (.float .f32 q2)) := ⟨_, rfl⟩
    rw [← hv2]
    replace BXh := hid (show Box v2 x #[.slice a1 n c1, .float .f32 l1, .float .f32 t1, .float .f32 p1] from by rw [hv2]; exact Box.far (Box.drewN BXh.out _) (by have := HW.out; omega) _)
    replace BYh := hid (show Box v2 y #[.slice a2 n c2, .float .f32 l2, .float .f32 t2, .float .f32 p2] from by rw [hv2]; exact Box.far (Box.drewN BYh.out _) (by have := HW.out; omega) _)
    replace B6 := hid (show Box v2 w.heap.size #[.slice none 0 0, .float .f32 0, .float .f32 0, .float .f32 0] from by rw [hv2]; exact Box.far (Box.drewN B6.out _) (by have := HW.out; omega) _)
    replace B7 := hid (show Box v2 wa #[.slice b n c', .float .f32 q1, .float .f32 q2, .float .f32 0] from by rw [hv2]; exact Box.eqv (box_set (j := 2) (Box.drewN B7.out _) _) (by rfl))
    replace OW := hid (show Own v2 (w.heap.size + 1) n (.slice b n c') zs from by rw [hv2]; exact Own.far (Own.drewN OW.out _) HNE.out _)
    replace EXv := hid (show Ext w v2 from by rw [hv2]; exact Ext.set (Ext.drewN EXv.out _) (by have := HW.out; dsimp only; omega) _)
    clear hv2 d0 d1 d2 d3 dl y0 y1 y2 y3 yl z0 z1 z2 z3 zf0 zf1 zf2 zf3 zl
    obtain ⟨d0, d1, d2, d3, dl⟩ := Box.cells4 BXh.out
    obtain ⟨y0, y1, y2, y3, yl⟩ := Box.cells4 BYh.out
    obtain ⟨z0, z1, z2, z3, zf0, zf1, zf2, zf3, zl⟩ := Box.all4 B7.out
    obtain ⟨u0, u1, u2, u3, uf0, uf1, uf2, uf3, ul⟩ := Box.all4 B6.out
    have hn1 : wa ≠ w.heap.size := by have h9 := HW.out; omega
    have hn2 : w.heap.size ≠ wa := by have h9 := HW.out; omega
    refine wp_region_tail 17 (by kernel_rfl) (by kernel_rfl) (by kernel_rfl) ?_
    simp only [List.take_succ_cons, List.take_zero, List.drop_succ_cons, List.drop_zero]
    repeat (with_reducible refine wpM_cons ?_; first
      | (refine wpM_fa rfl rfl rfl rfl rfl (by first | assumption | exact is_const (by decide) | exact is_int _ | exact is_self _ _) (by first | assumption | exact is_const (by decide) | exact is_int _ | exact is_self _ _) ?_; intro r hr hrw)
      | (refine wpM_quiet rfl (fun K hK => ?_); go_simp; refine hK _ ?_; clear hK K))
    with_reducible refine wpM_nil ?_
    intro w3 hw3
    obtain ⟨nq, hw3⟩ := hw3
    subst hw3
    have hq3 := hid (show Is .f32 r (betC (cls .f32 p1) (cls .f32 p2) (cls .f32 s)) from by unfold betC; rw [fop_mul_comm]; exact hr)
    generalize r = q3 at hq3 ⊢
    clear hr hrw
    go_wp2_with fail
    clear z0 z1 z2 z3 zf0 zf1 zf2 zf3 zl y0 y1 y2 y3 yl d0 d1 d2 d3 dl u0 u1 u2 u3 uf0 uf1 uf2 uf3 ul
    refine bodyPost_ret (ret_cell1 Try.results88 rfl (box_set4 (Box.far (Box.drewN B6.out _) (by have := HW.out; omega) _) _ _ _ _) Try.underlying47 infoFr) rfl ?_
    exact ⟨b, c', q1, q2, q3, zs, rfl, Own.base (own_far4 (Own.far (Own.drewN OW.out _) HNE.out _) (by omega) _ _ _ _) (by omega), HQ0.out, hq1.out, hq2.out, hq3.out, ext_set4 (Ext.set (Ext.drewN EXv.out _) (by have := HW.out; dsimp only; omega) _) (by omega) _ _ _ _⟩
  · obtain ⟨wa, hwa⟩ : ∃ u : Nat, u = w.heap.size + 1 := ⟨_, rfl⟩
    obtain ⟨v0, hv0⟩ : ∃ u, u = ((((w1.setCell ⟨w.heap.size + 1, 0, none⟩ (.slice b n c')).setCell ⟨w.heap.size + 1, 1, none⟩ (.float .f32 0)).setCell ⟨w.heap.size + 1, 2, none⟩ (.float .f32 0)).setCell ⟨w.heap.size + 1, 3, none⟩ (.float .f32 0)) := ⟨_, rfl⟩
    have HW := hid (show w.heap.size < wa ∧ x < w.heap.size ∧ y < w.heap.size from ⟨by rw [hwa]; omega, dl, yl⟩)
    have EXv := hid (show Ext w v0 from by rw [hv0]; exact ext_set4 (Ext.trans (show Ext w _ from by (repeat with_reducible (first | exact Ext.refl _ | exact ext_alloc _ _ | refine Ext.drewN ?_ _ | refine Ext.drew1 ?_ | refine Ext.set ?_ (by dsimp only; omega) _ | refine Ext.alloc ?_ _))) E1) (Nat.le_succ _) _ _ _ _)
    have BXh := hid (show Box v0 x #[.slice a1 n c1, .float .f32 l1, .float .f32 t1, .float .f32 p1] from by rw [hv0]; exact box_far4 (Box.ext HX.out (Ext.trans (show Ext w _ from by (repeat with_reducible (first | exact Ext.refl _ | exact ext_alloc _ _ | refine Ext.drewN ?_ _ | refine Ext.drew1 ?_ | refine Ext.set ?_ (by dsimp only; omega) _ | refine Ext.alloc ?_ _))) E1)) (by omega) _ _ _ _)
    have BYh := hid (show Box v0 y #[.slice a2 n c2, .float .f32 l2, .float .f32 t2, .float .f32 p2] from by rw [hv0]; exact box_far4 (Box.ext HY.out (Ext.trans (show Ext w _ from by (repeat with_reducible (first | exact Ext.refl _ | exact ext_alloc _ _ | refine Ext.drewN ?_ _ | refine Ext.drew1 ?_ | refine Ext.set ?_ (by dsimp only; omega) _ | refine Ext.alloc ?_ _))) E1)) (by omega) _ _ _ _)
    have B6 := hid (show Box v0 w.heap.size #[.slice none 0 0, .float .f32 0, .float .f32 0, .float .f32 0] from by rw [hv0]; exact box_far4 (Box.ext (Box.ext (box_new (w := w) #[.slice none 0 0, .float .f32 0, .float .f32 0, .float .f32 0] 47) (by (repeat with_reducible (first | exact Ext.refl _ | exact ext_alloc _ _ | refine Ext.drewN ?_ _ | refine Ext.drew1 ?_ | refine Ext.set ?_ (by dsimp only; omega) _ | refine Ext.alloc ?_ _)))) E1) (by omega) _ _ _ _)
    have B7 := hid (show Box v0 wa #[.slice b n c', .float .f32 0, .float .f32 0, .float .f32 0] from by rw [hv0, hwa]; exact Box.eqv (box_set4 BN _ _ _ _) (by rfl))
    have HNE := hid (show (Value.slice b n c').ownBlock ≠ some wa from fun hk => by have h8 := Own.block O1 _ hk; simp at h8; omega)
    have OW := hid (show Own v0 (w.heap.size + 1) n (.slice b n c') zs from by rw [hv0]; exact Own.base (B' := w.heap.size + 1) (own_far4 (Own.base O1 (B' := w.heap.size + 2) (by simp)) (by omega) _ _ _ _) (by omega))
    rw [← hv0, ← hwa]
    clear hv0 hwa O1 E1 BN d0 d1 d2 d3 dl y0 y1 y2 y3 yl
    try clear z0 z1 z2 z3 zf0 zf1 zf2 zf3 zl
    have HQ0 := hid hz
    clear hz
    obtain ⟨d0, d1, d2, d3, dl⟩ := Box.cells4 BXh.out
    obtain ⟨y0, y1, y2, y3, yl⟩ := Box.cells4 BYh.out
    obtain ⟨z0, z1, z2, z3, zf0, zf1, zf2, zf3, zl⟩ := Box.all4 B7.out
    go_wp2_with fail
    refine wp_region_tail 17 (by kernel_rfl) (by kernel_rfl) (by kernel_rfl) ?_
    simp only [List.take_succ_cons, List.take_zero, List.drop_succ_cons, List.drop_zero]
    repeat (with_reducible refine wpM_cons ?_; first
      | (refine wpM_fa rfl rfl rfl rfl rfl (by first | assumption | exact is_const (by decide) | exact is_int _ | exact is_self _ _) (by first | assumption | exact is_const (by decide) | exact is_int _ | exact is_self _ _) ?_; intro r hr hrw)
      | (refine wpM_quiet rfl (fun K hK => ?_); go_simp; refine hK _ ?_; clear hK K))
    with_reducible refine wpM_nil ?_
    intro w3 hw3
    obtain ⟨nq, hw3⟩ := hw3
    subst hw3
    have hq1 := hid (show Is .f32 r (betC (cls .f32 l1) (cls .f32 l2) (cls .f32 s)) from by unfold betC; rw [fop_mul_comm]; exact hr)
    generalize r = q1 at hq1 ⊢
    clear hr hrw
    go_wp2_with fail
    obtain ⟨v1, hv1⟩ : ∃ u, u = ((v0.drewN nq).setCell ⟨wa, 1, none⟩ (.float .f32 q1)) := ⟨_, rfl⟩
    rw [← hv1]
    replace BXh := hid (show Box v1 x #[.slice a1 n c1, .float .f32 l1, .float .f32 t1, .float .f32 p1] from by rw [hv1]; exact Box.far (Box.drewN BXh.out _) (by have := HW.out; omega) _)
    replace BYh := hid (show Box v1 y #[.slice a2 n c2, .float .f32 l2, .float .f32 t2, .float .f32 p2] from by rw [hv1]; exact Box.far (Box.drewN BYh.out _) (by have := HW.out; omega) _)
    replace B6 := hid (show Box v1 w.heap.size #[.slice none 0 0, .float .f32 0, .float .f32 0, .float .f32 0] from by rw [hv1]; exact Box.far (Box.drewN B6.out _) (by have := HW.out; omega) _)
    replace B7 := hid (show Box v1 wa #[.slice b n c', .float .f32 q1, .float .f32 0, .float .f32 0] from by rw [hv1]; exact Box.eqv (box_set (j := 1) (Box.drewN B7.out _) _) (by rfl))
    replace OW := hid (show Own v1 (w.heap.size + 1) n (.slice b n c') zs from by rw [hv1]; exact Own.far (Own.drewN OW.out _) HNE.out _)
    replace EXv := hid (show Ext w v1 from by rw [hv1]; exact Ext.set (Ext.drewN EXv.out _) (by have := HW.out; dsimp only; omega) _)
    clear hv1 d0 d1 d2 d3 dl y0 y1 y2 y3 yl z0 z1 z2 z3 zf0 zf1 zf2 zf3 zl
    obtain ⟨d0, d1, d2, d3, dl⟩ := Box.cells4 BXh.out
    obtain ⟨y0, y1, y2, y3, yl⟩ := Box.cells4 BYh.out
    obtain ⟨z0, z1, z2, z3, zf0, zf1, zf2, zf3, zl⟩ := Box.all4 B7.out
    skip
    refine wp_region_tail 17 (by kernel_rfl) (by kernel_rfl) (by kernel_rfl) ?_
    simp only [List.take_succ_cons, List.take_zero, List.drop_succ_cons, List.drop_zero]
    repeat (with_reducible refine wpM_cons ?_; first
      | (refine wpM_fa rfl rfl rfl rfl rfl (by first | assumption | exact is_const (by decide) | exact is_int _ | exact is_self _ _) (by first | assumption | exact is_const (by decide) | exact is_int _ | exact is_self _ _) ?_; intro r hr hrw)
      | (refine wpM_quiet rfl (fun K hK => ?_); go_simp; refine hK _ ?_; clear hK K))
    with_reducible refine wpM_nil ?_
    intro w3 hw3
    obtain ⟨nq, hw3⟩ := hw3
    subst hw3
    have hq2 := hid (show Is .f32 r (betC (cls .f32 t1) (cls .f32 t2) (cls .f32 s)) from by unfold betC; rw [fop_mul_comm]; exact hr)
    generalize r = q2 at hq2 ⊢
    clear hr hrw
    go_wp2_with fail
    obtain ⟨v2, hv2⟩ : ∃ u, u = ((v1.drewN nq).setCell ⟨wa, 2, none⟩ (.float .f32 q2)) := ⟨_, rfl⟩
    rw [← hv2]
    replace BXh := hid (show Box v2 x #[.slice a1 n c1, .float .f32 l1, .float .f32 t1, .float .f32 p1] from by rw [hv2]; exact Box.far (Box.drewN BXh.out _) (by have := HW.out; omega) _)
    replace BYh := hid (show Box v2 y #[.slice a2 n c2, .float .f32 l2, .float .f32 t2, .float .f32 p2] from by rw [hv2]; exact Box.far (Box.drewN BYh.out _) (by have := HW.out; omega) _)
    replace B6 := hid (show Box v2 w.heap.size #[.slice none 0 0, .float .f32 0, .float .f32 0, .float .f32 0] from by rw [hv2]; exact Box.far (Box.drewN B6.out _) (by have := HW.out; omega) _)
    replace B7 := hid (show Box v2 wa #[.slice b n c', .float .f32 q1, .float .f32 q2, .float .f32 0] from by rw [hv2]; exact Box.eqv (box_set (j := 2) (Box.drewN B7.out _) _) (by rfl))
    replace OW := hid (show Own v2 (w.heap.size + 1) n (.slice b n c') zs from by rw [hv2]; exact Own.far (Own.drewN OW.out _) HNE.out _)
    replace EXv := hid (show Ext w v2 from by rw [hv2]; exact Ext.set (Ext.drewN EXv.out _) (by have := HW.out; dsimp only; omega) _)
    clear hv2 d0 d1 d2 d3 dl y0 y1 y2 y3 yl z0 z1 z2 z3 zf0 zf1 zf2 zf3 zl
    obtain ⟨d0, d1, d2, d3, dl⟩ := Box.cells4 BXh.out
    obtain ⟨y0, y1, y2, y3, yl⟩ := Box.cells4 BYh.out
    obtain ⟨z0, z1, z2, z3, zf0, zf1, zf2, zf3, zl⟩ := Box.all4 B7.out
    obtain ⟨u0, u1, u2, u3, uf0, uf1, uf2, uf3, ul⟩ := Box.all4 B6.out
    have hn1 : wa ≠ w.heap.size := by have h9 := HW.out; omega
    have hn2 : w.heap.size ≠ wa := by have h9 := HW.out; omega
    refine wp_region_tail 17 (by kernel_rfl) (by kernel_rfl) (by kernel_rfl) ?_
    simp only [List.take_succ_cons, List.take_zero, List.drop_succ_cons, List.drop_zero]
    repeat (with_reducible refine wpM_cons ?_; first
      | (refine wpM_fa rfl rfl rfl rfl rfl (by first | assumption | exact is_const (by decide) | exact is_int _ | exact is_self _ _) (by first | assumption | exact is_const (by decide) | exact is_int _ | exact is_self _ _) ?_; intro r hr hrw)
      | (refine wpM_quiet rfl (fun K hK => ?_); go_simp; refine hK _ ?_; clear hK K))
    with_reducible refine wpM_nil ?_
    intro w3 hw3
    obtain ⟨nq, hw3⟩ := hw3
    subst hw3
    have hq3 := hid (show Is .f32 r (betC (cls .f32 p1) (cls .f32 p2) (cls .f32 s)) from by unfold betC; rw [fop_mul_comm]; exact hr)
    generalize r = q3 at hq3 ⊢
    clear hr hrw
    go_wp2_with fail
    clear z0 z1 z2 z3 zf0 zf1 zf2 zf3 zl y0 y1 y2 y3 yl d0 d1 d2 d3 dl u0 u1 u2 u3 uf0 uf1 uf2 uf3 ul
    refine bodyPost_ret (ret_cell1 Try.results88 rfl (box_set4 (Box.far (Box.drewN B6.out _) (by have := HW.out; omega) _) _ _ _ _) Try.underlying47 infoFr) rfl ?_
    exact ⟨b, c', q1, q2, q3, zs, rfl, Own.base (own_far4 (Own.far (Own.drewN OW.out _) HNE.out _) (by omega) _ _ _ _) (by omega), HQ0.out, hq1.out, hq2.out, hq3.out, ext_set4 (Ext.set (Ext.drewN EXv.out _) (by have := HW.out; dsimp only; omega) _) (by omega) _ _ _ _⟩

end Go.Proofs.Ythinjgiakaflpaa
