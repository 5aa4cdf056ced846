/- Sums of waves. -/
import Derived.Test.YtnmigjiaeahekaaT16
import Derived.Test.YtnmigjiaeahekaaT17
import Derived.Test.YtnmigjiaeahekaaT19
import Derived.Test.YtnmigjiaeahekaaTail3
namespace Go.Proofs.Ytnmigjiaeahekaa
open Go.RowKit Flt
set_option linter.unusedVariables false

def plusK (xs ys : List Nat) (k : Nat) : List (Option Nat) := (List.range k).map fun q => fop .add .f32 (cls .f32 (xs.getD q 0)) (cls .f32 (ys.getD q 0))
theorem plus_len (xs ys : List Nat) (k : Nat) : (plusK xs ys k).length = k := by simp [plusK]
theorem plus_snoc (xs ys : List Nat) (k : Nat) : plusK xs ys (k + 1) = plusK xs ys k ++ [fop .add .f32 (cls .f32 (xs.getD k 0)) (cls .f32 (ys.getD k 0))] := by simp [plusK, List.range_succ]
theorem plus_of {xs ys us : List Nat} {n : Nat} (h1 : us.length = n) (h : ∀ q, q < n → cls .f32 (us.getD q 0) = fop .add .f32 (cls .f32 (xs.getD q 0)) (cls .f32 (ys.getD q 0))) : us.map (cls .f32) = plusK xs ys n := by
  apply List.ext_getElem?
  intro i
  by_cases hi : i < n
  · have := h i hi
    simp [List.getD, show i < us.length by omega] at this
    simp [plusK, hi, show i < us.length by omega, this, List.getD]
  · rw [List.getElem?_eq_none (by simp; omega), List.getElem?_eq_none (by simp [plusK]; omega)]
theorem getD_set23 (ys : List Nat) (k q r : Nat) (hk : k < ys.length) : (ys.set k r).getD q 0 = if q = k then r else ys.getD q 0 := by
  by_cases h : q = k
  · subst h; simp [List.getD, hk]
  · rw [if_neg h]; simp [List.getD, List.getElem?_set_ne (Ne.symm h)]
def addW (zs : List Nat) (l t p : Option Nat) (r1 l1 r2 l2 : List Nat) : WR :=
  if wavesB (zs.map (cls .f32)) l t p (r1.map (cls .f32)) (l1.map (cls .f32)) && (wavesB (zs.map (cls .f32)) l t p (r2.map (cls .f32)) (l2.map (cls .f32)) && wavesB (zs.map (cls .f32)) l t p (plusK r1 r2 zs.length) (plusK l1 l2 zs.length)) then ⟨true, plusK r1 r2 zs.length, plusK l1 l2 zs.length⟩ else zeroW
theorem waves_len {zs : List (Option Nat)} {l t p : Option Nat} {rs ls : List (Option Nat)} (h : wavesB zs l t p rs ls = true) : zs.length ≤ 16 ∧ 1 ≤ zs.length ∧ rs.length = zs.length ∧ ls.length = zs.length := by
  unfold wavesB at h
  simp only [Bool.and_eq_true, decide_eq_true_eq] at h
  exact ⟨(tube_len h.1).2, (tube_len h.1).1, h.2.1, h.2.2.1⟩
theorem addW_len (zs : List Nat) (l t p : Option Nat) (r1 l1 r2 l2 : List Nat) : (addW zs l t p r1 l1 r2 l2).r.length ≤ 16 ∧ (addW zs l t p r1 l1 r2 l2).l.length ≤ 16 := by
  unfold addW
  split
  · rename_i h
    simp only [Bool.and_eq_true] at h
    have h2 := (waves_len h.1).1
    rw [List.length_map] at h2
    simp only [plus_len]
    exact ⟨h2, h2⟩
  · exact ⟨Nat.zero_le _, Nat.zero_le _⟩
theorem waves_own {w : World} {B n c1 c2 : Nat} {a1 a2 : Option Addr} {us vs : List Nat} {rs ls : List (Option Nat)} (h1 : Own w B n (.slice a1 n c1) us) (h2 : Own w B n (.slice a2 n c2) vs) (e1 : us.map (cls .f32) = rs) (e2 : vs.map (cls .f32) = ls)
    (ha : ∀ k, (Value.slice a1 n c1).ownBlock = some k → (Value.slice a2 n c2).ownBlock ≠ some k) : WavesIs w B ⟨true, rs, ls⟩ (.agg #[.slice a1 n c1, .slice a2 n c2]) := by
  subst e1 e2
  have l1 : (us.map (cls .f32)).length = n := by simp [h1.len]
  have l2 : (vs.map (cls .f32)).length = n := by simp [h2.len]
  exact ⟨a1, c1, a2, c2, us, vs, by simp only [l1, l2], by simp only [l1]; exact h1, by simp only [l2]; exact h2, rfl, rfl, by simp only [l1, l2]; exact ha⟩
set_option maxHeartbeats 2000000 in
set_option maxRecDepth 100000 in
theorem add_any (a b1 b2 b3 b4 : Option Addr) (n c l t p n1 d1 n2 d2 n3 d3 n4 d4 : Nat) (zs r1 l1 r2 l2 : List Nat) (R : WR) (w : World) (h : Holds .f32 w a n zs) (k1 : Holds .f32 w b1 n1 r1) (k2 : Holds .f32 w b2 n2 l1) (k3 : Holds .f32 w b3 n3 r2) (k4 : Holds .f32 w b4 n4 l2) (hn : n ≤ 1048576) (hn1 : n1 ≤ 1048576) (hn2 : n2 ≤ 1048576) (hn3 : n3 ≤ 1048576) (hn4 : n4 ≤ 1048576) (hR : addW zs (cls .f32 l) (cls .f32 t) (cls .f32 p) r1 l1 r2 l2 = R) :
    Calls Try.prog 31 #[.agg #[.slice a n c, .float .f32 l, .float .f32 t, .float .f32 p], .agg #[.slice b1 n1 d1, .slice b2 n2 d2], .agg #[.slice b3 n3 d3, .slice b4 n4 d4]] w fun e w' => ∃ v, e = .returned (.tuple #[v, .bool R.ok]) ∧ WavesIs w' w.heap.size R v ∧ Ext w w' := by
  have HH := hid h
  have H1 := hid k1
  have H2 := hid k2
  have H3 := hid k3
  have H4 := hid k4
  have HN := hid hn
  have HN1 := hid hn1
  have HN2 := hid hn2
  have HN3 := hid hn3
  have HN4 := hid hn4
  have HL := hid h.1
  cases hV1 : wavesB (zs.map (cls .f32)) (cls .f32 l) (cls .f32 t) (cls .f32 p) (r1.map (cls .f32)) (l1.map (cls .f32))
  · have e : R = zeroW := by rw [← hR]; unfold addW; rw [hV1]; rfl
    subst e
    clear h k1 k2 k3 k4 hn hn1 hn2 hn3 hn4 hR
    go_enter Try.func31, Try.ntmps31
    go_wp2_with fail
    refine (areWaves_any _ _ _ _ _ _ _ _ _ _ _ _ zs r1 l1 false _ (Holds.ext HH.out (by (repeat with_reducible (first | exact Ext.refl _ | exact ext_alloc _ _ | refine Ext.drewN ?_ _ | refine Ext.drew1 ?_ | refine Ext.set ?_ (by dsimp only; omega) _ | refine Ext.alloc ?_ _)))) (Holds.ext H1.out (by (repeat with_reducible (first | exact Ext.refl _ | exact ext_alloc _ _ | refine Ext.drewN ?_ _ | refine Ext.drew1 ?_ | refine Ext.set ?_ (by dsimp only; omega) _ | refine Ext.alloc ?_ _)))) (Holds.ext H2.out (by (repeat with_reducible (first | exact Ext.refl _ | exact ext_alloc _ _ | refine Ext.drewN ?_ _ | refine Ext.drew1 ?_ | refine Ext.set ?_ (by dsimp only; omega) _ | refine Ext.alloc ?_ _)))) HN.out HN1.out HN2.out hV1).mono ?_
    rintro e w1 ⟨rfl, E1⟩
    have BA1 := hid (Box.ext (Box.ext (box_new (w := w) #[.slice a n c, .float .f32 l, .float .f32 t, .float .f32 p] 27) (by (repeat with_reducible (first | exact Ext.refl _ | exact ext_alloc _ _ | refine Ext.drewN ?_ _ | refine Ext.drew1 ?_ | refine Ext.set ?_ (by dsimp only; omega) _ | refine Ext.alloc ?_ _)))) E1)
    have BB1 := hid (Box.cast (b' := w.heap.size + 1) (Box.ext (Box.ext (box_new (w := (w.alloc (.cells #[.slice a n c, .float .f32 l, .float .f32 t, .float .f32 p] 27))) #[.slice b1 n1 d1, .slice b2 n2 d2] 43) (by (repeat with_reducible (first | exact Ext.refl _ | exact ext_alloc _ _ | refine Ext.drewN ?_ _ | refine Ext.drew1 ?_ | refine Ext.set ?_ (by dsimp only; omega) _ | refine Ext.alloc ?_ _)))) E1) (by simp))
    have BC1 := hid (Box.cast (b' := w.heap.size + 2) (Box.ext (Box.ext (box_new (w := ((w.alloc (.cells #[.slice a n c, .float .f32 l, .float .f32 t, .float .f32 p] 27)).alloc (.cells #[.slice b1 n1 d1, .slice b2 n2 d2] 43))) #[.slice b3 n3 d3, .slice b4 n4 d4] 43) (by (repeat with_reducible (first | exact Ext.refl _ | exact ext_alloc _ _ | refine Ext.drewN ?_ _ | refine Ext.drew1 ?_ | refine Ext.set ?_ (by dsimp only; omega) _ | refine Ext.alloc ?_ _)))) E1) (by simp))
    have BR1 := hid (Box.cast (b' := w.heap.size + 3) (Box.ext (Box.ext (box_new (w := (((w.alloc (.cells #[.slice a n c, .float .f32 l, .float .f32 t, .float .f32 p] 27)).alloc (.cells #[.slice b1 n1 d1, .slice b2 n2 d2] 43)).alloc (.cells #[.slice b3 n3 d3, .slice b4 n4 d4] 43))) #[.slice none 0 0, .slice none 0 0] 43) (by (repeat with_reducible (first | exact Ext.refl _ | exact ext_alloc _ _ | refine Ext.drewN ?_ _ | refine Ext.drew1 ?_ | refine Ext.set ?_ (by dsimp only; omega) _ | refine Ext.alloc ?_ _)))) E1) (by simp))
    have EX1 := hid (show Ext w w1 from Ext.trans (by (repeat with_reducible (first | exact Ext.refl _ | exact ext_alloc _ _ | refine Ext.drewN ?_ _ | refine Ext.drew1 ?_ | refine Ext.set ?_ (by dsimp only; omega) _ | refine Ext.alloc ?_ _))) E1)
    have SZ1 := hid (show w.heap.size + 4 ≤ w1.heap.size from by have := Ext.size E1; simp at this; omega)
    clear E1
    obtain ⟨z0, z1, zf0, zf1, zl⟩ := Box.all2 BR1.out
    go_wp2_with fail
    clear z0 z1 zf0 zf1 zl
    refine bodyPost_ret (ret_cell2 Try.results31 rfl (box_set2 BR1.out _ _) Try.underlying43 infoW) rfl ?_
    exact ⟨_, rfl, zeroW_is _ _, ext_set2 EX1.out (by omega) _ _⟩
  have L1 := hid (waves_len hV1)
  have e1 : n1 = n := by
    have g := L1.out.2.2.1
    have g1 := h.1
    have g2 := k1.1
    simp only [List.length_map] at g; omega
  have e2 : n2 = n := by
    have g := L1.out.2.2.2
    have g1 := h.1
    have g2 := k2.1
    simp only [List.length_map] at g; omega
  subst n1
  subst n2
  cases hV2 : wavesB (zs.map (cls .f32)) (cls .f32 l) (cls .f32 t) (cls .f32 p) (r2.map (cls .f32)) (l2.map (cls .f32))
  · have e : R = zeroW := by rw [← hR]; unfold addW; rw [hV1, hV2]; rfl
    subst e
    clear h k1 k2 k3 k4 hn hn1 hn2 hn3 hn4 hR
    go_enter Try.func31, Try.ntmps31
    go_wp2_with fail
    refine (areWaves_any _ _ _ _ _ _ _ _ _ _ _ _ zs r1 l1 true _ (Holds.ext HH.out (by (repeat with_reducible (first | exact Ext.refl _ | exact ext_alloc _ _ | refine Ext.drewN ?_ _ | refine Ext.drew1 ?_ | refine Ext.set ?_ (by dsimp only; omega) _ | refine Ext.alloc ?_ _)))) (Holds.ext H1.out (by (repeat with_reducible (first | exact Ext.refl _ | exact ext_alloc _ _ | refine Ext.drewN ?_ _ | refine Ext.drew1 ?_ | refine Ext.set ?_ (by dsimp only; omega) _ | refine Ext.alloc ?_ _)))) (Holds.ext H2.out (by (repeat with_reducible (first | exact Ext.refl _ | exact ext_alloc _ _ | refine Ext.drewN ?_ _ | refine Ext.drew1 ?_ | refine Ext.set ?_ (by dsimp only; omega) _ | refine Ext.alloc ?_ _)))) HN.out HN1.out HN2.out hV1).mono ?_
    rintro e w1 ⟨rfl, E1⟩
    have BA1 := hid (Box.ext (Box.ext (box_new (w := w) #[.slice a n c, .float .f32 l, .float .f32 t, .float .f32 p] 27) (by (repeat with_reducible (first | exact Ext.refl _ | exact ext_alloc _ _ | refine Ext.drewN ?_ _ | refine Ext.drew1 ?_ | refine Ext.set ?_ (by dsimp only; omega) _ | refine Ext.alloc ?_ _)))) E1)
    have BB1 := hid (Box.cast (b' := w.heap.size + 1) (Box.ext (Box.ext (box_new (w := (w.alloc (.cells #[.slice a n c, .float .f32 l, .float .f32 t, .float .f32 p] 27))) #[.slice b1 n d1, .slice b2 n d2] 43) (by (repeat with_reducible (first | exact Ext.refl _ | exact ext_alloc _ _ | refine Ext.drewN ?_ _ | refine Ext.drew1 ?_ | refine Ext.set ?_ (by dsimp only; omega) _ | refine Ext.alloc ?_ _)))) E1) (by simp))
    have BC1 := hid (Box.cast (b' := w.heap.size + 2) (Box.ext (Box.ext (box_new (w := ((w.alloc (.cells #[.slice a n c, .float .f32 l, .float .f32 t, .float .f32 p] 27)).alloc (.cells #[.slice b1 n d1, .slice b2 n d2] 43))) #[.slice b3 n3 d3, .slice b4 n4 d4] 43) (by (repeat with_reducible (first | exact Ext.refl _ | exact ext_alloc _ _ | refine Ext.drewN ?_ _ | refine Ext.drew1 ?_ | refine Ext.set ?_ (by dsimp only; omega) _ | refine Ext.alloc ?_ _)))) E1) (by simp))
    have BR1 := hid (Box.cast (b' := w.heap.size + 3) (Box.ext (Box.ext (box_new (w := (((w.alloc (.cells #[.slice a n c, .float .f32 l, .float .f32 t, .float .f32 p] 27)).alloc (.cells #[.slice b1 n d1, .slice b2 n d2] 43)).alloc (.cells #[.slice b3 n3 d3, .slice b4 n4 d4] 43))) #[.slice none 0 0, .slice none 0 0] 43) (by (repeat with_reducible (first | exact Ext.refl _ | exact ext_alloc _ _ | refine Ext.drewN ?_ _ | refine Ext.drew1 ?_ | refine Ext.set ?_ (by dsimp only; omega) _ | refine Ext.alloc ?_ _)))) E1) (by simp))
    have EX1 := hid (show Ext w w1 from Ext.trans (by (repeat with_reducible (first | exact Ext.refl _ | exact ext_alloc _ _ | refine Ext.drewN ?_ _ | refine Ext.drew1 ?_ | refine Ext.set ?_ (by dsimp only; omega) _ | refine Ext.alloc ?_ _))) E1)
    have SZ1 := hid (show w.heap.size + 4 ≤ w1.heap.size from by have := Ext.size E1; simp at this; omega)
    clear E1
    obtain ⟨j0, j1, j2, j3, jl⟩ := Box.cells4 BA1.out
    obtain ⟨x0, x1, xl⟩ := Box.cells2 BB1.out
    obtain ⟨y0, y1, yl⟩ := Box.cells2 BC1.out
    go_wp2_with fail
    refine (areWaves_any _ _ _ _ _ _ _ _ _ _ _ _ zs r2 l2 false _ (Holds.ext HH.out (Ext.trans EX1.out (by (repeat with_reducible (first | exact Ext.refl _ | exact ext_alloc _ _ | refine Ext.drewN ?_ _ | refine Ext.drew1 ?_ | refine Ext.set ?_ (by dsimp only; omega) _ | refine Ext.alloc ?_ _))))) (Holds.ext H3.out (Ext.trans EX1.out (by (repeat with_reducible (first | exact Ext.refl _ | exact ext_alloc _ _ | refine Ext.drewN ?_ _ | refine Ext.drew1 ?_ | refine Ext.set ?_ (by dsimp only; omega) _ | refine Ext.alloc ?_ _))))) (Holds.ext H4.out (Ext.trans EX1.out (by (repeat with_reducible (first | exact Ext.refl _ | exact ext_alloc _ _ | refine Ext.drewN ?_ _ | refine Ext.drew1 ?_ | refine Ext.set ?_ (by dsimp only; omega) _ | refine Ext.alloc ?_ _))))) HN.out HN3.out HN4.out hV2).mono ?_
    rintro e w2 ⟨rfl, E2⟩
    have BA2 := hid (Box.ext BA1.out E2)
    have BB2 := hid (Box.ext BB1.out E2)
    have BC2 := hid (Box.ext BC1.out E2)
    have BR2 := hid (Box.ext BR1.out E2)
    have EX2 := hid (Ext.trans EX1.out E2)
    have SZ2 := hid (show w.heap.size + 4 ≤ w2.heap.size from by have h8 := SZ1.out; have h9 := Ext.size E2; omega)
    clear E2 BA1 BB1 BC1 BR1 EX1 SZ1
    clear j0 j1 j2 j3 jl x0 x1 xl y0 y1 yl
    obtain ⟨z0, z1, zf0, zf1, zl⟩ := Box.all2 BR2.out
    go_wp2_with fail
    clear z0 z1 zf0 zf1 zl
    refine bodyPost_ret (ret_cell2 Try.results31 rfl (box_set2 BR2.out _ _) Try.underlying43 infoW) rfl ?_
    exact ⟨_, rfl, zeroW_is _ _, ext_set2 EX2.out (by omega) _ _⟩
  have L2 := hid (waves_len hV2)
  have e3 : n3 = n := by
    have g := L2.out.2.2.1
    have g1 := h.1
    have g2 := k3.1
    simp only [List.length_map] at g; omega
  have e4 : n4 = n := by
    have g := L2.out.2.2.2
    have g1 := h.1
    have g2 := k4.1
    simp only [List.length_map] at g; omega
  subst n3
  subst n4
  have HK1 := hid (show 1 ≤ n from by have g := L1.out.2.1; have g1 := h.1; simp only [List.length_map] at g; omega)
  obtain ⟨V3, hV3⟩ : ∃ V3, wavesB (zs.map (cls .f32)) (cls .f32 l) (cls .f32 t) (cls .f32 p) (plusK r1 r2 n) (plusK l1 l2 n) = V3 := ⟨_, rfl⟩
  have HV3 := hid hV3
  have HR := hid (show (if V3 = true then (⟨true, plusK r1 r2 n, plusK l1 l2 n⟩ : WR) else zeroW) = R from by rw [← hR]; unfold addW; rw [hV1, hV2, h.1, hV3]; cases V3 <;> rfl)
  clear h k1 k2 k3 k4 hn hn1 hn2 hn3 hn4 hR hV3
  go_enter Try.func31, Try.ntmps31
  go_wp2_with fail
  refine (areWaves_any _ _ _ _ _ _ _ _ _ _ _ _ zs r1 l1 true _ (Holds.ext HH.out (by (repeat with_reducible (first | exact Ext.refl _ | exact ext_alloc _ _ | refine Ext.drewN ?_ _ | refine Ext.drew1 ?_ | refine Ext.set ?_ (by dsimp only; omega) _ | refine Ext.alloc ?_ _)))) (Holds.ext H1.out (by (repeat with_reducible (first | exact Ext.refl _ | exact ext_alloc _ _ | refine Ext.drewN ?_ _ | refine Ext.drew1 ?_ | refine Ext.set ?_ (by dsimp only; omega) _ | refine Ext.alloc ?_ _)))) (Holds.ext H2.out (by (repeat with_reducible (first | exact Ext.refl _ | exact ext_alloc _ _ | refine Ext.drewN ?_ _ | refine Ext.drew1 ?_ | refine Ext.set ?_ (by dsimp only; omega) _ | refine Ext.alloc ?_ _)))) HN.out HN1.out HN2.out hV1).mono ?_
  rintro e w1 ⟨rfl, E1⟩
  have BA1 := hid (Box.ext (Box.ext (box_new (w := w) #[.slice a n c, .float .f32 l, .float .f32 t, .float .f32 p] 27) (by (repeat with_reducible (first | exact Ext.refl _ | exact ext_alloc _ _ | refine Ext.drewN ?_ _ | refine Ext.drew1 ?_ | refine Ext.set ?_ (by dsimp only; omega) _ | refine Ext.alloc ?_ _)))) E1)
  have BB1 := hid (Box.cast (b' := w.heap.size + 1) (Box.ext (Box.ext (box_new (w := (w.alloc (.cells #[.slice a n c, .float .f32 l, .float .f32 t, .float .f32 p] 27))) #[.slice b1 n d1, .slice b2 n d2] 43) (by (repeat with_reducible (first | exact Ext.refl _ | exact ext_alloc _ _ | refine Ext.drewN ?_ _ | refine Ext.drew1 ?_ | refine Ext.set ?_ (by dsimp only; omega) _ | refine Ext.alloc ?_ _)))) E1) (by simp))
  have BC1 := hid (Box.cast (b' := w.heap.size + 2) (Box.ext (Box.ext (box_new (w := ((w.alloc (.cells #[.slice a n c, .float .f32 l, .float .f32 t, .float .f32 p] 27)).alloc (.cells #[.slice b1 n d1, .slice b2 n d2] 43))) #[.slice b3 n d3, .slice b4 n d4] 43) (by (repeat with_reducible (first | exact Ext.refl _ | exact ext_alloc _ _ | refine Ext.drewN ?_ _ | refine Ext.drew1 ?_ | refine Ext.set ?_ (by dsimp only; omega) _ | refine Ext.alloc ?_ _)))) E1) (by simp))
  have BR1 := hid (Box.cast (b' := w.heap.size + 3) (Box.ext (Box.ext (box_new (w := (((w.alloc (.cells #[.slice a n c, .float .f32 l, .float .f32 t, .float .f32 p] 27)).alloc (.cells #[.slice b1 n d1, .slice b2 n d2] 43)).alloc (.cells #[.slice b3 n d3, .slice b4 n d4] 43))) #[.slice none 0 0, .slice none 0 0] 43) (by (repeat with_reducible (first | exact Ext.refl _ | exact ext_alloc _ _ | refine Ext.drewN ?_ _ | refine Ext.drew1 ?_ | refine Ext.set ?_ (by dsimp only; omega) _ | refine Ext.alloc ?_ _)))) E1) (by simp))
  have EX1 := hid (show Ext w w1 from Ext.trans (by (repeat with_reducible (first | exact Ext.refl _ | exact ext_alloc _ _ | refine Ext.drewN ?_ _ | refine Ext.drew1 ?_ | refine Ext.set ?_ (by dsimp only; omega) _ | refine Ext.alloc ?_ _))) E1)
  have SZ1 := hid (show w.heap.size + 4 ≤ w1.heap.size from by have := Ext.size E1; simp at this; omega)
  clear E1
  obtain ⟨j0, j1, j2, j3, jl⟩ := Box.cells4 BA1.out
  obtain ⟨x0, x1, xl⟩ := Box.cells2 BB1.out
  obtain ⟨y0, y1, yl⟩ := Box.cells2 BC1.out
  go_wp2_with fail
  refine (areWaves_any _ _ _ _ _ _ _ _ _ _ _ _ zs r2 l2 true _ (Holds.ext HH.out (Ext.trans EX1.out (by (repeat with_reducible (first | exact Ext.refl _ | exact ext_alloc _ _ | refine Ext.drewN ?_ _ | refine Ext.drew1 ?_ | refine Ext.set ?_ (by dsimp only; omega) _ | refine Ext.alloc ?_ _))))) (Holds.ext H3.out (Ext.trans EX1.out (by (repeat with_reducible (first | exact Ext.refl _ | exact ext_alloc _ _ | refine Ext.drewN ?_ _ | refine Ext.drew1 ?_ | refine Ext.set ?_ (by dsimp only; omega) _ | refine Ext.alloc ?_ _))))) (Holds.ext H4.out (Ext.trans EX1.out (by (repeat with_reducible (first | exact Ext.refl _ | exact ext_alloc _ _ | refine Ext.drewN ?_ _ | refine Ext.drew1 ?_ | refine Ext.set ?_ (by dsimp only; omega) _ | refine Ext.alloc ?_ _))))) HN.out HN3.out HN4.out hV2).mono ?_
  rintro e w2 ⟨rfl, E2⟩
  have BA2 := hid (Box.ext BA1.out E2)
  have BB2 := hid (Box.ext BB1.out E2)
  have BC2 := hid (Box.ext BC1.out E2)
  have BR2 := hid (Box.ext BR1.out E2)
  have EX2 := hid (Ext.trans EX1.out E2)
  have SZ2 := hid (show w.heap.size + 4 ≤ w2.heap.size from by have h8 := SZ1.out; have h9 := Ext.size E2; omega)
  clear E2 BA1 BB1 BC1 BR1 EX1 SZ1
  clear j0 j1 j2 j3 jl x0 x1 xl y0 y1 yl
  obtain ⟨j0, j1, j2, j3, jl⟩ := Box.cells4 BA2.out
  obtain ⟨x0, x1, xl⟩ := Box.cells2 BB2.out
  obtain ⟨y0, y1, yl⟩ := Box.cells2 BC2.out
  go_wp2_with fail
  refine (newWaves_any _ _ HN.out).mono ?_
  rintro e w3 ⟨p1, p2, rfl, O1, O2, hpp, E3⟩
  have BA3 := hid (Box.ext BA2.out E3)
  have BB3 := hid (Box.ext BB2.out E3)
  have BC3 := hid (Box.ext BC2.out E3)
  have BR3 := hid (Box.ext BR2.out E3)
  have EX3 := hid (Ext.trans EX2.out E3)
  have SZ3 := hid (show w.heap.size + 4 ≤ w3.heap.size from by have h8 := SZ2.out; have h9 := Ext.size E3; omega)
  have P1 := hid (Own.base O1 (Nat.le_succ_of_le (Nat.le_refl _)))
  have P2 := hid (Own.base O2 (Nat.le_succ_of_le (Nat.le_refl _)))
  have SP := hid SZ2.out
  clear E3 BA2 BB2 BC2 BR2 EX2 SZ2
  have HPP := hid hpp
  clear O1 O2 hpp
  clear j0 j1 j2 j3 jl x0 x1 xl y0 y1 yl
  obtain ⟨j0, j1, j2, j3, jl⟩ := Box.cells4 BA3.out
  obtain ⟨x0, x1, xl⟩ := Box.cells2 BB3.out
  obtain ⟨y0, y1, yl⟩ := Box.cells2 BC3.out
  have D3 := hid (box_new (w := w3) #[.slice (some ⟨p1, 0, none⟩) n n, .slice (some ⟨p2, 0, none⟩) n n] 43)
  have HI1 := hid (Own.block P1.out)
  have HI2 := hid (Own.block P2.out)
  go_wp2_with fail
  go_loopw [28] (fun i wr => ∃ (k : Nat) (us vs : List Nat), k ≤ n ∧ i = .int .i64 k ∧ Hid (Own wr w2.heap.size n (.slice (some ⟨p1, 0, none⟩) n n) us) ∧ Hid (Own wr w2.heap.size n (.slice (some ⟨p2, 0, none⟩) n n) vs) ∧ Hid (∀ q, q < k → cls .f32 (us.getD q 0) = fop .add .f32 (cls .f32 (r1.getD q 0)) (cls .f32 (r2.getD q 0))) ∧ Hid (∀ q, q < k → cls .f32 (vs.getD q 0) = fop .add .f32 (cls .f32 (l1.getD q 0)) (cls .f32 (l2.getD q 0))) ∧ Hid (Box wr w3.heap.size #[.slice (some ⟨p1, 0, none⟩) n n, .slice (some ⟨p2, 0, none⟩) n n]) ∧ Hid (Box wr w.heap.size #[.slice a n c, .float .f32 l, .float .f32 t, .float .f32 p]) ∧ Hid (Box wr (w.heap.size + 1) #[.slice b1 n d1, .slice b2 n d2]) ∧ Hid (Box wr (w.heap.size + 2) #[.slice b3 n d3, .slice b4 n d4]) ∧ Hid (Box wr (w.heap.size + 3) #[.slice none 0 0, .slice none 0 0]) ∧ Hid (Ext w wr)) (fun i _ => n - (intOf i).toNat)
  case atStart => exact ⟨0, _, _, Nat.zero_le _, rfl, hid (Own.alloc P1.out _), hid (Own.alloc P2.out _), hid (fun q hq => by omega), hid (fun q hq => by omega), D3, hid (Box.ext BA3.out (by (repeat with_reducible (first | exact Ext.refl _ | exact ext_alloc _ _ | refine Ext.drewN ?_ _ | refine Ext.drew1 ?_ | refine Ext.set ?_ (by dsimp only; omega) _ | refine Ext.alloc ?_ _)))), hid (Box.ext BB3.out (by (repeat with_reducible (first | exact Ext.refl _ | exact ext_alloc _ _ | refine Ext.drewN ?_ _ | refine Ext.drew1 ?_ | refine Ext.set ?_ (by dsimp only; omega) _ | refine Ext.alloc ?_ _)))), hid (Box.ext BC3.out (by (repeat with_reducible (first | exact Ext.refl _ | exact ext_alloc _ _ | refine Ext.drewN ?_ _ | refine Ext.drew1 ?_ | refine Ext.set ?_ (by dsimp only; omega) _ | refine Ext.alloc ?_ _)))), hid (Box.ext BR3.out (by (repeat with_reducible (first | exact Ext.refl _ | exact ext_alloc _ _ | refine Ext.drewN ?_ _ | refine Ext.drew1 ?_ | refine Ext.set ?_ (by dsimp only; omega) _ | refine Ext.alloc ?_ _)))), hid (Ext.trans EX3.out (by (repeat with_reducible (first | exact Ext.refl _ | exact ext_alloc _ _ | refine Ext.drewN ?_ _ | refine Ext.drew1 ?_ | refine Ext.set ?_ (by dsimp only; omega) _ | refine Ext.alloc ?_ _))))⟩
  case round =>
    obtain ⟨k, us, vs, hk, rfl, ho, hv, hu1, hu2, hD, hA, hB, hC, hZ, he⟩ := hrel
    clear j0 j1 j2 j3 jl x0 x1 xl y0 y1 yl
    obtain ⟨j0, j1, j2, j3, jl⟩ := Box.cells4 hA.out
    obtain ⟨x0, x1, xl⟩ := Box.cells2 hB.out
    obtain ⟨y0, y1, yl⟩ := Box.cells2 hC.out
    obtain ⟨g0, g1, gl⟩ := Box.cells2 hD.out
    have hn2 : n ≤ 1048576 := HN.out
    by_cases hlt : k < n
    · obtain ⟨b, off, b', off', rfl, rfl, e1, e2⟩ := two_cells (Holds.ext H1.out he.out) (Holds.ext H3.out he.out) k hlt
      have c1 := Own.cellAt ho.out k hlt
      have f1 := Own.frozenAt ho.out k
      have c2 := Own.cellAt hv.out k hlt
      have f2 := Own.frozenAt hv.out k
      have hi0 : (0 : Int) ≤ (k : Int) := by omega
      have hi1 : (k : Int) < (n : Int) := by omega
      go_wp2_with fail
      refine wp_region_tail 15 (by kernel_rfl) (by kernel_rfl) (by kernel_rfl) ?_
      simp only [List.take_succ_cons, List.take_zero, List.drop_succ_cons, List.drop_zero]
      repeat (first | (refine wpM_mult0 rfl rfl ?_; refine mult_farith rfl rfl rfl rfl ?_; intro r7 hq7 hw7) | (refine wpM_quiet rfl (fun K hK => ?_); go_simp; refine hK _ ?_; clear hK K))
      refine wpM_nil ?_
      intro w4 hw4
      obtain ⟨nq, hw4⟩ := hw4
      subst hw4
      go_wp2_with fail
      have hp1 := hid (HI1.out p1 rfl)
      have hp2 := hid (HI2.out p2 rfl)
      have SW := hid (show w.heap.size + 4 ≤ w2.heap.size from SP.out)
      have O7 := hid (Own.stored (Own.drewN ho.out nq) k r7).1
      have V7 := hid (Own.far (j := k) (Own.drewN hv.out nq) (fun hk => HPP.out (Option.some.inj hk).symm : (Value.slice (some ⟨p2, 0, none⟩) n n).ownBlock ≠ some p1) (.float .f32 r7))
      have D7 := hid (Box.far (j := k) (Box.drewN hD.out nq) (show w3.heap.size ≠ p1 from by have := hp1.out; omega) (.float .f32 r7))
      have A7 := hid (Box.far (j := k) (Box.drewN hA.out nq) (show w.heap.size ≠ p1 from by have := hp1.out; have := SW.out; omega) (.float .f32 r7))
      have B7 := hid (Box.far (j := k) (Box.drewN hB.out nq) (show w.heap.size + 1 ≠ p1 from by have := hp1.out; have := SW.out; omega) (.float .f32 r7))
      have C7 := hid (Box.far (j := k) (Box.drewN hC.out nq) (show w.heap.size + 2 ≠ p1 from by have := hp1.out; have := SW.out; omega) (.float .f32 r7))
      have Z7 := hid (Box.far (j := k) (Box.drewN hZ.out nq) (show w.heap.size + 3 ≠ p1 from by have := hp1.out; have := SW.out; omega) (.float .f32 r7))
      have E7 := hid (Ext.set (p := ⟨p1, k, none⟩) (Ext.drewN he.out nq) (by have := hp1.out; have := SW.out; dsimp only; omega) (.float .f32 r7))
      obtain ⟨W7, hW7⟩ : ∃ u, (wr.drewN nq).setCell ⟨p1, k, none⟩ (.float .f32 r7) = u := ⟨_, rfl⟩
      rw [hW7] at O7 V7 D7 A7 B7 C7 Z7 E7 ⊢
      clear hW7 j0 j1 j2 j3 jl x0 x1 xl y0 y1 yl g0 g1 gl e1 e2 c1 f1 c2 f2
      have hr7 := hid (show cls .f32 r7 = fop .add .f32 (cls .f32 (r1.getD k 0)) (cls .f32 (r2.getD k 0)) from hq7.out)
      clear hq7 hw7
      obtain ⟨j0, j1, j2, j3, jl⟩ := Box.cells4 A7.out
      obtain ⟨x0, x1, xl⟩ := Box.cells2 B7.out
      obtain ⟨y0, y1, yl⟩ := Box.cells2 C7.out
      obtain ⟨g0, g1, gl⟩ := Box.cells2 D7.out
      obtain ⟨bb, of2, bb', of2', rfl, rfl, e3, e4⟩ := two_cells (Holds.ext H2.out E7.out) (Holds.ext H4.out E7.out) k hlt
      have c2 := Own.cellAt V7.out k hlt
      have f2 := Own.frozenAt V7.out k
      refine wp_region_tail 15 (by kernel_rfl) (by kernel_rfl) (by kernel_rfl) ?_
      simp only [List.take_succ_cons, List.take_zero, List.drop_succ_cons, List.drop_zero]
      repeat (first | (refine wpM_mult0 rfl rfl ?_; refine mult_farith rfl rfl rfl rfl ?_; intro r8 hq8 hw8) | (refine wpM_quiet rfl (fun K hK => ?_); go_simp; refine hK _ ?_; clear hK K))
      refine wpM_nil ?_
      intro w8 hw8
      obtain ⟨nq8, hw8⟩ := hw8
      subst hw8
      go_wp2_with fail
      have O8 := hid (Own.far (j := k) (Own.drewN O7.out nq8) (fun hk => HPP.out (Option.some.inj hk) : (Value.slice (some ⟨p1, 0, none⟩) n n).ownBlock ≠ some p2) (.float .f32 r8))
      have V8 := hid (Own.stored (Own.drewN V7.out nq8) k r8).1
      have D8 := hid (Box.far (j := k) (Box.drewN D7.out nq8) (show w3.heap.size ≠ p2 from by have := hp2.out; omega) (.float .f32 r8))
      have A8 := hid (Box.far (j := k) (Box.drewN A7.out nq8) (show w.heap.size ≠ p2 from by have := hp2.out; have := SW.out; omega) (.float .f32 r8))
      have B8 := hid (Box.far (j := k) (Box.drewN B7.out nq8) (show w.heap.size + 1 ≠ p2 from by have := hp2.out; have := SW.out; omega) (.float .f32 r8))
      have C8 := hid (Box.far (j := k) (Box.drewN C7.out nq8) (show w.heap.size + 2 ≠ p2 from by have := hp2.out; have := SW.out; omega) (.float .f32 r8))
      have Z8 := hid (Box.far (j := k) (Box.drewN Z7.out nq8) (show w.heap.size + 3 ≠ p2 from by have := hp2.out; have := SW.out; omega) (.float .f32 r8))
      have E8 := hid (Ext.set (p := ⟨p2, k, none⟩) (Ext.drewN E7.out nq8) (by have := hp2.out; have := SW.out; dsimp only; omega) (.float .f32 r8))
      have hu7 := hid (show ∀ q, q < k + 1 → cls .f32 ((us.set k r7).getD q 0) = fop .add .f32 (cls .f32 (r1.getD q 0)) (cls .f32 (r2.getD q 0)) from by
        intro q hq
        rw [getD_set23 _ _ _ _ (by rw [ho.out.len]; exact hlt)]
        by_cases h : q = k
        · subst h; rw [if_pos rfl]; exact hr7.out
        · rw [if_neg h]; exact hu1.out q (by omega))
      have hu8 := hid (show ∀ q, q < k + 1 → cls .f32 ((vs.set k r8).getD q 0) = fop .add .f32 (cls .f32 (l1.getD q 0)) (cls .f32 (l2.getD q 0)) from by
        intro q hq
        rw [getD_set23 _ _ _ _ (by rw [hv.out.len]; exact hlt)]
        by_cases h : q = k
        · subst h; rw [if_pos rfl]; exact hq8.out
        · rw [if_neg h]; exact hu2.out q (by omega))
      go_roundw
      case rel => exact ⟨k + 1, us.set k r7, vs.set k r8, by omega, by go_num, O8, V8, hu7, hu8, D8, A8, B8, C8, Z8, E8⟩
      case measure => simp [intOf]; omega
    · have hkn : k = n := by omega
      subst hkn
      have F1 := hid (plus_of ho.out.len hu1.out)
      have F2 := hid (plus_of hv.out.len hu2.out)
      clear hu1 hu2
      go_wp2_with fail
      refine (areWaves_any _ _ _ _ _ _ _ _ _ _ _ _ zs us vs V3 _ (Holds.ext HH.out he.out) (own_hold ho.out) (own_hold hv.out) HN.out HN.out HN.out (by rw [F1.out, F2.out]; exact HV3.out)).mono ?_
      rintro e w9 ⟨rfl, E9⟩
      have HU := hid (Own.ext ho.out E9)
      have HW := hid (Own.ext hv.out E9)
      have D9 := hid (Box.ext hD.out E9)
      have Z9 := hid (Box.ext hZ.out E9)
      have E10 := hid (Ext.trans he.out E9)
      have SP3 := hid (show w.heap.size + 4 ≤ w2.heap.size from SP.out)
      clear E9 j0 j1 j2 j3 jl x0 x1 xl y0 y1 yl g0 g1 gl
      obtain ⟨z0, z1, zf0, zf1, zl⟩ := Box.all2 Z9.out
      obtain ⟨g0, g1, gl⟩ := Box.cells2 D9.out
      cases V3
      · have hR := HR.out
        simp only [Bool.false_eq_true, if_false] at hR
        subst hR
        go_wp2_with fail
        clear z0 z1 zf0 zf1 zl
        refine bodyPost_ret (ret_cell2 Try.results31 rfl (box_set2 Z9.out _ _) Try.underlying43 infoW) rfl ?_
        exact ⟨_, rfl, zeroW_is _ _, ext_set2 E10.out (by omega) _ _⟩
      · have hR := HR.out
        simp only [if_true] at hR
        have HR2 := hid hR
        go_wp2_with fail
        clear z0 z1 zf0 zf1 zl
        refine bodyPost_ret (ret_cell2 Try.results31 rfl (box_set2 Z9.out _ _) Try.underlying43 infoW) rfl ?_
        have HT := waves_own HU.out HW.out F1.out F2.out (fun q h1 h2 => HPP.out ((Option.some.inj h1).trans (Option.some.inj h2).symm))
        rw [HR2.out] at HT
        exact ⟨_, by rw [← HR2.out]; rfl, WavesIs.base (WavesIs.far2 HT (by have := SP3.out; omega) _ _) (by have := SP3.out; omega), ext_set2 E10.out (by omega) _ _⟩
theorem own_snoc23 {w : World} {B k : Nat} {v : Value} {ys : List Nat} {r : Nat} (h : w.ownsRow B 23 1 v (k + 1) (ys.map (Value.float .f32) ++ [.float .f32 r])) : Own w B (k + 1) v (ys ++ [r]) := by
  unfold Own; simpa using h
theorem l02Waves_ext (x y : Nat) (a b1 b2 : Option Addr) (n c l t p n1 d1 n2 d2 : Nat) (zs rs ls : List Nat) (V : Bool) (w : World) (hx : Box w x #[.slice a n c, .float .f32 l, .float .f32 t, .float .f32 p]) (hy : Box w y #[.slice b1 n1 d1, .slice b2 n2 d2]) (h : Holds .f32 w a n zs) (k1 : Holds .f32 w b1 n1 rs) (k2 : Holds .f32 w b2 n2 ls) (hn : n ≤ 1048576) (hn1 : n1 ≤ 1048576) (hn2 : n2 ≤ 1048576) (hR : wavesB (zs.map (cls .f32)) (cls .f32 l) (cls .f32 t) (cls .f32 p) (rs.map (cls .f32)) (ls.map (cls .f32)) = V) :
    Calls Try.prog 74 #[.pointer (some ⟨x, 0, none⟩), .pointer (some ⟨y, 0, none⟩)] w fun e w' => e = .returned (.bool V) ∧ Ext w w' := by
  refine (l02Waves_any _ _ _ _ _ _ _ _ _ _ _ _ _ _ _ _ _ _ _ hx hy h k1 k2 hn hn1 hn2 hR).mono ?_
  rintro e w' ⟨rfl, m, rfl⟩
  exact ⟨rfl, Ext.drewN (Ext.refl _) _⟩
set_option maxHeartbeats 1000000 in
theorem l02Both_any (x B : Nat) (a b1 b2 : Option Addr) (n c l t p d1 d2 : Nat) (zs us vs : List Nat) (V : Bool) (R : WR) (w : World) (hx : Box w x #[.slice a n c, .float .f32 l, .float .f32 t, .float .f32 p]) (h : Holds .f32 w a n zs) (k1 : Own w B n (.slice b1 n d1) us) (k2 : Own w B n (.slice b2 n d2) vs) (hB : B ≤ w.heap.size) (hn : n ≤ 1048576)
    (ha : ∀ k, (Value.slice b1 n d1).ownBlock = some k → (Value.slice b2 n d2).ownBlock ≠ some k) (hV : wavesB (zs.map (cls .f32)) (cls .f32 l) (cls .f32 t) (cls .f32 p) (us.map (cls .f32)) (vs.map (cls .f32)) = V) (hR : (if V = true then (⟨true, us.map (cls .f32), vs.map (cls .f32)⟩ : WR) else zeroW) = R) :
    Calls Try.prog 75 #[.pointer (some ⟨x, 0, none⟩), .agg #[.slice b1 n d1, .slice b2 n d2]] w fun e w' => ∃ v, e = .returned (.tuple #[v, .bool R.ok]) ∧ WavesIs w' B R v ∧ Ext w w' := by
  have HX := hid hx
  have HH := hid h
  have K1 := hid k1
  have K2 := hid k2
  have HN := hid hn
  have HA := hid ha
  have HV := hid hV
  have HR := hid hR
  have HI1 := hid (Own.block k1)
  have HI2 := hid (Own.block k2)
  clear hx h k1 k2 hn ha hV hR
  go_enter Try.func75, Try.ntmps75
  go_wp2_with fail
  refine (l02Waves_ext _ _ _ _ _ _ _ _ _ _ _ _ _ _ zs us vs V _ (Box.ext HX.out (by (repeat with_reducible (first | exact Ext.refl _ | exact ext_alloc _ _ | refine Ext.drewN ?_ _ | refine Ext.drew1 ?_ | refine Ext.set ?_ (by dsimp only; omega) _ | refine Ext.alloc ?_ _)))) (Box.ext (box_new (w := w) #[.slice b1 n d1, .slice b2 n d2] 43) (by (repeat with_reducible (first | exact Ext.refl _ | exact ext_alloc _ _ | refine Ext.drewN ?_ _ | refine Ext.drew1 ?_ | refine Ext.set ?_ (by dsimp only; omega) _ | refine Ext.alloc ?_ _)))) (Holds.ext HH.out (by (repeat with_reducible (first | exact Ext.refl _ | exact ext_alloc _ _ | refine Ext.drewN ?_ _ | refine Ext.drew1 ?_ | refine Ext.set ?_ (by dsimp only; omega) _ | refine Ext.alloc ?_ _)))) (own_hold (Own.ext K1.out (by (repeat with_reducible (first | exact Ext.refl _ | exact ext_alloc _ _ | refine Ext.drewN ?_ _ | refine Ext.drew1 ?_ | refine Ext.set ?_ (by dsimp only; omega) _ | refine Ext.alloc ?_ _))))) (own_hold (Own.ext K2.out (by (repeat with_reducible (first | exact Ext.refl _ | exact ext_alloc _ _ | refine Ext.drewN ?_ _ | refine Ext.drew1 ?_ | refine Ext.set ?_ (by dsimp only; omega) _ | refine Ext.alloc ?_ _))))) HN.out HN.out HN.out HV.out).mono ?_
  rintro e w1 ⟨rfl, E1⟩
  have BW1 := hid (Box.ext (Box.ext (box_new (w := w) #[.slice b1 n d1, .slice b2 n d2] 43) (by (repeat with_reducible (first | exact Ext.refl _ | exact ext_alloc _ _ | refine Ext.drewN ?_ _ | refine Ext.drew1 ?_ | refine Ext.set ?_ (by dsimp only; omega) _ | refine Ext.alloc ?_ _)))) E1)
  have BR1 := hid (Box.cast (b' := w.heap.size + 1) (Box.ext (box_new (w := w.alloc (.cells #[.slice b1 n d1, .slice b2 n d2] 43)) #[.slice none 0 0, .slice none 0 0] 43) E1) (by simp))
  have EX1 := hid (show Ext w w1 from Ext.trans (by (repeat with_reducible (first | exact Ext.refl _ | exact ext_alloc _ _ | refine Ext.drewN ?_ _ | refine Ext.drew1 ?_ | refine Ext.set ?_ (by dsimp only; omega) _ | refine Ext.alloc ?_ _))) E1)
  have U1 := hid (Own.ext K1.out EX1.out)
  have V1 := hid (Own.ext K2.out EX1.out)
  clear E1
  obtain ⟨z0, z1, zf0, zf1, zl⟩ := Box.all2 BR1.out
  obtain ⟨y0, y1, yl⟩ := Box.cells2 BW1.out
  cases V
  · have e := HR.out
    simp only [Bool.false_eq_true, if_false] at e
    subst e
    go_wp2_with fail
    clear z0 z1 zf0 zf1 zl
    refine bodyPost_ret (ret_cell2 Try.results75 rfl (box_set2 BR1.out _ _) Try.underlying43 infoW) rfl ?_
    exact ⟨_, rfl, zeroW_is _ _, ext_set2 EX1.out (by omega) _ _⟩
  · have e := HR.out
    simp only [if_true] at e
    have HR2 := hid e
    go_wp2_with fail
    clear z0 z1 zf0 zf1 zl
    refine bodyPost_ret (ret_cell2 Try.results75 rfl (box_set2 BR1.out _ _) Try.underlying43 infoW) rfl ?_
    have hf1 : (Value.slice b1 n d1).ownBlock ≠ some (w.heap.size + 1) := fun hk => by have := (HI1.out _ hk).2; omega
    have hf2 : (Value.slice b2 n d2).ownBlock ≠ some (w.heap.size + 1) := fun hk => by have := (HI2.out _ hk).2; omega
    have HT := waves_own (Own.far (j := 1) (Own.far (j := 0) U1.out hf1 (.slice b1 n d1)) hf1 (.slice b2 n d2)) (Own.far (j := 1) (Own.far (j := 0) V1.out hf2 (.slice b1 n d1)) hf2 (.slice b2 n d2)) rfl rfl HA.out
    rw [HR2.out] at HT
    exact ⟨_, by rw [← HR2.out]; rfl, HT, ext_set2 EX1.out (by omega) _ _⟩
end Go.Proofs.Ytnmigjiaeahekaa
