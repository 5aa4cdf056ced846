/- Tubes the other way round. -/
import Derived.Test.YtnmigjiaeahekaaT19
import Derived.Deep.RegionLaw
namespace Go.Proofs.Ytnmigjiaeahekaa
open Go.RowKit Flt
set_option linter.unusedVariables false

theorem own_snoc22 {w : World} {B k : Nat} {v : Value} {ys : List Nat} {r : Nat} (h : w.ownsRow B 23 1 v (k + 1) (ys.map (Value.float .f32) ++ [.float .f32 r])) : Own w B (k + 1) v (ys ++ [r]) := by
  unfold Own; simpa using h
def backT (cs : List (Option Nat)) (l t p : Option Nat) : TR := if tubeC cs l t p then ⟨true, cs.reverse, l, p, t⟩ else zeroT
theorem back_len (cs : List (Option Nat)) (l t p : Option Nat) : (backT cs l t p).cs.length ≤ 16 := by
  unfold backT
  split
  · rename_i h
    have := (tube_len h).2
    simp; exact this
  · exact Nat.zero_le _
theorem tube_own {w : World} {B n c : Nat} {a : Option Addr} {zs : List Nat} {l t p : Nat} {cs : List (Option Nat)} {L T P : Option Nat} (ho : Own w B n (.slice a n c) zs) (e : zs.map (cls .f32) = cs) (el : cls .f32 l = L) (et : cls .f32 t = T) (ep : cls .f32 p = P) :
    TubeIs w B ⟨true, cs, L, T, P⟩ (.agg #[.slice a n c, .float .f32 l, .float .f32 t, .float .f32 p]) := by
  have hl := Own.len ho
  subst e el et ep
  have e2 : (zs.map (cls .f32)).length = n := by simp [hl]
  exact ⟨a, c, l, t, p, zs, by simp only [e2], by simp only [e2]; exact ho, rfl, rfl, rfl, rfl⟩
theorem getD_set22 (ys : List Nat) (k q r : Nat) (hk : k < ys.length) : (ys.set k r).getD q 0 = if q = k then r else ys.getD q 0 := by
  by_cases h : q = k
  · subst h; simp [List.getD, hk]
  · rw [if_neg h]; simp [List.getD, List.getElem?_set_ne (Ne.symm h)]
theorem rev_of {ys zs : List Nat} {n : Nat} (h1 : ys.length = n) (h2 : zs.length = n) (h : ∀ q, q < n → ys.getD q 0 = zs.getD (n - 1 - q) 0) : ys = zs.reverse := by
  apply List.ext_getElem?
  intro i
  by_cases hi : i < n
  · have := h i hi
    simp [List.getD, show i < ys.length by omega, show n - 1 - i < zs.length by omega] at this
    rw [List.getElem?_reverse (by omega), List.getElem?_eq_getElem (show i < ys.length by omega), List.getElem?_eq_getElem (show zs.length - 1 - i < zs.length by omega), this]
    congr 2
    omega
  · rw [List.getElem?_eq_none (by omega), List.getElem?_eq_none (by simp; omega)]
set_option maxHeartbeats 1000000 in
theorem reverse_any (g n c B : Nat) (zs : List Nat) (w : World) (h : Own w B n (.slice (some ⟨g, 0, none⟩) n c) zs) (h1 : 1 ≤ n) (hn : n ≤ 1048576) :
    Calls Try.prog 65 #[.slice (some ⟨g, 0, none⟩) n c] w fun e w' => e = .returned (.tuple #[]) ∧ Own w' B n (.slice (some ⟨g, 0, none⟩) n c) zs.reverse ∧ But (some g) w w' := by
  have HH := hid h
  have HL := hid h.len
  have HN := hid hn
  have H1 := hid h1
  clear h hn h1
  go_enter Try.func65, Try.ntmps65
  go_wp2
  go_loopw [2, 3] (fun i j wr => ∃ (k r : Nat) (ys : List Nat), k + r + 1 = n ∧ k ≤ r + 1 ∧ i = .int .i64 k ∧ j = .int .i64 r ∧ Hid (Own wr B n (.slice (some ⟨g, 0, none⟩) n c) ys) ∧ Hid (∀ q, q < n → ys.getD q 0 = if q < k ∨ r < q then zs.getD (n - 1 - q) 0 else zs.getD q 0) ∧ Hid (But (some g) w wr)) (fun i _ _ => n - (intOf i).toNat)
  case atStart =>
    have h1 := H1.out
    refine ⟨0, n - 1, zs, by omega, by omega, rfl, ?_, HH, hid (fun q hq => by rw [if_neg (by omega)]), hid (But.refl _ _)⟩
    have hw : wrap64 ((n : Int) - 1) = ((n - 1 : Nat) : Int) := by have := HN.out; unfold wrap64; omega
    rw [hw]
  case round =>
    obtain ⟨k, r, ys, hkr, hkr2, rfl, rfl, ho, hy, he⟩ := hrel
    have hn2 : n ≤ 1048576 := HN.out
    by_cases hlt : k < r
    · have e1 := Own.cellAt ho.out k (by omega)
      have e2 := Own.cellAt ho.out r (by omega)
      have f1 := Own.frozenAt ho.out k
      have f2 := Own.frozenAt ho.out r
      have v1 := hy.out k (by omega)
      have v2 := hy.out r (by omega)
      rw [if_neg (by omega)] at v1 v2
      have HYL := hid ho.out.len
      generalize ys.getD k 0 = x at e1 v1
      generalize ys.getD r 0 = y at e2 v2
      have V1 := hid v1
      have V2 := hid v2
      clear v1 v2
      have hi0 : (0 : Int) ≤ (k : Int) := by omega
      have hi1 : (k : Int) < (n : Int) := by omega
      have hj0 : (0 : Int) ≤ (r : Int) := by omega
      have hj1 : (r : Int) < (n : Int) := by omega
      have hk1 : (k : Int) < (r : Int) := by omega
      have hne : k ≠ r := by omega
      have hne2 : r ≠ k := by omega
      go_wp2_with fail
      go_region
      go_wp2_with fail
      have O2 := Own.stored (Own.stored ho.out k y).1 r x
      have hy2 : ∀ q, q < n → ((ys.set k y).set r x).getD q 0 = if q < k + 1 ∨ r - 1 < q then zs.getD (n - 1 - q) 0 else zs.getD q 0 := by
        intro q hq
        have hl := HYL.out
        rw [getD_set22 _ _ _ _ (by simp; omega), getD_set22 _ _ _ _ (by omega)]
        by_cases h1 : q = r
        · subst h1
          rw [if_pos rfl, if_pos (by omega), V1.out]
          congr 1; omega
        · rw [if_neg h1]
          by_cases h2 : q = k
          · subst h2
            rw [if_pos rfl, if_pos (by omega), V2.out]
            congr 1; omega
          · rw [if_neg h2, hy.out q hq]
            by_cases h3 : q < k ∨ r < q
            · rw [if_pos h3, if_pos (by omega)]
            · rw [if_neg h3, if_neg (by omega)]
      have HY2 := hid hy2
      have HO2 := hid O2.1
      have HB2 := hid (But.trans he.out (But.trans (Own.stored ho.out k y).2 O2.2))
      have hr2 : (r : Int) - 1 = ((r - 1 : Nat) : Int) := by omega
      go_roundw
      case rel => exact ⟨k + 1, r - 1, (ys.set k y).set r x, by omega, by omega, by go_num, by rw [hr2], hid HO2.out, HY2, hid (But.trans HB2.out ((ext_drew _).but _))⟩
      case measure => simp [intOf]; omega
    · have hk1 : ¬ ((k : Int) < (r : Int)) := by omega
      have hrev := hid (rev_of (n := n) ho.out.len HL.out (fun q hq => by
        rw [hy.out q hq]
        by_cases h3 : q < k ∨ r < q
        · rw [if_pos h3]
        · rw [if_neg h3]; congr 1; omega))
      go_wp2
      rw [← hrev.out]
      first | (go_ret; exact ⟨rfl, ho.out, he.out⟩) | (go_returns; exact ⟨rfl, ho.out, he.out⟩)
set_option maxHeartbeats 1000000 in
set_option maxRecDepth 100000 in
theorem back_any (a : Option Addr) (n c l t p : Nat) (zs : List Nat) (R : TR) (w : World) (h : Holds .f32 w a n zs) (hn : n ≤ 1048576) (hR : backT (zs.map (cls .f32)) (cls .f32 l) (cls .f32 t) (cls .f32 p) = R) :
    Calls Try.prog 23 #[.agg #[.slice a n c, .float .f32 l, .float .f32 t, .float .f32 p]] w fun e w' => ∃ v, e = .returned (.tuple #[v, .bool R.ok]) ∧ TubeIs w' w.heap.size R v ∧ Ext w w' := by
  have HH := hid h
  have HN := hid hn
  have HL := hid h.1
  cases hV : tubeC (zs.map (cls .f32)) (cls .f32 l) (cls .f32 t) (cls .f32 p)
  · have e : R = zeroT := by rw [← hR]; unfold backT; rw [hV]; rfl
    subst e
    clear h hn hR
    go_enter Try.func23, Try.ntmps23
    go_wp2_with fail
    refine (validTube_any _ _ _ _ _ _ zs _ (Holds.ext HH.out (by (repeat with_reducible (first | exact Ext.refl _ | exact ext_alloc _ _ | refine Ext.drewN ?_ _ | refine Ext.drew1 ?_ | refine Ext.set ?_ (by dsimp only; omega) _ | refine Ext.alloc ?_ _)))) HN.out).mono ?_
    rintro e w1 ⟨rfl, m, rfl⟩
    simp only [hV]
    go_wp2_with fail
    go_returns
    refine ⟨_, rfl, zero_is _ _, ?_⟩
    (repeat with_reducible (first | exact Ext.refl _ | exact ext_alloc _ _ | refine Ext.drewN ?_ _ | refine Ext.drew1 ?_ | refine Ext.set ?_ (by dsimp only; omega) _ | refine Ext.alloc ?_ _))
  have HR := hid (show (⟨true, (zs.map (cls .f32)).reverse, cls .f32 l, cls .f32 p, cls .f32 t⟩ : TR) = R from by rw [← hR]; unfold backT; rw [hV]; rfl)
  have h1 : 1 ≤ n := by
    have h2 := (tube_len hV).1
    have h3 := h.1
    simp at h2; omega
  have H1 := hid h1
  clear h hn hR h1
  go_enter Try.func23, Try.ntmps23
  go_wp2_with fail
  refine (validTube_ext _ _ _ _ _ _ zs true _ (Holds.ext HH.out (by (repeat with_reducible (first | exact Ext.refl _ | exact ext_alloc _ _ | refine Ext.drewN ?_ _ | refine Ext.drew1 ?_ | refine Ext.set ?_ (by dsimp only; omega) _ | refine Ext.alloc ?_ _)))) HN.out hV).mono ?_
  rintro e w1 ⟨rfl, E1⟩
  have EX1 := hid (show Ext w w1 from Ext.trans (by (repeat with_reducible (first | exact Ext.refl _ | exact ext_alloc _ _ | refine Ext.drewN ?_ _ | refine Ext.drew1 ?_ | refine Ext.set ?_ (by dsimp only; omega) _ | refine Ext.alloc ?_ _))) E1)
  have BA1 := hid (Box.ext (Box.ext (box_new (w := w) #[.slice a n c, .float .f32 l, .float .f32 t, .float .f32 p] 27) (by (repeat with_reducible (first | exact Ext.refl _ | exact ext_alloc _ _ | refine Ext.drewN ?_ _ | refine Ext.drew1 ?_ | refine Ext.set ?_ (by dsimp only; omega) _ | refine Ext.alloc ?_ _)))) E1)
  have BR1 := hid (Box.cast (b' := w.heap.size + 1) (Box.ext (Box.ext (box_new (w := (w.alloc (.cells #[.slice a n c, .float .f32 l, .float .f32 t, .float .f32 p] 27))) #[.slice none 0 0, .float .f32 0, .float .f32 0, .float .f32 0] 27) (by (repeat with_reducible (first | exact Ext.refl _ | exact ext_alloc _ _ | refine Ext.drewN ?_ _ | refine Ext.drew1 ?_ | refine Ext.set ?_ (by dsimp only; omega) _ | refine Ext.alloc ?_ _)))) E1) (by simp))
  have SZ1 := hid (show w.heap.size + 2 ≤ w1.heap.size from by have := Ext.size E1; simp at this; omega)
  clear E1
  obtain ⟨d0, d1, d2, d3, dl⟩ := Box.cells4 BA1.out
  go_wp2_with fail
  refine (clone_any _ _ _ zs _ (Holds.ext HH.out (Ext.trans EX1.out (by (repeat with_reducible (first | exact Ext.refl _ | exact ext_alloc _ _ | refine Ext.drewN ?_ _ | refine Ext.drew1 ?_ | refine Ext.set ?_ (by dsimp only; omega) _ | refine Ext.alloc ?_ _))))) H1.out HN.out).mono ?_
  rintro e w2 ⟨b2, c2, rfl, O2, E2⟩
  have BA2 := hid (Box.ext BA1.out E2)
  have BR2 := hid (Box.ext BR1.out E2)
  have EX2 := hid (Ext.trans EX1.out E2)
  have HO2 := hid (Own.base O2 SZ1.out)
  have HI2 := hid (Own.block HO2.out)
  clear d0 d1 d2 d3 dl O2 E2 BA1 BR1 EX1
  go_wp2_with fail
  refine (reverse_any _ _ _ _ zs _ HO2.out H1.out HN.out).mono ?_
  rintro e w3 ⟨rfl, O3, M3⟩
  have hb2 := (HI2.out b2 rfl).1
  have BA3 := hid (But.box M3 BA2.out (fun hk => by cases hk; omega))
  have BR3 := hid (But.box M3 BR2.out (fun hk => by cases hk; omega))
  have EX3 := hid (But.below M3 EX2.out (fun k hk => by cases hk; omega))
  have HO3 := hid O3
  have HB2 := hid hb2
  clear O3 M3 BA2 BR2 EX2 HO2 HI2 hb2
  obtain ⟨d0, d1, d2, d3, dl⟩ := Box.cells4 BA3.out
  obtain ⟨z0, z1, z2, z3, zf0, zf1, zf2, zf3, zl⟩ := Box.all4 BR3.out
  go_wp2_with fail
  clear d0 d1 d2 d3 dl z0 z1 z2 z3 zf0 zf1 zf2 zf3 zl
  refine bodyPost_ret (ret_cell2 Try.results23 rfl (box_set4 BR3.out _ _ _ _) Try.underlying27 infoT) rfl ?_
  have HT := tube_own HO3.out (by rw [List.map_reverse]) (rfl : cls .f32 l = _) (rfl : cls .f32 p = _) (rfl : cls .f32 t = _)
  rw [HR.out] at HT
  exact ⟨_, by rw [← HR.out]; rfl, TubeIs.base (TubeIs.far4 HT (by omega) _ _ _ _) (by omega), ext_set4 EX3.out (by omega) _ _ _ _⟩
theorem rev_getD {zs : List Nat} {n q k : Nat} (hl : zs.length = n) (h : q + k + 1 = n) : zs.reverse.getD k 0 = zs.getD q 0 := by
  have h1 : k < zs.reverse.length := by simp; omega
  have h2 : q < zs.length := by omega
  simp only [List.getD, List.getElem?_eq_getElem h1, List.getElem?_eq_getElem h2, Option.getD_some, List.getElem_reverse]
  congr 1
  omega
set_option maxHeartbeats 1000000 in
set_option maxRecDepth 100000 in
theorem sBack_any (a : Option Addr) (n c l t p : Nat) (zs : List Nat) (R : TR) (w : World) (h : Holds .f32 w a n zs) (hn : n ≤ 1048576) (hR : backT (zs.map (cls .f32)) (cls .f32 l) (cls .f32 t) (cls .f32 p) = R) :
    Calls Try.prog 22 #[.agg #[.slice a n c, .float .f32 l, .float .f32 t, .float .f32 p]] w fun e w' => ∃ v, e = .returned (.tuple #[v, .bool R.ok]) ∧ TubeIs w' w.heap.size R v ∧ Ext w w' := by
  have HH := hid h
  have HN := hid hn
  have HL := hid h.1
  cases hV : tubeC (zs.map (cls .f32)) (cls .f32 l) (cls .f32 t) (cls .f32 p)
  · have e : R = zeroT := by rw [← hR]; unfold backT; rw [hV]; rfl
    subst e
    clear h hn hR
    go_enter Try.func22, Try.ntmps22
    go_wp2_with fail
    refine (l02Is_any _ _ _ _ _ _ _ zs _ (Box.ext (box_new (w := w) #[.slice a n c, .float .f32 l, .float .f32 t, .float .f32 p] 27) (by (repeat with_reducible (first | exact Ext.refl _ | exact ext_alloc _ _ | refine Ext.drewN ?_ _ | refine Ext.drew1 ?_ | refine Ext.set ?_ (by dsimp only; omega) _ | refine Ext.alloc ?_ _)))) (Holds.ext HH.out (by (repeat with_reducible (first | exact Ext.refl _ | exact ext_alloc _ _ | refine Ext.drewN ?_ _ | refine Ext.drew1 ?_ | refine Ext.set ?_ (by dsimp only; omega) _ | refine Ext.alloc ?_ _)))) HN.out).mono ?_
    rintro e w1 ⟨rfl, m, rfl⟩
    simp only [hV]
    go_wp2_with fail
    go_returns
    refine ⟨_, rfl, zero_is _ _, ?_⟩
    (repeat with_reducible (first | exact Ext.refl _ | exact ext_alloc _ _ | refine Ext.drewN ?_ _ | refine Ext.drew1 ?_ | refine Ext.set ?_ (by dsimp only; omega) _ | refine Ext.alloc ?_ _))
  have HR := hid (show (⟨true, (zs.map (cls .f32)).reverse, cls .f32 l, cls .f32 p, cls .f32 t⟩ : TR) = R from by rw [← hR]; unfold backT; rw [hV]; rfl)
  have h1 : 1 ≤ n := by
    have h2 := (tube_len hV).1
    have h3 := h.1
    simp at h2; omega
  have H1 := hid h1
  obtain ⟨b, off, rfl, hb, hl, hc⟩ := Holds.some_of h h1
  have HB := hid hb
  have HC := hid hc
  obtain ⟨i0, hi, hz0, hz1, hz2⟩ := info_parts infoF
  have HI := hid (And.intro hi (And.intro hz0 (And.intro hz1 hz2)))
  clear h hn hR h1 hb hl hc hi hz0 hz1 hz2
  go_enter Try.func22, Try.ntmps22
  go_wp2_with fail
  refine (l02Is_ext _ _ _ _ _ _ _ zs true _ (Box.ext (box_new (w := w) #[.slice (some ⟨b, off, none⟩) n c, .float .f32 l, .float .f32 t, .float .f32 p] 27) (by (repeat with_reducible (first | exact Ext.refl _ | exact ext_alloc _ _ | refine Ext.drewN ?_ _ | refine Ext.drew1 ?_ | refine Ext.set ?_ (by dsimp only; omega) _ | refine Ext.alloc ?_ _)))) (Holds.ext HH.out (by (repeat with_reducible (first | exact Ext.refl _ | exact ext_alloc _ _ | refine Ext.drewN ?_ _ | refine Ext.drew1 ?_ | refine Ext.set ?_ (by dsimp only; omega) _ | refine Ext.alloc ?_ _)))) HN.out hV).mono ?_
  rintro e w1 ⟨rfl, E1⟩
  have EX1 := hid (show Ext w w1 from Ext.trans (by (repeat with_reducible (first | exact Ext.refl _ | exact ext_alloc _ _ | refine Ext.drewN ?_ _ | refine Ext.drew1 ?_ | refine Ext.set ?_ (by dsimp only; omega) _ | refine Ext.alloc ?_ _))) E1)
  have BA1 := hid (Box.ext (Box.ext (box_new (w := w) #[.slice (some ⟨b, off, none⟩) n c, .float .f32 l, .float .f32 t, .float .f32 p] 27) (by (repeat with_reducible (first | exact Ext.refl _ | exact ext_alloc _ _ | refine Ext.drewN ?_ _ | refine Ext.drew1 ?_ | refine Ext.set ?_ (by dsimp only; omega) _ | refine Ext.alloc ?_ _)))) E1)
  have BR1 := hid (Box.cast (b' := w.heap.size + 1) (Box.ext (Box.ext (box_new (w := (w.alloc (.cells #[.slice (some ⟨b, off, none⟩) n c, .float .f32 l, .float .f32 t, .float .f32 p] 27))) #[.slice none 0 0, .float .f32 0, .float .f32 0, .float .f32 0] 27) (by (repeat with_reducible (first | exact Ext.refl _ | exact ext_alloc _ _ | refine Ext.drewN ?_ _ | refine Ext.drew1 ?_ | refine Ext.set ?_ (by dsimp only; omega) _ | refine Ext.alloc ?_ _)))) E1) (by simp))
  have SZ1 := hid (show w.heap.size + 2 ≤ w1.heap.size from by have := Ext.size E1; simp at this; omega)
  clear E1
  obtain ⟨d0, d1, d2, d3, dl⟩ := Box.cells4 BA1.out
  go_wp2_with fail
  go_loopw [5] (fun i wr => ∃ (k : Nat) (i1 : Int) (ys : List Nat) (v : Value), i1 + (k : Int) + 1 = (n : Int) ∧ (-1 : Int) ≤ i1 ∧ i = .int .i64 i1 ∧ Hid (Own wr (w.heap.size + 2) k v ys) ∧ Hid (v.ownBlock ≠ some (w1.heap.size + 1)) ∧ Hid (ys = zs.reverse.take k) ∧ Hid (Box wr (w1.heap.size + 1) #[v, .float .f32 l, .float .f32 p, .float .f32 t]) ∧ Hid (Box wr w.heap.size #[.slice (some ⟨b, off, none⟩) n c, .float .f32 l, .float .f32 t, .float .f32 p]) ∧ Hid (Box wr (w.heap.size + 1) #[.slice none 0 0, .float .f32 0, .float .f32 0, .float .f32 0]) ∧ Hid (Ext w wr)) (fun i _ => (intOf i + 1).toNat)
  case atStart =>
    have h1 := H1.out
    have h2 := HN.out
    refine ⟨0, (n : Int) - 1, [], .slice (some ⟨w1.heap.size, 0, none⟩) 0 0, by omega, by omega, ?_, hid (Own.alloc (own_fresh (cs := #[]) (zs := []) (hid rfl) rfl rfl SZ1.out (Nat.zero_le _)) _), hid (by show some w1.heap.size ≠ some (w1.heap.size + 1); simp), hid (by simp), hid (Box.cast (box_new _ _) (by simp)), hid (Box.ext BA1.out (by (repeat with_reducible (first | exact Ext.refl _ | exact ext_alloc _ _ | refine Ext.drewN ?_ _ | refine Ext.drew1 ?_ | refine Ext.set ?_ (by dsimp only; omega) _ | refine Ext.alloc ?_ _)))), hid (Box.ext BR1.out (by (repeat with_reducible (first | exact Ext.refl _ | exact ext_alloc _ _ | refine Ext.drewN ?_ _ | refine Ext.drew1 ?_ | refine Ext.set ?_ (by dsimp only; omega) _ | refine Ext.alloc ?_ _)))), hid (Ext.trans EX1.out (by (repeat with_reducible (first | exact Ext.refl _ | exact ext_alloc _ _ | refine Ext.drewN ?_ _ | refine Ext.drew1 ?_ | refine Ext.set ?_ (by dsimp only; omega) _ | refine Ext.alloc ?_ _))))⟩
    congr 1
    unfold wrap64
    omega
  case round =>
    obtain ⟨k, i1, ys, v, hki, him, rfl, ho, hv, hy, hD, hA, hZ, he⟩ := hrel
    have hn2 : n ≤ 1048576 := HN.out
    clear d0 d1 d2 d3 dl
    obtain ⟨d0, d1, d2, d3, dl⟩ := Box.cells4 hA.out
    obtain ⟨y0, y1, y2, y3, yl⟩ := Box.cells4 hD.out
    obtain ⟨va, vc, rfl, vh, vn, vm⟩ := Own.holds ho.out
    have hsz := hid (show w.heap.size + 2 ≤ wr.heap.size from by have := SZ1.out; omega)
    have HOB := hid (Own.block ho.out)
    by_cases hge : 0 ≤ i1
    · obtain ⟨q, rfl⟩ := Int.eq_ofNat_of_zero_le hge
      have e1 := (Below.cell he.out (p := ⟨b, off + q, none⟩) HB.out).trans (HC.out q (by omega))
      have hs := hid (show zs.reverse.take (k + 1) = zs.reverse.take k ++ [zs.getD q 0] from by rw [take_snoc_getD _ _ (by have := HL.out; simp; omega), rev_getD (q := q) HL.out (by omega)])
      generalize zs.getD q 0 = x at e1 hs
      have hi0 : (0 : Int) ≤ (q : Int) := by omega
      have hi1 : (q : Int) < (n : Int) := by omega
      have hkn := hid (show k + 1 ≤ n from by omega)
      go_wp2_with fail
      go_region_law (refine step_append_lies _ rfl _ _ 22 rfl (w.heap.size + 2) 23 i0 (.float .f32 0) 1 4 Try.underlying22 HI.out.1 HI.out.2.1 HI.out.2.2.1 HI.out.2.2.2 rfl (by decide) (.slice va k vc) k (ys.map (Value.float .f32)) (by simp [Act.eval]) (Own.ext ho.out (by (repeat with_reducible (first | exact Ext.refl _ | exact ext_alloc _ _ | refine Ext.drewN ?_ _ | refine Ext.drew1 ?_ | refine Ext.set ?_ (by dsimp only; omega) _ | refine Ext.alloc ?_ _)))) ⟨wr.heap.size, 0, none⟩ 1 1 [.float .f32 x] (by simp [Act.eval]) rfl (fun j u hu => World.news_of_block (heap_alloc_new wr (.cells #[.float .f32 x] 23)) j u hu) (by intro u hu; simp at hu; subst hu; rfl) (by omega) (by have := hkn.out; unfold maxLen; omega) (by have := hkn.out; omega) (by have := hsz.out; simp; omega) _ rfl ?_; intro g cap w3 hown hgrow hat hlt3; have E3 := hid (show Ext w w3 from But.below hgrow (Ext.trans he.out (by (repeat with_reducible (first | exact Ext.refl _ | exact ext_alloc _ _ | refine Ext.drewN ?_ _ | refine Ext.drew1 ?_ | refine Ext.set ?_ (by dsimp only; omega) _ | refine Ext.alloc ?_ _)))) (fun k2 hk2 => by have := (HOB.out k2 hk2).1; omega)); have D3 := hid (But.box hgrow (Box.ext hD.out (by (repeat with_reducible (first | exact Ext.refl _ | exact ext_alloc _ _ | refine Ext.drewN ?_ _ | refine Ext.drew1 ?_ | refine Ext.set ?_ (by dsimp only; omega) _ | refine Ext.alloc ?_ _)))) hv.out); have A3 := hid (But.box hgrow (Box.ext hA.out (by (repeat with_reducible (first | exact Ext.refl _ | exact ext_alloc _ _ | refine Ext.drewN ?_ _ | refine Ext.drew1 ?_ | refine Ext.set ?_ (by dsimp only; omega) _ | refine Ext.alloc ?_ _)))) (fun hk => by have := (HOB.out _ hk).1; omega)); have Z3 := hid (But.box hgrow (Box.ext hZ.out (by (repeat with_reducible (first | exact Ext.refl _ | exact ext_alloc _ _ | refine Ext.drewN ?_ _ | refine Ext.drew1 ?_ | refine Ext.set ?_ (by dsimp only; omega) _ | refine Ext.alloc ?_ _)))) (fun hk => by have := (HOB.out _ hk).1; omega)); have G3 := hid (show g ≠ w1.heap.size + 1 from fun hg => hat.elim (fun h4 => hv.out (by rw [h4, hg])) (fun h4 => by simp at h4; omega)); have O3 := hid (own_snoc22 hown); clear hown hgrow hat; obtain ⟨v0, v1, v2, v3, vf0, vf1, vf2, vf3, vl⟩ := Box.all4 D3.out)
      all_goals
        clear d0 d1 d2 d3 dl y0 y1 y2 y3 yl v0 v1 v2 v3 vf0 vf1 vf2 vf3 vl
        go_wp2_with fail
        have hne := hid (show (Value.slice (some ⟨g, 0, none⟩) (k + 1) cap).ownBlock ≠ some (w1.heap.size + 1) from fun hk => G3.out (Option.some.inj hk))
        have hq2 : w1.heap.size + 1 ≠ w.heap.size := by have := SZ1.out; omega
        have hq3 : w1.heap.size + 1 ≠ w.heap.size + 1 := by have := SZ1.out; omega
        go_roundw
        case rel => exact ⟨k + 1, (q : Int) - 1, ys ++ [x], .slice (some ⟨g, 0, none⟩) (k + 1) cap, by omega, by omega, rfl, hid (Own.far O3.out hne.out _), hne, hid (by rw [hs.out, hy.out]), hid (box_set (j := 0) D3.out _), hid (Box.far A3.out hq2.symm _), hid (Box.far Z3.out hq3.symm _), hid (Ext.set E3.out (by have := SZ1.out; dsimp only; omega) _)⟩
        case measure => first | (simp [intOf]; done) | (simp [intOf]; omega)
    · have hkn : k = n := by omega
      subst hkn
      have hf : ¬ ((0 : Int) ≤ i1) := hge
      have hys := hid (show ys = zs.reverse from by rw [hy.out, List.take_of_length_le (by simp [HL.out])])
      obtain ⟨z0, z1, z2, z3, zf0, zf1, zf2, zf3, zl⟩ := Box.all4 hZ.out
      go_wp2_with fail
      clear z0 z1 z2 z3 zf0 zf1 zf2 zf3 zl
      refine bodyPost_ret (ret_cell2 Try.results22 rfl (box_set4 hZ.out _ _ _ _) Try.underlying27 infoT) rfl ?_
      have HT := tube_own ho.out (by rw [hys.out, List.map_reverse]) (rfl : cls .f32 l = _) (rfl : cls .f32 p = _) (rfl : cls .f32 t = _)
      rw [HR.out] at HT
      exact ⟨_, by rw [← HR.out]; rfl, TubeIs.base (TubeIs.far4 HT (by omega) _ _ _ _) (by omega), ext_set4 he.out (by omega) _ _ _ _⟩
end Go.Proofs.Ytnmigjiaeahekaa
