/- Sounds: copies, sizes, and what is the same. -/
import Derived.Test.YthinjgiakaflpaaF4
namespace Go.Proofs.Ythinjgiakaflpaa
open Go.RowKit Flt
set_option linter.unusedVariables false

theorem Box.cells6 {w : World} {b : Nat} {v0 v1 v2 v3 v4 v5 : Value} (h : Box w b #[v0, v1, v2, v3, v4, v5]) :
    w.cell? ⟨b, 0, none⟩ = some v0 ∧ w.cell? ⟨b, 1, none⟩ = some v1 ∧ w.cell? ⟨b, 2, none⟩ = some v2 ∧ w.cell? ⟨b, 3, none⟩ = some v3 ∧ w.cell? ⟨b, 4, none⟩ = some v4 ∧ w.cell? ⟨b, 5, none⟩ = some v5 ∧ b < w.heap.size := ⟨h.cell 0, h.cell 1, h.cell 2, h.cell 3, h.cell 4, h.cell 5, h.lt⟩
theorem Box.all6 {w : World} {b : Nat} {v0 v1 v2 v3 v4 v5 : Value} (h : Box w b #[v0, v1, v2, v3, v4, v5]) :
    w.cell? ⟨b, 0, none⟩ = some v0 ∧ w.cell? ⟨b, 1, none⟩ = some v1 ∧ w.cell? ⟨b, 2, none⟩ = some v2 ∧ w.cell? ⟨b, 3, none⟩ = some v3 ∧ w.cell? ⟨b, 4, none⟩ = some v4 ∧ w.cell? ⟨b, 5, none⟩ = some v5 ∧ w.frozen? ⟨b, 0, none⟩ = false ∧ w.frozen? ⟨b, 1, none⟩ = false ∧ w.frozen? ⟨b, 2, none⟩ = false ∧ w.frozen? ⟨b, 3, none⟩ = false ∧ w.frozen? ⟨b, 4, none⟩ = false ∧ w.frozen? ⟨b, 5, none⟩ = false ∧ b < w.heap.size := ⟨h.cell 0, h.cell 1, h.cell 2, h.cell 3, h.cell 4, h.cell 5, h.frozen 0, h.frozen 1, h.frozen 2, h.frozen 3, h.frozen 4, h.frozen 5, h.lt⟩

theorem box_set6 {w : World} {b : Nat} {v0 v1 v2 v3 v4 v5 : Value} (h : Box w b #[v0, v1, v2, v3, v4, v5]) (u0 u1 u2 u3 u4 u5 : Value) : Box ((((((w.setCell ⟨b, 0, none⟩ u0).setCell ⟨b, 1, none⟩ u1).setCell ⟨b, 2, none⟩ u2).setCell ⟨b, 3, none⟩ u3).setCell ⟨b, 4, none⟩ u4).setCell ⟨b, 5, none⟩ u5) b #[u0, u1, u2, u3, u4, u5] :=
  Box.eqv (box_set (j := 5) (box_set (j := 4) (box_set (j := 3) (box_set (j := 2) (box_set (j := 1) (box_set (j := 0) h u0) u1) u2) u3) u4) u5) (by rfl)
theorem szSound_yes (s : ByteArray) (a : Option Addr) (n c lo ra vo no : Nat) (k : Int) (hk0 : (s.size : Int) + (n : Int) ≤ k) (hk : k ≤ 1048576) (w : World) :
    Calls Try.prog 21 #[.agg #[.string s, .slice a n c, .float .f32 lo, .float .f32 ra, .float .f32 vo, .float .f32 no], .int .i64 k] w fun e w' => e = .returned (.int .i64 (k - s.size - n)) ∧ Ext w w' := by
  have h0 : ¬ k - (s.size : Int) < 0 := by omega
  have h1 : ¬ k - (s.size : Int) - n < 0 := by omega
  go_enter Try.func21, Try.ntmps21
  go_wp2_with (go_at_call 70; refine (szF_yes _ _ _ _ (by omega) (by omega) _).mono ?_; rintro e w' ⟨rfl, rfl⟩)
  go_ret
  exact ⟨rfl, ext_alloc _ _⟩
theorem szSound_no1 (s : ByteArray) (a : Option Addr) (n c lo ra vo no : Nat) (k : Int) (hs : s.size ≤ 9223372036854775807) (hk0 : k < (s.size : Int)) (hk1 : 0 ≤ k) (w : World) :
    Calls Try.prog 21 #[.agg #[.string s, .slice a n c, .float .f32 lo, .float .f32 ra, .float .f32 vo, .float .f32 no], .int .i64 k] w fun e w' => e = .returned (.int .i64 (-1)) ∧ Ext w w' := by
  have h0 : k - (s.size : Int) < 0 := by omega
  go_enter Try.func21, Try.ntmps21
  go_wp2_with fail
  go_ret
  exact ⟨rfl, ext_alloc _ _⟩
theorem szSound_no2 (s : ByteArray) (a : Option Addr) (n c lo ra vo no : Nat) (k : Int) (hn : n ≤ maxLen) (hk : k ≤ 1048576) (hk0 : (s.size : Int) ≤ k) (hk1 : k - s.size < (n : Int)) (w : World) :
    Calls Try.prog 21 #[.agg #[.string s, .slice a n c, .float .f32 lo, .float .f32 ra, .float .f32 vo, .float .f32 no], .int .i64 k] w fun e w' => e = .returned (.int .i64 (-1)) ∧ Ext w w' := by
  have h0 : ¬ k - (s.size : Int) < 0 := by omega
  go_enter Try.func21, Try.ntmps21
  go_wp2_with (go_at_call 70; refine (szF_no _ _ _ _ hn hk1 (by omega) _).mono ?_; rintro e w' ⟨rfl, rfl⟩)
  go_ret
  exact ⟨rfl, ext_alloc _ _⟩
set_option maxHeartbeats 2000000 in
theorem toSound_any (s : ByteArray) (a : Option Addr) (n c lo ra vo no : Nat) (zs : List Nat) (w : World) (h : IsRowF .f32 w a n c zs) (hl : n ≤ 1048576) :
    Calls Try.prog 23 #[.agg #[.string s, .slice a n c, .float .f32 lo, .float .f32 ra, .float .f32 vo, .float .f32 no]] w fun e w' => ∃ b, e = .returned (.agg #[.string s, .slice (some ⟨b, 0, none⟩) n n, .float .f32 lo, .float .f32 ra, .float .f32 vo, .float .f32 no]) ∧ Own w' w.heap.size n (.slice (some ⟨b, 0, none⟩) n n) (zs.take n) ∧ Ext w w' := by
  have HW := hid h
  have hz := (holds_row h).1
  have HZ := hid hz
  clear h hz
  go_enter Try.func23, Try.ntmps23
  go_wp2_with fail
  refine (toFloat32S_any _ _ _ zs _ (IsRowF.ext HW.out (by (repeat with_reducible (first | exact Ext.refl _ | exact ext_alloc _ _ | refine Ext.drewN ?_ _ | refine Ext.drew1 ?_ | refine Ext.set ?_ (by dsimp only; omega) _ | refine Ext.alloc ?_ _)))) hl).mono ?_
  rintro e w1 ⟨cs, rfl, hcs, rfl⟩
  go_wp2_with fail
  go_returns
  exact ⟨_, rfl, own_fresh hcs HZ.out (by simp) (by simp; omega) (by unfold maxLen; omega), by (repeat with_reducible (first | exact Ext.refl _ | exact ext_alloc _ _ | refine Ext.drewN ?_ _ | refine Ext.drew1 ?_ | refine Ext.set ?_ (by dsimp only; omega) _ | refine Ext.alloc ?_ _))⟩
set_option maxHeartbeats 4000000 in
set_option maxRecDepth 100000 in
theorem eqSound_yes (s : ByteArray) (a1 a2 : Option Addr) (n c1 c2 lo1 ra1 vo1 no1 lo2 ra2 vo2 no2 : Nat) (xs ys : List Nat) (w : World) (h1 : Holds .f32 w a1 n xs) (h2 : Holds .f32 w a2 n ys) (hn : n ≤ 1048576)
    (he : xs.map (cls .f32) = ys.map (cls .f32)) (hl : cls .f32 lo1 = cls .f32 lo2) (hr : cls .f32 ra1 = cls .f32 ra2) (hv : cls .f32 vo1 = cls .f32 vo2) (ho : cls .f32 no1 = cls .f32 no2) :
    Calls Try.prog 25 #[.agg #[.string s, .slice a1 n c1, .float .f32 lo1, .float .f32 ra1, .float .f32 vo1, .float .f32 no1], .agg #[.string s, .slice a2 n c2, .float .f32 lo2, .float .f32 ra2, .float .f32 vo2, .float .f32 no2]] w fun e w' => e = .returned (.bool true) ∧ Ext w w' := by
  have H1 := hid h1
  have H2 := hid h2
  have HE := hid (map_cls_get he)
  have HL := hid hl
  have HR := hid hr
  have HV := hid hv
  have HO := hid ho
  have HN := hid hn
  clear h1 h2 he hl hr hv ho hn
  go_enter Try.func25, Try.ntmps25
  go_wp2_with fail
  refine (eqFloat32S_yes _ _ _ _ _ xs ys _ ((H1.out.alloc _).alloc _) ((H2.out.alloc _).alloc _) HN.out (fun i _ => HE.out i)).mono ?_
  rintro e w' ⟨rfl, m, rfl⟩
  go_wp2_with (first
    | (refine wpList_widen rfl rfl Try.underlying22 Try.underlying26 rfl ?_; intro r m hr hrw)
    | (go_at_call 17; refine (sameFloat_yes _ _ _ (by assumption) (by first | (rw [HL.out]; assumption) | (rw [HR.out]; assumption) | (rw [HV.out]; assumption) | (rw [HO.out]; assumption)) _).mono ?_; rintro e w' ⟨rfl, m, rfl⟩))
  go_ret
  exact ⟨rfl, ((ext_alloc _ _).alloc _).drewN _⟩
theorem markSound_any (s : ByteArray) (a : Option Addr) (n c lo ra vo no : Nat) (k B : Nat) (zs : List Nat) (w : World) (h : Own w B n (.slice a n c) zs) (hn : n ≤ 1048576) (hk : k ≤ 1099511627776) :
    Calls Try.prog 35 #[.agg #[.string s, .slice a n c, .float .f32 lo, .float .f32 ra, .float .f32 vo, .float .f32 no], .int .i64 k] w fun e w' => e = .returned (.int .i64 ((k + n : Nat) : Int)) ∧ Own w' B n (.slice a n c) (marks k n) ∧ But (Value.slice a n c).ownBlock w w' := by
  have HH := hid h
  clear h
  go_enter Try.func35, Try.ntmps35
  go_wp2_with fail
  refine (markF_any _ _ _ _ _ zs _ (HH.out.alloc _) hn hk).mono ?_
  rintro e w' ⟨rfl, ho, hb⟩
  have HO := hid ho
  have HB := hid hb
  clear ho hb
  go_wp2
  go_ret
  exact ⟨rfl, HO.out, ((ext_alloc _ _).but _).trans HB.out⟩

end Go.Proofs.Ythinjgiakaflpaa
