/- Rows of accents. -/
import Derived.Test.YthinjgiakaflpabT18
import Derived.Test.YthinjgiakaflpabR2
namespace Go.Proofs.Ythinjgiakaflpab
open Go.RowKit Flt
set_option linter.unusedVariables false


/-- a row of accents reads as these numbers, three an accent -/
def Cell3 (w : World) (b o : Nat) (x y z : Nat) : Prop := w.cell? ⟨b, o, none⟩ = some (.float .f32 x) ∧ w.cell? ⟨b, o + 1, none⟩ = some (.float .f32 y) ∧ w.cell? ⟨b, o + 2, none⟩ = some (.float .f32 z)
def HoldsA (w : World) (a : Option Addr) (n : Nat) (zs : List Nat) : Prop :=
  zs.length = n * 3 ∧ (n = 0 ∨ ∃ b off, a = some ⟨b, off, none⟩ ∧ b < w.heap.size ∧ ∀ i, i < n → Cell3 w b (off + i * 3) (zs.getD (i * 3) 0) (zs.getD (i * 3 + 1) 0) (zs.getD (i * 3 + 2) 0))
theorem HoldsA.ext {w w' : World} {a : Option Addr} {n : Nat} {zs : List Nat} (h : HoldsA w a n zs) (e : Ext w w') : HoldsA w' a n zs := by
  refine ⟨h.1, h.2.imp id ?_⟩
  rintro ⟨b, off, rfl, hb, hc⟩
  refine ⟨b, off, rfl, Nat.lt_of_lt_of_le hb e.size, fun i hi => ?_⟩
  obtain ⟨h0, h1, h2⟩ := hc i hi
  exact ⟨(Below.cell e (p := ⟨b, _, none⟩) hb).trans h0, (Below.cell e (p := ⟨b, _, none⟩) hb).trans h1, (Below.cell e (p := ⟨b, _, none⟩) hb).trans h2⟩
/-- a slice of accents of the call's own -/
def OwnA (w : World) (B n : Nat) (v : Value) (zs : List Nat) : Prop := w.ownsRow B 35 3 v n (zs.map (Value.float .f32))
theorem OwnA.ext {w w' : World} {B n : Nat} {v : Value} {zs : List Nat} (h : OwnA w B n v zs) (e : Ext w w') : OwnA w' B n v zs := by
  refine ⟨h.1, ?_⟩
  rcases h.2 with h0 | ⟨g, cap, cur, rfl, hb, hg, hr⟩
  · exact .inl h0
  · refine .inr ⟨g, cap, cur, rfl, hb, ?_, hr⟩
    rw [Below.block e g (Array.getElem?_eq_some_iff.1 hg).1]; exact hg
theorem OwnA.base {w : World} {B B' n : Nat} {v : Value} {zs : List Nat} (h : OwnA w B n v zs) (hB : B' ≤ B) : OwnA w B' n v zs := by
  refine ⟨h.1, h.2.imp id ?_⟩
  rintro ⟨g, cap, cur, rfl, hb, r⟩
  exact ⟨g, cap, cur, rfl, Nat.le_trans hB hb, r⟩
theorem OwnA.block {w : World} {B n : Nat} {v : Value} {zs : List Nat} (h : OwnA w B n v zs) : ∀ k, v.ownBlock = some k → B ≤ k ∧ k < w.heap.size := World.ownsRow.lt h
theorem But.ownA {o : Option Nat} {w w' : World} (h : But o w w') {B n : Nat} {v : Value} {zs : List Nat} (hv : OwnA w B n v zs) (hn : ∀ k, v.ownBlock = some k → o ≠ some k) : OwnA w' B n v zs := by
  refine ⟨hv.1, ?_⟩
  rcases hv.2 with h0 | ⟨g, cap, cur, rfl, hb, hg, hr⟩
  · exact .inl h0
  · exact .inr ⟨g, cap, cur, rfl, hb, by rw [h.block g (Array.getElem?_eq_some_iff.1 hg).1 (Ne.symm (hn g rfl))]; exact hg, hr⟩
theorem ownA_hold {w : World} {B n c : Nat} {a : Option Addr} {zs : List Nat} (h : OwnA w B n (.slice a n c) zs) : HoldsA w a n zs := by
  have hl : zs.length = n * 3 := by simpa using h.1
  refine ⟨hl, ?_⟩
  rcases h.2 with ⟨_, h0⟩ | ⟨g, cap, cur, hv, hb, hg, hn, hm, hs, ht⟩
  · exact .inl h0
  · right
    simp only [Value.slice.injEq] at hv
    obtain ⟨rfl, _, _⟩ := hv
    have key : ∀ j, j < n * 3 → w.cell? ⟨g, 0 + j, none⟩ = some (.float .f32 (zs.getD j 0)) := by
      intro j hj
      rw [cell_of_row w g (0 + j) cur _ (0, 0) hg, Nat.zero_add]
      have h1 : (cur.toList.take (n * 3))[j]? = some (.float .f32 (zs.getD j 0)) := by
        rw [ht]; simp [List.getD, hl, hj]
      rw [List.getElem?_take, if_pos hj] at h1
      simpa using h1
    refine ⟨g, 0, rfl, (Array.getElem?_eq_some_iff.1 hg).1, fun i hi => ⟨?_, ?_, ?_⟩⟩
    · exact key (i * 3) (by omega)
    · exact key (i * 3 + 1) (by omega)
    · exact key (i * 3 + 2) (by omega)
def IsRowA (w : World) (a : Option Addr) (n cap : Nat) (zs : List Nat) : Prop :=
  (a = none ∧ n = 0 ∧ cap = 0 ∧ zs = []) ∨
  ∃ x, a = some x ∧ n ≤ cap ∧ cap ≤ maxLen ∧ zs.length = cap * 3 ∧ (∀ i, i < cap * 3 → w.cell? (x.add i) = some (.float .f32 (zs.getD i 0))) ∧ ∀ q ∈ zs, (Lit.float .f32 q).wf = true
theorem rowA_max {w : World} {a : Option Addr} {n c : Nat} {zs : List Nat} (h : IsRowA w a n c zs) : n ≤ maxLen := by
  rcases h with ⟨_, rfl, _⟩ | ⟨x, _, h1, h2, _⟩
  · exact Nat.zero_le _
  · omega
theorem szA_yes (a : Option Addr) (n c : Nat) (k : Int) (hk0 : (n : Int) ≤ k) (hk : k ≤ 1048576) (w : World) :
    Calls Try.prog 73 #[.slice a n c, .int .i64 k] w fun e w' => e = .returned (.int .i64 (k - n)) ∧ w = w' := by
  have h0 : ¬ k - n < 0 := by omega
  go_enter Try.func73, Try.ntmps73
  go_wp2
  go_ret
  exact ⟨rfl, rfl⟩
theorem szA_no (a : Option Addr) (n c : Nat) (k : Int) (hn : n ≤ maxLen) (hk0 : k < (n : Int)) (hk1 : 0 ≤ k) (w : World) :
    Calls Try.prog 73 #[.slice a n c, .int .i64 k] w fun e w' => e = .returned (.int .i64 (-1)) ∧ w = w' := by
  have h0 : k - n < 0 := by omega
  have h1 : (n : Int) ≤ 9223372036854775807 := by simp [maxLen] at hn; omega
  go_enter Try.func73, Try.ntmps73
  go_wp2
  go_ret
  exact ⟨rfl, rfl⟩
theorem szTune_yes (b f r : Nat) (a : Option Addr) (n c : Nat) (k : Int) (hk0 : (n : Int) ≤ k) (hk : k ≤ 1048576) (w : World) :
    Calls Try.prog 15 #[.agg #[.float .f32 b, .float .f32 f, .float .f32 r, .slice a n c], .int .i64 k] w fun e w' => e = .returned (.int .i64 (k - n)) ∧ Ext w w' := by
  have h0 : ¬ k - n < 0 := by omega
  go_enter Try.func15, Try.ntmps15
  go_wp2_with (go_at_call 73; refine (szA_yes _ _ _ _ hk0 hk _).mono ?_; rintro e w' ⟨rfl, rfl⟩)
  go_ret
  exact ⟨rfl, ext_alloc _ _⟩
theorem szTune_no (b f r : Nat) (a : Option Addr) (n c : Nat) (k : Int) (hn : n ≤ maxLen) (hk0 : k < (n : Int)) (hk1 : 0 ≤ k) (w : World) :
    Calls Try.prog 15 #[.agg #[.float .f32 b, .float .f32 f, .float .f32 r, .slice a n c], .int .i64 k] w fun e w' => e = .returned (.int .i64 (-1)) ∧ Ext w w' := by
  go_enter Try.func15, Try.ntmps15
  go_wp2_with (go_at_call 73; refine (szA_no _ _ _ _ hn hk0 hk1 _).mono ?_; rintro e w' ⟨rfl, rfl⟩)
  go_ret
  exact ⟨rfl, ext_alloc _ _⟩
set_option maxHeartbeats 2000000 in
theorem eqAccent_yes (x1 y1 z1 x2 y2 z2 : Nat) (w : World) (h1 : cls .f32 x1 = cls .f32 x2) (h2 : cls .f32 y1 = cls .f32 y2) (h3 : cls .f32 z1 = cls .f32 z2) :
    Calls Try.prog 132 #[.agg #[.float .f32 x1, .float .f32 y1, .float .f32 z1], .agg #[.float .f32 x2, .float .f32 y2, .float .f32 z2]] w fun e w' => e = .returned (.bool true) ∧ Ext w w' := by
  have H1 := hid h1
  have H2 := hid h2
  have H3 := hid h3
  clear h1 h2 h3
  go_enter Try.func132, Try.ntmps132
  go_wp2_with (first
    | (refine wpList_widen rfl rfl Try.underlying22 Try.underlying107 rfl ?_; intro r m hr hrw)
    | (go_at_call 80; refine (sameFloat_yes _ _ _ (by assumption) (by first | (rw [H1.out]; assumption) | (rw [H2.out]; assumption) | (rw [H3.out]; assumption)) _).mono ?_; rintro e w' ⟨rfl, m, rfl⟩))
  go_ret
  refine ⟨rfl, ?_⟩
  (repeat with_reducible (first | exact Ext.refl _ | exact ext_alloc _ _ | refine Ext.drewN ?_ _ | refine Ext.drew1 ?_ | refine Ext.set ?_ (by dsimp only; omega) _ | refine Ext.alloc ?_ _))
/-- the block of a row of accents -/
def RowB (w : World) (g : Nat) (cur : Array Value) : Prop := w.heap[g]? = some (.cells cur 35 (0, 0))
theorem RowB.ext {w w' : World} {g : Nat} {cur : Array Value} (h : RowB w g cur) (e : Ext w w') : RowB w' g cur := by
  unfold RowB at *
  rw [Below.block e g (Array.getElem?_eq_some_iff.1 h).1]; exact h
theorem RowB.lt {w : World} {g : Nat} {cur : Array Value} (h : RowB w g cur) : g < w.heap.size := (Array.getElem?_eq_some_iff.1 h).1
theorem RowB.cell {w : World} {g : Nat} {cur : Array Value} (h : RowB w g cur) (j : Nat) : w.cell? ⟨g, j, none⟩ = cur[j]? := cell_of_row w g j cur _ (0, 0) h
theorem RowB.frozen {w : World} {g : Nat} {cur : Array Value} (h : RowB w g cur) (j : Nat) : w.frozen? ⟨g, j, none⟩ = false := frozen_of_row w g j cur _ h
theorem RowB.set {w : World} {g j : Nat} {cur : Array Value} (h : RowB w g cur) (u : Value) : RowB (w.setCell ⟨g, j, none⟩ u) g (cur.setIfInBounds j u) := heap_setCell_same w g j cur _ u h
theorem RowB.all {w : World} {g k n : Nat} {cur : Array Value} (h : RowB w g cur) (hs : cur.size = n * 3) (hk : k < n) : ∃ u0 u1 u2, w.cell? ⟨g, k * 3, none⟩ = some u0 ∧ w.cell? ⟨g, k * 3 + 1, none⟩ = some u1 ∧ w.cell? ⟨g, k * 3 + 2, none⟩ = some u2 ∧ w.frozen? ⟨g, k * 3, none⟩ = false ∧ w.frozen? ⟨g, k * 3 + 1, none⟩ = false ∧ w.frozen? ⟨g, k * 3 + 2, none⟩ = false :=
  ⟨cur[k * 3]'(by omega), cur[k * 3 + 1]'(by omega), cur[k * 3 + 2]'(by omega), by rw [h.cell]; simp, by rw [h.cell]; simp, by rw [h.cell]; simp, h.frozen _, h.frozen _, h.frozen _⟩
theorem take3 {cur : Array Value} {n k : Nat} (x y z : Value) (hs : cur.size = n * 3) (hk : k < n) :
    (((cur.setIfInBounds (k * 3) x).setIfInBounds (k * 3 + 1) y).setIfInBounds (k * 3 + 2) z).toList.take ((k + 1) * 3) = cur.toList.take (k * 3) ++ [x, y, z] := by
  have hl : cur.toList.length = n * 3 := by simpa using hs
  simp only [Array.toList_setIfInBounds]
  generalize cur.toList = L at hl
  apply List.ext_getElem?
  intro i
  rw [List.getElem?_take]
  by_cases h1 : i < k * 3
  · rw [if_pos (by omega), List.getElem?_append_left (by simp; omega), List.getElem?_take, if_pos h1, List.getElem?_set_ne (by omega), List.getElem?_set_ne (by omega), List.getElem?_set_ne (by omega)]
  · rw [List.getElem?_append_right (by simp; omega)]
    have hm : min (k * 3) L.length = k * 3 := by omega
    simp only [List.length_take, hm]
    by_cases h2 : i < (k + 1) * 3
    · rw [if_pos h2]
      have h3 : i = k * 3 ∨ i = k * 3 + 1 ∨ i = k * 3 + 2 := by omega
      rcases h3 with rfl | rfl | rfl
      · rw [List.getElem?_set_ne (by omega), List.getElem?_set_ne (by omega), List.getElem?_set_self (by omega)]; simp
      · rw [List.getElem?_set_ne (by omega), List.getElem?_set_self (by simp; omega)]; simp
      · rw [List.getElem?_set_self (by simp; omega)]; simp
    · rw [if_neg h2]
      symm
      rw [List.getElem?_eq_none]
      simp; omega
theorem take3_list {ys : List Nat} {n k : Nat} (hl : ys.length = n * 3) (hk : k < n) : (ys.take ((k + 1) * 3)).map (Value.float .f32) = (ys.take (k * 3)).map (Value.float .f32) ++ [.float .f32 (ys.getD (k * 3) 0), .float .f32 (ys.getD (k * 3 + 1) 0), .float .f32 (ys.getD (k * 3 + 2) 0)] := by
  have e : (k + 1) * 3 = k * 3 + 1 + 1 + 1 := by omega
  rw [e, take_snoc_getD _ _ (by omega), take_snoc_getD _ _ (by omega), take_snoc_getD _ _ (by omega)]
  simp
theorem infoAc : (Try.prog.info? 35).map (fun i => (i.zero, i.size, i.bytes)) = some (some (.agg #[.float .f32 0, .float .f32 0, .float .f32 0]), 3, 12) := by kernel_rfl
set_option maxHeartbeats 4000000 in
set_option maxRecDepth 100000 in
theorem toAccentS_any (a : Option Addr) (n c : Nat) (ys : List Nat) (w : World) (h : HoldsA w a n ys) (hn : n ≤ 1048576) :
    Calls Try.prog 77 #[.slice a n c] w fun e w' => ∃ b, e = .returned (.slice (some ⟨b, 0, none⟩) n n) ∧ OwnA w' w.heap.size n (.slice (some ⟨b, 0, none⟩) n n) ys ∧ Ext w w' := by
  have hmk : ∃ cur : Array Value, cur.size = n * 3 ∧ (Instr.makeSlice 29 (.int .i64 (n : Int)) (.int .i64 (n : Int))).run Try.prog w = .ok (.slice (some ⟨w.heap.size, 0, none⟩) n n) (w.alloc (.cells cur 35)) := by
    cases hi : Try.prog.info? 35 with
    | none => have h9 := infoAc; rw [hi] at h9; cases h9
    | some i0 =>
      have h9 := infoAc
      rw [hi] at h9
      simp only [Option.map_some, Option.some.injEq, Prod.mk.injEq] at h9
      obtain ⟨hz0, hz1, hz2⟩ := h9
      have := run_make (P := Try.prog) w 29 35 i0 _ Try.underlying29 hi hz0 .i64 .i64 (n : Int) (n : Int) (by omega) (by omega) (by rw [hz2]; omega) (by omega)
      rw [hz1] at this
      exact ⟨_, size_madeCells _ _, by simpa using this⟩
  obtain ⟨cur0, hc0, hmk⟩ := hmk
  have HH := hid h
  have HN := hid hn
  have HL := hid h.1
  clear h hn
  go_enter Try.func77, Try.ntmps77
  go_wp2
  go_loopw [4] (fun i wr => ∃ (k : Nat) (cur : Array Value), k ≤ n ∧ i = .int .i64 k ∧ Hid (RowB wr w.heap.size cur) ∧ Hid (cur.size = n * 3) ∧ Hid (cur.toList.take (k * 3) = (ys.take (k * 3)).map (Value.float .f32)) ∧ Hid (Ext w wr)) (fun i _ => n - (intOf i).toNat)
  case atStart => exact ⟨0, cur0, Nat.zero_le _, rfl, hid (heap_alloc_new _ _), hid hc0, hid (by simp), hid (ext_alloc _ _)⟩
  case round =>
    obtain ⟨k, cur, hk, rfl, hb, hs, ht, he⟩ := hrel
    clear hmk
    have hn2 : n ≤ 1048576 := HN.out
    by_cases hlt : k < n
    · obtain ⟨_, h0 | ⟨b, off, rfl, hbl, hcell⟩⟩ := HoldsA.ext HH.out he.out
      · omega
      obtain ⟨e0, e1, e2⟩ := hcell k hlt
      clear hcell
      have HT3 := hid (take3_list HL.out hlt)
      generalize ys.getD (k * 3) 0 = x at e0 HT3
      generalize ys.getD (k * 3 + 1) 0 = y at e1 HT3
      generalize ys.getD (k * 3 + 2) 0 = z at e2 HT3
      have hi0 : (0 : Int) ≤ (k : Int) := by omega
      have hi1 : (k : Int) < (n : Int) := by omega
      go_wp2_with fail
      refine (toAccent_any x y z _).mono ?_
      rintro e w1 ⟨rfl, E1⟩
      have HB1 := hid (RowB.ext hb.out E1)
      have HE1 := hid (Ext.trans he.out E1)
      clear E1 e0 e1 e2
      obtain ⟨u0, u1, u2, c0, c1, c2, f0, f1, f2⟩ := RowB.all HB1.out hs.out hlt
      go_wp2_with fail
      clear c0 c1 c2 f0 f1 f2
      go_roundw
      case rel => exact ⟨k + 1, _, by omega, by go_num, hid (RowB.set (RowB.set (RowB.set HB1.out _) _) _), hid (by simp [hs.out]), hid (by rw [take3 _ _ _ hs.out hlt, ht.out, HT3.out]), hid (Ext.set (Ext.set (Ext.set HE1.out (Nat.le_refl _) _) (Nat.le_refl _) _) (Nat.le_refl _) _)⟩
      case measure => simp [intOf]; omega
    · have hkn : k = n := by omega
      subst hkn
      go_wp2_with fail
      go_ret
      refine ⟨w.heap.size, rfl, ⟨by simp [HL.out], .inr ⟨w.heap.size, k, cur, rfl, Nat.le_refl _, hb.out, Nat.le_refl _, by have := HN.out; unfold maxLen; omega, hs.out, ?_⟩⟩, he.out⟩
      rw [ht.out, List.take_of_length_le (by rw [HL.out]; exact Nat.le_refl _)]
set_option maxHeartbeats 4000000 in
set_option maxRecDepth 100000 in
theorem eqAccentS_yes (a1 a2 : Option Addr) (n c1 c2 : Nat) (xs : List Nat) (w : World) (h1 : HoldsA w a1 n xs) (h2 : HoldsA w a2 n xs) (hn : n ≤ 1048576) :
    Calls Try.prog 81 #[.slice a1 n c1, .slice a2 n c2] w fun e w' => e = .returned (.bool true) ∧ Ext w w' := by
  have H1 := hid h1
  have H2 := hid h2
  have HN := hid hn
  clear h1 h2 hn
  go_enter Try.func81, Try.ntmps81
  go_wp2
  go_loopw [5] (fun i wr => ∃ (k : Nat), k ≤ n ∧ i = .int .i64 k ∧ Hid (Ext w wr)) (fun i _ => n - (intOf i).toNat)
  case atStart => exact ⟨0, Nat.zero_le _, rfl, hid (Ext.refl _)⟩
  case round =>
    obtain ⟨k, hk, rfl, he⟩ := hrel
    have hn2 : n ≤ 1048576 := HN.out
    by_cases hlt : k < n
    · obtain ⟨_, h0 | ⟨b, off, rfl, hbl, hcell⟩⟩ := HoldsA.ext H1.out he.out
      · omega
      obtain ⟨_, h0 | ⟨b2, off2, rfl, hbl2, hcell2⟩⟩ := HoldsA.ext H2.out he.out
      · omega
      obtain ⟨e0, e1, e2⟩ := hcell k hlt
      obtain ⟨g0, g1, g2⟩ := hcell2 k hlt
      have BX := hid (And.intro (And.intro e0 (And.intro e1 e2)) (And.intro g0 (And.intro g1 g2)))
      clear hcell hcell2
      generalize xs.getD (k * 3) 0 = x at e0 g0 BX
      generalize xs.getD (k * 3 + 1) 0 = y at e1 g1 BX
      generalize xs.getD (k * 3 + 2) 0 = z at e2 g2 BX
      have hi0 : (0 : Int) ≤ (k : Int) := by omega
      have hi1 : (k : Int) < (n : Int) := by omega
      have HBL := hid (And.intro hbl hbl2)
      go_wp2_with fail
      go_region_held3 (fun w' => (w'.cell? ⟨b, off + k * 3, none⟩ = some (.float .f32 x) ∧ w'.cell? ⟨b, off + k * 3 + 1, none⟩ = some (.float .f32 y) ∧ w'.cell? ⟨b, off + k * 3 + 2, none⟩ = some (.float .f32 z)) ∧ (w'.cell? ⟨b2, off2 + k * 3, none⟩ = some (.float .f32 x) ∧ w'.cell? ⟨b2, off2 + k * 3 + 1, none⟩ = some (.float .f32 y) ∧ w'.cell? ⟨b2, off2 + k * 3 + 2, none⟩ = some (.float .f32 z)))
        (first | (refine keep_of (c := wr) (S := fun w' => (w'.cell? ⟨b, off + k * 3, none⟩ = some (.float .f32 x) ∧ w'.cell? ⟨b, off + k * 3 + 1, none⟩ = some (.float .f32 y) ∧ w'.cell? ⟨b, off + k * 3 + 2, none⟩ = some (.float .f32 z)) ∧ (w'.cell? ⟨b2, off2 + k * 3, none⟩ = some (.float .f32 x) ∧ w'.cell? ⟨b2, off2 + k * 3 + 1, none⟩ = some (.float .f32 y) ∧ w'.cell? ⟨b2, off2 + k * 3 + 2, none⟩ = some (.float .f32 z))) (fun u hu => ⟨⟨(Below.cell hu (p := ⟨b, _, none⟩) hbl).trans BX.out.1.1, (Below.cell hu (p := ⟨b, _, none⟩) hbl).trans BX.out.1.2.1, (Below.cell hu (p := ⟨b, _, none⟩) hbl).trans BX.out.1.2.2⟩, ⟨(Below.cell hu (p := ⟨b2, _, none⟩) hbl2).trans BX.out.2.1, (Below.cell hu (p := ⟨b2, _, none⟩) hbl2).trans BX.out.2.2.1, (Below.cell hu (p := ⟨b2, _, none⟩) hbl2).trans BX.out.2.2.2⟩⟩) ?_; (repeat with_reducible (first | exact Ext.refl _ | exact ext_alloc _ _ | refine Ext.trans ?_ E1 | refine Ext.drewN ?_ _ | refine Ext.drew1 ?_ | refine Ext.alloc ?_ _)); done))
        (first | (go_at_call 132; refine (eqAccent_yes x y z x y z _ rfl rfl rfl).mono ?_; rintro e w1 ⟨rfl, E1⟩))
      have HE1 := hid (show Ext w w1 from Ext.trans he.out (Ext.trans (by (repeat with_reducible (first | exact Ext.refl _ | exact ext_alloc _ _ | refine Ext.drewN ?_ _ | refine Ext.drew1 ?_ | refine Ext.set ?_ (by dsimp only; omega) _ | refine Ext.alloc ?_ _))) E1))
      clear E1
      go_wp2_with fail
      go_roundw
      case rel => exact ⟨k + 1, by omega, by go_num, HE1⟩
      case measure => simp [intOf]; omega
    · have hkn : k = n := by omega
      subst hkn
      go_wp2_with fail
      go_ret
      exact ⟨rfl, he.out⟩

end Go.Proofs.Ythinjgiakaflpab
