/- The narrowest section of a tube. -/
import Derived.Test.YtogjehlepdapoabT4
import Derived.Deep.RegionHeld3
namespace Go.Proofs.Ytogjehlepdapoab
open Go.RowKit Flt

/-- the first of the least among the first k -/
def bestF (zs : List Nat) : Nat → Nat
  | 0 => 0
  | k + 1 => if (FloatKind.f32.format.order (zs.getD k 0) (zs.getD (bestF zs k) 0) == some .lt) = true then k else bestF zs k
theorem best_lt (zs : List Nat) (n : Nat) (h1 : 1 ≤ n) : ∀ k, k ≤ n → bestF zs k < n
  | 0, _ => h1
  | k + 1, hk => by
    unfold bestF
    split
    · omega
    · exact best_lt zs n h1 k (by omega)
theorem best_one (zs : List Nat) : bestF zs 1 = 0 := by
  unfold bestF
  split <;> rfl
def narR (zs : List Nat) (l t p : Option Nat) : Nat × Nat × Bool := if tubeC (zs.map (cls .f32)) l t p then (bestF zs zs.length, zs.getD (bestF zs zs.length) 0, true) else (0, 0, false)

set_option maxHeartbeats 1000000 in
theorem narrowest_any (a : Option Addr) (n c l t p : Nat) (zs : List Nat) (I R : Nat) (O : Bool) (w : World) (h : Holds .f32 w a n zs) (hn : n ≤ 1048576) (hR : narR zs (cls .f32 l) (cls .f32 t) (cls .f32 p) = (I, R, O)) :
    Calls Try.prog 26 #[.agg #[.slice a n c, .float .f32 l, .float .f32 t, .float .f32 p]] w fun e w' => e = .returned (.tuple #[.int .i64 (I : Int), .float .f32 R, .bool O]) ∧ Ext w w' := by
  have HH := hid h
  have HN := hid hn
  have HL := hid h.1
  cases hV : tubeC (zs.map (cls .f32)) (cls .f32 l) (cls .f32 t) (cls .f32 p)
  · have e := hR
    unfold narR at e
    rw [hV] at e
    simp only [Bool.false_eq_true, if_false, Prod.mk.injEq] at e
    obtain ⟨rfl, rfl, rfl⟩ := e
    clear h hn hR
    go_enter Try.func26, Try.ntmps26
    go_wp2_with fail
    refine (validTube_any _ _ _ _ _ _ zs _ (Holds.alloc HH.out _) HN.out).mono ?_
    rintro e w1 ⟨rfl, m, rfl⟩
    simp only [hV]
    go_wp2_with fail
    go_ret3
    exact ⟨rfl, by (repeat with_reducible (first | exact Ext.refl _ | exact ext_alloc _ _ | refine Ext.drewN ?_ _ | refine Ext.drew1 ?_ | refine Ext.set ?_ (by dsimp only; omega) _ | refine Ext.alloc ?_ _))⟩
  · have e := hR
    unfold narR at e
    rw [hV] at e
    simp only [if_true, Prod.mk.injEq] at e
    obtain ⟨rfl, rfl, rfl⟩ := e
    have h16 := (tube_len hV).1
    obtain ⟨hl, hc0⟩ := h
    have h1 : 1 ≤ n := by simp at h16; omega
    rcases hc0 with h0 | ⟨b, off, rfl, hb, hc⟩
    · omega
    have HC := hid hc
    have HB := hid hb
    have H1 := hid h1
    have HE := hid (show zs.length = n from hl)
    clear h16 hn hR hc hb hl
    go_enter Try.func26, Try.ntmps26
    go_wp2_with fail
    refine (validTube_any _ _ _ _ _ _ zs _ (Holds.alloc HH.out _) HN.out).mono ?_
    rintro e w1 ⟨rfl, m, rfl⟩
    simp only [hV]
    go_wp2_with fail
    go_loopw [5, 14] (fun s i wr => ∃ k : Nat, 0 ≤ k ∧ k ≤ n ∧ i = .int .i64 k ∧ s = .int .i64 (bestF zs k : Int) ∧ Hid (∃ m, wr = ((w.alloc (.cells #[.slice (some ⟨b, off, none⟩) n c, .float .f32 l, .float .f32 t, .float .f32 p] 27)).alloc (.cells #[.slice (some ⟨b, off, none⟩) n c, .float .f32 l, .float .f32 t, .float .f32 p] 27)).drewN m)) (fun _ i _ => n - (intOf i).toNat)
    case atStart => exact ⟨0, by omega, by omega, rfl, rfl, _, rfl⟩
    case round =>
      obtain ⟨k, hk0, hk, rfl, rfl, hw⟩ := hrel
      have hn2 : n ≤ 1048576 := HN.out
      have hbx : Box wr w.heap.size #[.slice (some ⟨b, off, none⟩) n c, .float .f32 l, .float .f32 t, .float .f32 p] := by obtain ⟨m, hm⟩ := hw.out; rw [hm]; exact Box.alloc (box_new _ _) _
      have hew : Hid (Ext w wr) := by obtain ⟨m, hm⟩ := hw.out; rw [hm]; unfold Hid; (repeat with_reducible (first | exact Ext.refl _ | exact ext_alloc _ _ | refine Ext.drewN ?_ _ | refine Ext.drew1 ?_ | refine Ext.set ?_ (by dsimp only; omega) _ | refine Ext.alloc ?_ _))
      obtain ⟨d0, d1, d2, d3, dl⟩ := Box.cells4 hbx
      clear hbx
      have hbl : bestF zs k < n := best_lt zs n H1.out k hk
      have e2 : wr.cell? ⟨b, off + bestF zs k, none⟩ = some (.float .f32 (zs.getD (bestF zs k) 0)) := (Below.cell hew.out (p := ⟨b, off + bestF zs k, none⟩) HB.out).trans (HC.out _ hbl)
      by_cases hlt : k < n
      · have e1 : wr.cell? ⟨b, off + k, none⟩ = some (.float .f32 (zs.getD k 0)) := (Below.cell hew.out (p := ⟨b, off + k, none⟩) HB.out).trans (HC.out k hlt)
        cases hcm : (FloatKind.f32.format.order (zs.getD k 0) (zs.getD (bestF zs k) 0) == some .lt)
        · have hs := hid (show bestF zs (k + 1) = bestF zs k from by rw [bestF, hcm]; rfl)
          generalize zs.getD k 0 = x at e1 hcm
          generalize zs.getD (bestF zs k) 0 = y at e2 hcm
          obtain ⟨B, hB⟩ : ∃ B, bestF zs k = B := ⟨_, rfl⟩
          rw [hB] at hs hbl e2 ⊢
          clear hB
          have hi0 : (0 : Int) ≤ (B : Int) := by omega
          have hi1 : (B : Int) < (n : Int) := by omega
          have hj0 : (0 : Int) ≤ (k : Int) := by omega
          have hj1 : (k : Int) < (n : Int) := by omega
          go_wp2
          go_roundw
          case rel => exact ⟨k + 1, by omega, by omega, by go_num, by rw [hs.out], by obtain ⟨m, hm⟩ := hw.out; first | exact ⟨m, hm⟩ | exact ⟨m + 1, by rw [hm]; rfl⟩⟩
          case measure => simp [intOf]; omega
        · have hs := hid (show bestF zs (k + 1) = k from by rw [bestF, hcm]; rfl)
          generalize zs.getD k 0 = x at e1 hcm
          generalize zs.getD (bestF zs k) 0 = y at e2 hcm
          obtain ⟨B, hB⟩ : ∃ B, bestF zs k = B := ⟨_, rfl⟩
          rw [hB] at hbl e2 ⊢
          clear hB
          have hi0 : (0 : Int) ≤ (B : Int) := by omega
          have hi1 : (B : Int) < (n : Int) := by omega
          have hj0 : (0 : Int) ≤ (k : Int) := by omega
          have hj1 : (k : Int) < (n : Int) := by omega
          go_wp2
          go_roundw
          case rel => exact ⟨k + 1, by omega, by omega, by go_num, by rw [hs.out], by obtain ⟨m, hm⟩ := hw.out; first | exact ⟨m, hm⟩ | exact ⟨m + 1, by rw [hm]; rfl⟩⟩
          case measure => simp [intOf]; omega
      · have hkn : k = n := by omega
        subst hkn
        obtain ⟨y, hy⟩ : ∃ y, zs.getD (bestF zs k) 0 = y := ⟨_, rfl⟩
        have HY := hid hy
        rw [hy] at e2
        clear hy
        obtain ⟨B, hB⟩ : ∃ B, bestF zs k = B := ⟨_, rfl⟩
        have HBB := hid hB
        rw [hB] at hbl e2 ⊢
        clear hB
        have hi0 : (0 : Int) ≤ (B : Int) := by omega
        have hi1 : (B : Int) < (k : Int) := by omega
        go_wp2_with fail
        go_region_held3 (fun w' => w'.cell? ⟨w.heap.size, 0, none⟩ = some (.slice (some ⟨b, off, none⟩) k c) ∧ w'.cell? ⟨b, off + B, none⟩ = some (.float .f32 y)) (exact ⟨d0, e2⟩) (fail)
        go_wp2
        go_ret3
        have e9 : bestF zs zs.length = B := by rw [HE.out]; exact HBB.out
        have e8 : zs.getD B 0 = y := by rw [← HBB.out]; exact HY.out
        rw [e9, e8]
        exact ⟨rfl, by obtain ⟨m, hm⟩ := hw.out; rw [hm]; (repeat with_reducible (first | exact Ext.refl _ | exact ext_alloc _ _ | refine Ext.drewN ?_ _ | refine Ext.drew1 ?_ | refine Ext.set ?_ (by dsimp only; omega) _ | refine Ext.alloc ?_ _))⟩

set_option maxHeartbeats 1000000 in
theorem sNarrowest_any (a : Option Addr) (n c l t p : Nat) (zs : List Nat) (I R : Nat) (O : Bool) (w : World) (h : Holds .f32 w a n zs) (hn : n ≤ 1048576) (hR : narR zs (cls .f32 l) (cls .f32 t) (cls .f32 p) = (I, R, O)) :
    Calls Try.prog 25 #[.agg #[.slice a n c, .float .f32 l, .float .f32 t, .float .f32 p]] w fun e w' => e = .returned (.tuple #[.int .i64 (I : Int), .float .f32 R, .bool O]) ∧ Ext w w' := by
  have HH := hid h
  have HN := hid hn
  have HL := hid h.1
  cases hV : tubeC (zs.map (cls .f32)) (cls .f32 l) (cls .f32 t) (cls .f32 p)
  · have e := hR
    unfold narR at e
    rw [hV] at e
    simp only [Bool.false_eq_true, if_false, Prod.mk.injEq] at e
    obtain ⟨rfl, rfl, rfl⟩ := e
    clear h hn hR
    go_enter Try.func25, Try.ntmps25
    go_wp2_with fail
    refine (l02Is_any _ _ _ _ _ _ _ zs _ (box_new _ _) (Holds.alloc HH.out _) HN.out).mono ?_
    rintro e w1 ⟨rfl, m, rfl⟩
    simp only [hV]
    go_wp2_with fail
    go_ret3
    exact ⟨rfl, by (repeat with_reducible (first | exact Ext.refl _ | exact ext_alloc _ _ | refine Ext.drewN ?_ _ | refine Ext.drew1 ?_ | refine Ext.set ?_ (by dsimp only; omega) _ | refine Ext.alloc ?_ _))⟩
  · have e := hR
    unfold narR at e
    rw [hV] at e
    simp only [if_true, Prod.mk.injEq] at e
    obtain ⟨rfl, rfl, rfl⟩ := e
    have h16 := (tube_len hV).1
    obtain ⟨hl, hc0⟩ := h
    have h1 : 1 ≤ n := by simp at h16; omega
    rcases hc0 with h0 | ⟨b, off, rfl, hb, hc⟩
    · omega
    have HC := hid hc
    have HB := hid hb
    have H1 := hid h1
    have HE := hid (show zs.length = n from hl)
    clear h16 hn hR hc hb hl
    go_enter Try.func25, Try.ntmps25
    go_wp2_with fail
    refine (l02Is_any _ _ _ _ _ _ _ zs _ (box_new _ _) (Holds.alloc HH.out _) HN.out).mono ?_
    rintro e w1 ⟨rfl, m, rfl⟩
    simp only [hV]
    go_wp2_with fail
    go_loopw [5, 6] (fun s i wr => ∃ k : Nat, 1 ≤ k ∧ k ≤ n ∧ i = .int .i64 k ∧ s = .int .i64 (bestF zs k : Int) ∧ Hid (∃ m, wr = (w.alloc (.cells #[.slice (some ⟨b, off, none⟩) n c, .float .f32 l, .float .f32 t, .float .f32 p] 27)).drewN m)) (fun _ i _ => n - (intOf i).toNat)
    case atStart => exact ⟨1, by omega, by omega, rfl, by rw [best_one]; rfl, _, rfl⟩
    case round =>
      obtain ⟨k, hk0, hk, rfl, rfl, hw⟩ := hrel
      have hn2 : n ≤ 1048576 := HN.out
      have hbx : Box wr w.heap.size #[.slice (some ⟨b, off, none⟩) n c, .float .f32 l, .float .f32 t, .float .f32 p] := by obtain ⟨m, hm⟩ := hw.out; rw [hm]; exact box_new _ _
      have hew : Hid (Ext w wr) := by obtain ⟨m, hm⟩ := hw.out; rw [hm]; unfold Hid; (repeat with_reducible (first | exact Ext.refl _ | exact ext_alloc _ _ | refine Ext.drewN ?_ _ | refine Ext.drew1 ?_ | refine Ext.set ?_ (by dsimp only; omega) _ | refine Ext.alloc ?_ _))
      obtain ⟨d0, d1, d2, d3, dl⟩ := Box.cells4 hbx
      clear hbx
      have hbl : bestF zs k < n := best_lt zs n H1.out k hk
      have e2 : wr.cell? ⟨b, off + bestF zs k, none⟩ = some (.float .f32 (zs.getD (bestF zs k) 0)) := (Below.cell hew.out (p := ⟨b, off + bestF zs k, none⟩) HB.out).trans (HC.out _ hbl)
      by_cases hlt : k < n
      · have e1 : wr.cell? ⟨b, off + k, none⟩ = some (.float .f32 (zs.getD k 0)) := (Below.cell hew.out (p := ⟨b, off + k, none⟩) HB.out).trans (HC.out k hlt)
        cases hcm : (FloatKind.f32.format.order (zs.getD k 0) (zs.getD (bestF zs k) 0) == some .lt)
        · have hs := hid (show bestF zs (k + 1) = bestF zs k from by rw [bestF, hcm]; rfl)
          generalize zs.getD k 0 = x at e1 hcm
          generalize zs.getD (bestF zs k) 0 = y at e2 hcm
          obtain ⟨B, hB⟩ : ∃ B, bestF zs k = B := ⟨_, rfl⟩
          rw [hB] at hs hbl e2 ⊢
          clear hB
          have hi0 : (0 : Int) ≤ (B : Int) := by omega
          have hi1 : (B : Int) < (n : Int) := by omega
          have hj0 : (0 : Int) ≤ (k : Int) := by omega
          have hj1 : (k : Int) < (n : Int) := by omega
          go_wp2_with fail
          go_region_held3 (fun w' => w'.cell? ⟨w.heap.size, 0, none⟩ = some (.slice (some ⟨b, off, none⟩) n c) ∧ w'.cell? ⟨b, off + B, none⟩ = some (.float .f32 y) ∧ w'.cell? ⟨b, off + k, none⟩ = some (.float .f32 x)) (exact ⟨d0, e2, e1⟩) (fail)
          go_wp2
          go_roundw
          case rel => exact ⟨k + 1, by omega, by omega, by go_num, by rw [hs.out], by obtain ⟨m, hm⟩ := hw.out; first | exact ⟨m, hm⟩ | exact ⟨m + 1, by rw [hm]; rfl⟩⟩
          case measure => simp [intOf]; omega
        · have hs := hid (show bestF zs (k + 1) = k from by rw [bestF, hcm]; rfl)
          generalize zs.getD k 0 = x at e1 hcm
          generalize zs.getD (bestF zs k) 0 = y at e2 hcm
          obtain ⟨B, hB⟩ : ∃ B, bestF zs k = B := ⟨_, rfl⟩
          rw [hB] at hbl e2 ⊢
          clear hB
          have hi0 : (0 : Int) ≤ (B : Int) := by omega
          have hi1 : (B : Int) < (n : Int) := by omega
          have hj0 : (0 : Int) ≤ (k : Int) := by omega
          have hj1 : (k : Int) < (n : Int) := by omega
          go_wp2_with fail
          go_region_held3 (fun w' => w'.cell? ⟨w.heap.size, 0, none⟩ = some (.slice (some ⟨b, off, none⟩) n c) ∧ w'.cell? ⟨b, off + B, none⟩ = some (.float .f32 y) ∧ w'.cell? ⟨b, off + k, none⟩ = some (.float .f32 x)) (exact ⟨d0, e2, e1⟩) (fail)
          go_wp2
          go_roundw
          case rel => exact ⟨k + 1, by omega, by omega, by go_num, by rw [hs.out], by obtain ⟨m, hm⟩ := hw.out; first | exact ⟨m, hm⟩ | exact ⟨m + 1, by rw [hm]; rfl⟩⟩
          case measure => simp [intOf]; omega
      · have hkn : k = n := by omega
        subst hkn
        obtain ⟨y, hy⟩ : ∃ y, zs.getD (bestF zs k) 0 = y := ⟨_, rfl⟩
        have HY := hid hy
        rw [hy] at e2
        clear hy
        obtain ⟨B, hB⟩ : ∃ B, bestF zs k = B := ⟨_, rfl⟩
        have HBB := hid hB
        rw [hB] at hbl e2 ⊢
        clear hB
        have hi0 : (0 : Int) ≤ (B : Int) := by omega
        have hi1 : (B : Int) < (k : Int) := by omega
        go_wp2_with fail
        go_region_held3 (fun w' => w'.cell? ⟨w.heap.size, 0, none⟩ = some (.slice (some ⟨b, off, none⟩) k c) ∧ w'.cell? ⟨b, off + B, none⟩ = some (.float .f32 y)) (exact ⟨d0, e2⟩) (fail)
        go_wp2
        go_ret3
        have e9 : bestF zs zs.length = B := by rw [HE.out]; exact HBB.out
        have e8 : zs.getD B 0 = y := by rw [← HBB.out]; exact HY.out
        rw [e9, e8]
        exact ⟨rfl, by obtain ⟨m, hm⟩ := hw.out; rw [hm]; (repeat with_reducible (first | exact Ext.refl _ | exact ext_alloc _ _ | refine Ext.drewN ?_ _ | refine Ext.drew1 ?_ | refine Ext.set ?_ (by dsimp only; omega) _ | refine Ext.alloc ?_ _))⟩

end Go.Proofs.Ytogjehlepdapoab