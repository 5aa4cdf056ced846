/- Accents are marked. -/
import Derived.Test.YthinjgiakaflpabA2
namespace Go.Proofs.Ythinjgiakaflpab
open Go.RowKit Flt
set_option linter.unusedVariables false


theorem OwnA.stored {w : World} {B n g c : Nat} {zs : List Nat} (h : OwnA w B n (.slice (some ⟨g, 0, none⟩) n c) zs) (j u : Nat) :
    OwnA (w.setCell ⟨g, j, none⟩ (.float .f32 u)) B n (.slice (some ⟨g, 0, none⟩) n c) (zs.set j u) ∧ But (some g) w (w.setCell ⟨g, j, none⟩ (.float .f32 u)) := by
  obtain ⟨h1, h2⟩ := World.ownsRow.stored h j (.float .f32 u)
  refine ⟨?_, h2⟩
  unfold OwnA
  rw [List.map_set]
  exact h1
theorem OwnA.cellAt {w : World} {B n g c : Nat} {zs : List Nat} (h : OwnA w B n (.slice (some ⟨g, 0, none⟩) n c) zs) (j : Nat) (hj : j < n * 3) : w.cell? ⟨g, j, none⟩ = some (.float .f32 (zs.getD j 0)) ∧ w.frozen? ⟨g, j, none⟩ = false := by
  have hl : zs.length = n * 3 := by simpa using h.1
  rcases h.2 with ⟨hv, _⟩ | ⟨g2, cap, cur, hv, hb, hg, hn, hm, hs, ht⟩
  · cases hv
  · simp only [Value.slice.injEq, Option.some.injEq, Addr.mk.injEq] at hv
    obtain ⟨⟨rfl, _, _⟩, _, rfl⟩ := hv
    refine ⟨?_, frozen_of_row w g j cur _ hg⟩
    rw [cell_of_row w g j cur _ (0, 0) hg]
    have h1 : (cur.toList.take (n * 3))[j]? = some (.float .f32 (zs.getD j 0)) := by
      rw [ht]; simp [List.getD, hl, hj]
    rw [List.getElem?_take, if_pos hj] at h1
    simpa using h1
set_option maxHeartbeats 2000000 in
theorem markA_any (a : Option Addr) (n c k B : Nat) (zs : List Nat) (w : World) (h : OwnA w B n (.slice a n c) zs) (hn : n ≤ 1048576) (hk : k ≤ 1099511627776) :
    Calls Try.prog 82 #[.slice a n c, .int .i64 k] w fun e w' => ∃ ys, e = .returned (.int .i64 ((k + 3 * n : Nat) : Int)) ∧ OwnA w' B n (.slice a n c) ys ∧ But (Value.slice a n c).ownBlock w w' := by
  rcases id h.2 with ⟨hv, h0⟩ | ⟨g, cap, cur, hv, hb, hg, hnc, hm, hs, ht⟩
  · simp only [Value.slice.injEq] at hv
    obtain ⟨rfl, _, rfl⟩ := hv
    subst h0
    have HH := hid h
    clear h
    go_enter Try.func82, Try.ntmps82
    go_wp2
    refine wp_loop_rounds 1 ?_
    rw [rounds_succ]
    go_wp2
    go_ret
    exact ⟨zs, by simp, HH.out, But.refl _ _⟩
  · simp only [Value.slice.injEq] at hv
    obtain ⟨rfl, _, rfl⟩ := hv
    clear hb hg hs ht
    have HH := hid h
    clear h
    go_enter Try.func82, Try.ntmps82
    go_wp2
    go_loopw [1, 5] (fun q i wr => ∃ (j : Nat) (ys : List Nat), j ≤ n ∧ i = .int .i64 j ∧ q = .int .i64 ((k + 3 * j : Nat) : Int) ∧ Hid (OwnA wr B n (.slice (some ⟨g, 0, none⟩) n c) ys) ∧ Hid (But (some g) w wr)) (fun _ i _ => n - (intOf i).toNat)
    case atStart => exact ⟨0, zs, Nat.zero_le _, rfl, by simp, HH.out, But.refl _ _⟩
    case round =>
      obtain ⟨j, ys, hj, rfl, rfl, ho, hbut⟩ := hrel
      by_cases hlt : j < n
      · obtain ⟨c0, f0⟩ := OwnA.cellAt ho.out (j * 3) (by omega)
        obtain ⟨c1, f1⟩ := OwnA.cellAt ho.out (j * 3 + 1) (by omega)
        obtain ⟨c2, f2⟩ := OwnA.cellAt ho.out (j * 3 + 2) (by omega)
        generalize ys.getD (j * 3) 0 = x at c0
        generalize ys.getD (j * 3 + 1) 0 = y at c1
        generalize ys.getD (j * 3 + 2) 0 = z at c2
        have hi0 : (0 : Int) ≤ (j : Int) := by omega
        have hi1 : (j : Int) < (n : Int) := by omega
        go_wp2
        go_roundw
        case rel => exact ⟨j + 1, _, by omega, by go_num, by go_num, hid (OwnA.stored (OwnA.stored (OwnA.stored ho.out _ _).1 _ _).1 _ _).1, hid (But.trans (But.trans (But.trans hbut.out (OwnA.stored ho.out _ _).2) (OwnA.stored (OwnA.stored ho.out _ _).1 _ _).2) (OwnA.stored (OwnA.stored (OwnA.stored ho.out _ _).1 _ _).1 _ _).2)⟩
        case measure => simp [intOf]; omega
      · have : j = n := by omega
        subst this
        go_wp2
        go_ret
        exact ⟨ys, by simp, ho.out, hbut.out⟩
set_option maxHeartbeats 2000000 in
theorem markTune_any (b f r : Nat) (a : Option Addr) (n c k B : Nat) (zs : List Nat) (w : World) (h : OwnA w B n (.slice a n c) zs) (hn : n ≤ 1048576) (hk : k ≤ 1099511627776) :
    Calls Try.prog 21 #[.agg #[.float .f32 b, .float .f32 f, .float .f32 r, .slice a n c], .int .i64 k] w fun e w' => ∃ ys, e = .returned (.int .i64 ((k + 3 * n : Nat) : Int)) ∧ OwnA w' B n (.slice a n c) ys ∧ But (Value.slice a n c).ownBlock w w' := by
  have HH := hid h
  clear h
  go_enter Try.func21, Try.ntmps21
  go_wp2_with fail
  refine (markA_any a n c k B zs _ (OwnA.ext HH.out (ext_alloc _ _)) hn hk).mono ?_
  rintro e w' ⟨ys, rfl, ho, hb⟩
  have HO := hid ho
  have HB := hid hb
  clear ho hb
  go_wp2
  go_ret
  exact ⟨ys, rfl, HO.out, ((ext_alloc _ _).but _).trans HB.out⟩
theorem markTune_is (b f r : Nat) (a : Option Addr) (n c k B : Nat) (zs : List Nat) (w : World) (h : OwnA w B n (.slice a n c) zs) (hn : n ≤ 1048576) (hk : k ≤ 1099511627776) :
    Calls Try.prog 21 #[.agg #[.float .f32 b, .float .f32 f, .float .f32 r, .slice a n c], .int .i64 k] w fun e w' => e = .returned (.int .i64 ((k + 3 * n : Nat) : Int)) ∧ (∃ ys, OwnA w' B n (.slice a n c) ys) ∧ But (Value.slice a n c).ownBlock w w' := by
  refine (markTune_any b f r a n c k B zs w h hn hk).mono ?_
  rintro e w' ⟨ys, h1, h2, h3⟩
  exact ⟨h1, ⟨ys, h2⟩, h3⟩

end Go.Proofs.Ythinjgiakaflpab
