/- Tubes the other way round. -/
import Derived.Test.YtofhemganefhcabT19
import Derived.Deep.RegionLaw
namespace Go.Proofs.Ytofhemganefhcab
open Go.RowKit Flt
set_option linter.unusedVariables false

theorem own_snoc22 {w : World} {B k : Nat} {v : Value} {ys : List Nat} {r : Nat} (h : w.ownsRow B 23 1 v (k + 1) (ys.map (Value.float .f32) ++ [.float .f32 r])) : Own w B (k + 1) v (ys ++ [r]) := by
  unfold Own; simpa using h
def backT (cs : List (Option Nat)) (l t p : Option Nat) : TR := if tubeC cs l t p then ⟨true, cs.reverse, l, p, t⟩ else zeroT
theorem back_len (cs : List (Option Nat)) (l t p : Option Nat) : (backT cs l t p).cs.length ≤ 16 := by
  unfold backT
  split
  · rename_i h
    have := (tube_len h).2
    simp; exact this
  · exact Nat.zero_le _
theorem tube_own {w : World} {B n c : Nat} {a : Option Addr} {zs : List Nat} {l t p : Nat} {cs : List (Option Nat)} {L T P : Option Nat} (ho : Own w B n (.slice a n c) zs) (e : zs.map (cls .f32) = cs) (el : cls .f32 l = L) (et : cls .f32 t = T) (ep : cls .f32 p = P) :
    TubeIs w B ⟨true, cs, L, T, P⟩ (.agg #[.slice a n c, .float .f32 l, .float .f32 t, .float .f32 p]) := by
  have hl := Own.len ho
  subst e el et ep
  have e2 : (zs.map (cls .f32)).length = n := by simp [hl]
  exact ⟨a, c, l, t, p, zs, by simp only [e2], by simp only [e2]; exact ho, rfl, rfl, rfl, rfl⟩
theorem getD_set22 (ys : List Nat) (k q r : Nat) (hk : k < ys.length) : (ys.set k r).getD q 0 = if q = k then r else ys.getD q 0 := by
  by_cases h : q = k
  · subst h; simp [List.getD, hk]
  · rw [if_neg h]; simp [List.getD, List.getElem?_set_ne (Ne.symm h)]
theorem rev_of {ys zs : List Nat} {n : Nat} (h1 : ys.length = n) (h2 : zs.length = n) (h : ∀ q, q < n → ys.getD q 0 = zs.getD (n - 1 - q) 0) : ys = zs.reverse := by
  apply List.ext_getElem?
  intro i
  by_cases hi : i < n
  · have := h i hi
    simp [List.getD, show i < ys.length by omega, show n - 1 - i < zs.length by omega] at this
    rw [List.getElem?_reverse (by omega), List.getElem?_eq_getElem (show i < ys.length by omega), List.getElem?_eq_getElem (show zs.length - 1 - i < zs.length by omega), this]
    congr 2
    omega
  · rw [List.getElem?_eq_none (by omega), List.getElem?_eq_none (by simp; omega)]
set_option maxHeartbeats 1000000 in
theorem reverse_any (g n c B : Nat) (zs : List Nat) (w : World) (h : Own w B n (.slice (some ⟨g, 0, none⟩) n c) zs) (h1 : 1 ≤ n) (hn : n ≤ 1048576) :
    Calls Try.prog 117 #[.slice (some ⟨g, 0, none⟩) n c] w fun e w' => e = .returned (.tuple #[]) ∧ Own w' B n (.slice (some ⟨g, 0, none⟩) n c) zs.reverse ∧ But (some g) w w' := by
  have HH := hid h
  have HL := hid h.len
  have HN := hid hn
  have H1 := hid h1
  clear h hn h1
  go_enter Try.func117, Try.ntmps117
  go_wp2
  go_loopw [2, 3] (fun i j wr => ∃ (k r : Nat) (ys : List Nat), k + r + 1 = n ∧ k ≤ r + 1 ∧ i = .int .i64 k ∧ j = .int .i64 r ∧ Hid (Own wr B n (.slice (some ⟨g, 0, none⟩) n c) ys) ∧ Hid (∀ q, q < n → ys.getD q 0 = if q < k ∨ r < q then zs.getD (n - 1 - q) 0 else zs.getD q 0) ∧ Hid (But (some g) w wr)) (fun i _ _ => n - (intOf i).toNat)
  case atStart =>
    have h1 := H1.out
    refine ⟨0, n - 1, zs, by omega, by omega, rfl, ?_, HH, hid (fun q hq => by rw [if_neg (by omega)]), hid (But.refl _ _)⟩
    have hw : wrap64 ((n : Int) - 1) = ((n - 1 : Nat) : Int) := by have := HN.out; unfold wrap64; omega
    rw [hw]
  case round =>
    obtain ⟨k, r, ys, hkr, hkr2, rfl, rfl, ho, hy, he⟩ := hrel
    have hn2 : n ≤ 1048576 := HN.out
    by_cases hlt : k < r
    · have e1 := Own.cellAt ho.out k (by omega)
      have e2 := Own.cellAt ho.out r (by omega)
      have f1 := Own.frozenAt ho.out k
      have f2 := Own.frozenAt ho.out r
      have v1 := hy.out k (by omega)
      have v2 := hy.out r (by omega)
      rw [if_neg (by omega)] at v1 v2
      have HYL := hid ho.out.len
      generalize ys.getD k 0 = x at e1 v1
      generalize ys.getD r 0 = y at e2 v2
      have V1 := hid v1
      have V2 := hid v2
      clear v1 v2
      have hi0 : (0 : Int) ≤ (k : Int) := by omega
      have hi1 : (k : Int) < (n : Int) := by omega
      have hj0 : (0 : Int) ≤ (r : Int) := by omega
      have hj1 : (r : Int) < (n : Int) := by omega
      have hk1 : (k : Int) < (r : Int) := by omega
      have hne : k ≠ r := by omega
      have hne2 : r ≠ k := by omega
      go_wp2_with fail
      go_region
      go_wp2_with fail
      have O2 := Own.stored (Own.stored ho.out k y).1 r x
      have hy2 : ∀ q, q < n → ((ys.set k y).set r x).getD q 0 = if q < k + 1 ∨ r - 1 < q then zs.getD (n - 1 - q) 0 else zs.getD q 0 := by
        intro q hq
        have hl := HYL.out
        rw [getD_set22 _ _ _ _ (by simp; omega), getD_set22 _ _ _ _ (by omega)]
        by_cases h1 : q = r
        · subst h1
          rw [if_pos rfl, if_pos (by omega), V1.out]
          congr 1; omega
        · rw [if_neg h1]
          by_cases h2 : q = k
          · subst h2
            rw [if_pos rfl, if_pos (by omega), V2.out]
            congr 1; omega
          · rw [if_neg h2, hy.out q hq]
            by_cases h3 : q < k ∨ r < q
            · rw [if_pos h3, if_pos (by omega)]
            · rw [if_neg h3, if_neg (by omega)]
      have HY2 := hid hy2
      have HO2 := hid O2.1
      have HB2 := hid (But.trans he.out (But.trans (Own.stored ho.out k y).2 O2.2))
      have hr2 : (r : Int) - 1 = ((r - 1 : Nat) : Int) := by omega
      go_roundw
      case rel => exact ⟨k + 1, r - 1, (ys.set k y).set r x, by omega, by omega, by go_num, by rw [hr2], hid HO2.out, HY2, hid (But.trans HB2.out ((ext_drew _).but _))⟩
      case measure => simp [intOf]; omega
    · have hk1 : ¬ ((k : Int) < (r : Int)) := by omega
      have hrev := hid (rev_of (n := n) ho.out.len HL.out (fun q hq => by
        rw [hy.out q hq]
        by_cases h3 : q < k ∨ r < q
        · rw [if_pos h3]
        · rw [if_neg h3]; congr 1; omega))
      go_wp2
      rw [← hrev.out]
      first | (go_ret; exact ⟨rfl, ho.out, he.out⟩) | (go_returns; exact ⟨rfl, ho.out, he.out⟩)
end Go.Proofs.Ytofhemganefhcab
