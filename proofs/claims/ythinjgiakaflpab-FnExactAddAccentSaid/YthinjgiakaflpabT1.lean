/- Tubes: copies, sizes, and what is the same. -/
import Derived.Test.YthinjgiakaflpabRows
import Derived.Test.YthinjgiakaflpabBox
import Derived.KernelRfl
import Derived.Handy
namespace Go.Proofs.Ythinjgiakaflpab
open Go.RowKit Flt

theorem szF_yes (a : Option Addr) (n c : Nat) (k : Int) (hk0 : (n : Int) ≤ k) (hk : k ≤ 1048576) (w : World) :
    Calls Try.prog 115 #[.slice a n c, .int .i64 k] w fun e w' => e = .returned (.int .i64 (k - n)) ∧ w = w' := by
  have h0 : ¬ k - n < 0 := by omega
  go_enter Try.func115, Try.ntmps115
  go_wp2
  go_ret
  exact ⟨rfl, rfl⟩
theorem szF_no (a : Option Addr) (n c : Nat) (k : Int) (hn : n ≤ maxLen) (hk0 : k < (n : Int)) (hk1 : 0 ≤ k) (w : World) :
    Calls Try.prog 115 #[.slice a n c, .int .i64 k] w fun e w' => e = .returned (.int .i64 (-1)) ∧ w = w' := by
  have h0 : k - n < 0 := by omega
  have h1 : (n : Int) ≤ 9223372036854775807 := by simp [maxLen] at hn; omega
  go_enter Try.func115, Try.ntmps115
  go_wp2
  go_ret
  exact ⟨rfl, rfl⟩
theorem markF_any (a : Option Addr) (n c k B : Nat) (zs : List Nat) (w : World) (h : Own w B n (.slice a n c) zs) (hn : n ≤ 1048576) (hk : k ≤ 1099511627776) :
    Calls Try.prog 32 #[.slice a n c, .int .i64 k] w fun e w' => e = .returned (.int .i64 ((k + n : Nat) : Int)) ∧ Own w' B n (.slice a n c) (marks k n) ∧ But (Value.slice a n c).ownBlock w w' := by
  have hl := h.len
  rcases id h.2 with ⟨hv, h0⟩ | ⟨g, cap, cur, hv, hb, hg, hnc, hm, hs, ht⟩
  · simp only [Value.slice.injEq] at hv
    obtain ⟨rfl, _, rfl⟩ := hv
    subst h0
    clear h hl
    go_enter Try.func32, Try.ntmps32
    go_wp2
    refine wp_loop_rounds 1 ?_
    rw [rounds_succ]
    go_wp2
    go_ret
    exact ⟨by simp, own_nil _ _, But.refl _ _⟩
  · simp only [Value.slice.injEq] at hv
    obtain ⟨rfl, _, rfl⟩ := hv
    clear hb hg hs ht
    have HH := hid h
    have HL := hid hl
    clear h hl
    go_enter Try.func32, Try.ntmps32
    go_wp2
    go_loopw [1, 5] (fun q i wr => ∃ (j : Nat) (ys : List Nat), j ≤ n ∧ i = .int .i64 j ∧ q = .int .i64 ((k + j : Nat) : Int) ∧ Hid (Own wr B n (.slice (some ⟨g, 0, none⟩) n c) ys) ∧ Hid (ys.take j = marks k j) ∧ Hid (But (some g) w wr)) (fun _ i _ => n - (intOf i).toNat)
    case atStart => exact ⟨0, zs, Nat.zero_le _, rfl, by simp, HH.out, rfl, But.refl _ _⟩
    case round =>
      obtain ⟨j, ys, hj, rfl, rfl, ho, hp, hbut⟩ := hrel
      by_cases hlt : j < n
      · have hcell := ho.out.cellAt j hlt
        have hfr := ho.out.frozenAt j
        go_wp2
        go_roundw
        case rel => exact ⟨j + 1, ys.set j (floatOfInt .f32 ((k + j : Nat) : Int)), by omega, by go_num, by go_num, (ho.out.stored j _).1, by show _ = _; rw [take_set_snoc _ _ _ (by rw [ho.out.len]; exact hlt), hp.out, marks_succ], hbut.out.trans (ho.out.stored j _).2⟩
        case measure => simp [intOf]; omega
      · have : j = n := by omega
        subst this
        go_wp2
        go_ret
        have e1 : ys = marks k j := by rw [← hp.out, List.take_of_length_le (by rw [ho.out.len]; exact Nat.le_refl _)]
        exact ⟨by simp, e1 ▸ ho.out, hbut.out⟩
theorem heldF_any (a : Option Addr) (n c k B : Nat) (w : World) (h : Own w B n (.slice a n c) (marks k n)) (hn : n ≤ 1048576) (hk : k ≤ 1099511627776) :
    Calls Try.prog 33 #[.slice a n c, .int .i64 k] w fun e w' => e = .returned (.int .i64 ((k + n : Nat) : Int)) ∧ w = w' := by
  rcases id h.2 with ⟨hv, h0⟩ | ⟨g, cap, cur, hv, hb, hg, hnc, hm, hs, ht⟩
  · simp only [Value.slice.injEq] at hv
    obtain ⟨rfl, _, rfl⟩ := hv
    subst h0
    clear h
    go_enter Try.func33, Try.ntmps33
    go_wp2
    refine wp_loop_rounds 1 ?_
    rw [rounds_succ]
    go_wp2
    go_ret
    exact ⟨by simp, rfl⟩
  · simp only [Value.slice.injEq] at hv
    obtain ⟨rfl, _, rfl⟩ := hv
    clear hb hg hs ht
    have HH := hid h
    clear h
    go_enter Try.func33, Try.ntmps33
    go_wp2
    go_loop [1, 5] (fun q i => ∃ (j : Nat), j ≤ n ∧ i = .int .i64 j ∧ q = .int .i64 ((k + j : Nat) : Int)) (fun _ i => n - (intOf i).toNat)
    case atStart => exact ⟨0, Nat.zero_le _, rfl, by simp⟩
    case round =>
      obtain ⟨j, hj, rfl, rfl⟩ := hrel
      by_cases hlt : j < n
      · have hcell := HH.out.cellAt j hlt
        rw [marks_get _ _ _ hlt] at hcell
        have ho : FloatKind.f32.format.order (floatOfInt .f32 ((k + j : Nat) : Int)) (floatOfInt .f32 ((k + j : Nat) : Int)) = some .eq := by
          rw [order_self, if_neg]
          have h1 := (is_int (k := .f32) ((k + j : Nat) : Int)).out
          intro h2; rw [cls_nan h2] at h1; cases h1
        simp only [Int.natCast_add] at hcell ho
        go_wp2
        go_roundw
        case rel => exact ⟨j + 1, by omega, by go_num, by go_num⟩
        case measure => simp [intOf]; omega
      · have : j = n := by omega
        subst this
        go_wp2
        go_ret
        exact ⟨by simp, rfl⟩
end Go.Proofs.Ythinjgiakaflpab
