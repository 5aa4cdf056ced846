/- Tubes: copies, sizes, and what is the same. -/
import Derived.Test.YthinjgiakaflpaaRows
import Derived.Test.YthinjgiakaflpaaBox
import Derived.KernelRfl
import Derived.Handy
namespace Go.Proofs.Ythinjgiakaflpaa
open Go.RowKit Flt

theorem szF_yes (a : Option Addr) (n c : Nat) (k : Int) (hk0 : (n : Int) ≤ k) (hk : k ≤ 1048576) (w : World) :
    Calls Try.prog 70 #[.slice a n c, .int .i64 k] w fun e w' => e = .returned (.int .i64 (k - n)) ∧ w = w' := by
  have h0 : ¬ k - n < 0 := by omega
  go_enter Try.func70, Try.ntmps70
  go_wp2
  go_ret
  exact ⟨rfl, rfl⟩
theorem szF_no (a : Option Addr) (n c : Nat) (k : Int) (hn : n ≤ maxLen) (hk0 : k < (n : Int)) (hk1 : 0 ≤ k) (w : World) :
    Calls Try.prog 70 #[.slice a n c, .int .i64 k] w fun e w' => e = .returned (.int .i64 (-1)) ∧ w = w' := by
  have h0 : k - n < 0 := by omega
  have h1 : (n : Int) ≤ 9223372036854775807 := by simp [maxLen] at hn; omega
  go_enter Try.func70, Try.ntmps70
  go_wp2
  go_ret
  exact ⟨rfl, rfl⟩
theorem eqTube_yes (a1 a2 : Option Addr) (n c1 c2 l1 t1 p1 l2 t2 p2 : Nat) (xs ys : List Nat) (w : World) (h1 : Holds .f32 w a1 n xs) (h2 : Holds .f32 w a2 n ys) (hn : n ≤ 1048576)
    (he : xs.map (cls .f32) = ys.map (cls .f32)) (hl : cls .f32 l1 = cls .f32 l2) (ht : cls .f32 t1 = cls .f32 t2) (hp : cls .f32 p1 = cls .f32 p2) :
    Calls Try.prog 42 #[.agg #[.slice a1 n c1, .float .f32 l1, .float .f32 t1, .float .f32 p1], .agg #[.slice a2 n c2, .float .f32 l2, .float .f32 t2, .float .f32 p2]] w fun e w' => e = .returned (.bool true) ∧ Ext w w' := by
  have H1 := hid h1
  have H2 := hid h2
  have HE := hid (map_cls_get he)
  have HL := hid hl
  have HT := hid ht
  have HP := hid hp
  have HN := hid hn
  clear h1 h2 he hl ht hp hn
  go_enter Try.func42, Try.ntmps42
  go_wp2_with fail
  refine (eqFloat32S_yes _ _ _ _ _ xs ys _ ((H1.out.alloc _).alloc _) ((H2.out.alloc _).alloc _) HN.out (fun i _ => HE.out i)).mono ?_
  rintro e w' ⟨rfl, m, rfl⟩
  go_wp2_with (first
    | (refine wpList_widen rfl rfl Try.underlying22 Try.underlying26 rfl ?_; intro r m hr hrw)
    | (go_at_call 17; refine (sameFloat_yes _ _ _ (by assumption) (by first | (rw [HL.out]; assumption) | (rw [HT.out]; assumption) | (rw [HP.out]; assumption)) _).mono ?_; rintro e w' ⟨rfl, m, rfl⟩))
  go_ret
  exact ⟨rfl, ((ext_alloc _ _).alloc _).drewN _⟩
theorem markF_any (a : Option Addr) (n c k B : Nat) (zs : List Nat) (w : World) (h : Own w B n (.slice a n c) zs) (hn : n ≤ 1048576) (hk : k ≤ 1099511627776) :
    Calls Try.prog 59 #[.slice a n c, .int .i64 k] w fun e w' => e = .returned (.int .i64 ((k + n : Nat) : Int)) ∧ Own w' B n (.slice a n c) (marks k n) ∧ But (Value.slice a n c).ownBlock w w' := by
  have hl := h.len
  rcases id h.2 with ⟨hv, h0⟩ | ⟨g, cap, cur, hv, hb, hg, hnc, hm, hs, ht⟩
  · simp only [Value.slice.injEq] at hv
    obtain ⟨rfl, _, rfl⟩ := hv
    subst h0
    clear h hl
    go_enter Try.func59, Try.ntmps59
    go_wp2
    refine wp_loop_rounds 1 ?_
    rw [rounds_succ]
    go_wp2
    go_ret
    exact ⟨by simp, own_nil _ _, But.refl _ _⟩
  · simp only [Value.slice.injEq] at hv
    obtain ⟨rfl, _, rfl⟩ := hv
    clear hb hg hs ht
    have HH := hid h
    have HL := hid hl
    clear h hl
    go_enter Try.func59, Try.ntmps59
    go_wp2
    go_loopw [1, 5] (fun q i wr => ∃ (j : Nat) (ys : List Nat), j ≤ n ∧ i = .int .i64 j ∧ q = .int .i64 ((k + j : Nat) : Int) ∧ Hid (Own wr B n (.slice (some ⟨g, 0, none⟩) n c) ys) ∧ Hid (ys.take j = marks k j) ∧ Hid (But (some g) w wr)) (fun _ i _ => n - (intOf i).toNat)
    case atStart => exact ⟨0, zs, Nat.zero_le _, rfl, by simp, HH.out, rfl, But.refl _ _⟩
    case round =>
      obtain ⟨j, ys, hj, rfl, rfl, ho, hp, hbut⟩ := hrel
      by_cases hlt : j < n
      · have hcell := ho.out.cellAt j hlt
        have hfr := ho.out.frozenAt j
        go_wp2
        go_roundw
        case rel => exact ⟨j + 1, ys.set j (floatOfInt .f32 ((k + j : Nat) : Int)), by omega, by go_num, by go_num, (ho.out.stored j _).1, by show _ = _; rw [take_set_snoc _ _ _ (by rw [ho.out.len]; exact hlt), hp.out, marks_succ], hbut.out.trans (ho.out.stored j _).2⟩
        case measure => simp [intOf]; omega
      · have : j = n := by omega
        subst this
        go_wp2
        go_ret
        have e1 : ys = marks k j := by rw [← hp.out, List.take_of_length_le (by rw [ho.out.len]; exact Nat.le_refl _)]
        exact ⟨by simp, e1 ▸ ho.out, hbut.out⟩
theorem heldF_any (a : Option Addr) (n c k B : Nat) (w : World) (h : Own w B n (.slice a n c) (marks k n)) (hn : n ≤ 1048576) (hk : k ≤ 1099511627776) :
    Calls Try.prog 60 #[.slice a n c, .int .i64 k] w fun e w' => e = .returned (.int .i64 ((k + n : Nat) : Int)) ∧ w = w' := by
  rcases id h.2 with ⟨hv, h0⟩ | ⟨g, cap, cur, hv, hb, hg, hnc, hm, hs, ht⟩
  · simp only [Value.slice.injEq] at hv
    obtain ⟨rfl, _, rfl⟩ := hv
    subst h0
    clear h
    go_enter Try.func60, Try.ntmps60
    go_wp2
    refine wp_loop_rounds 1 ?_
    rw [rounds_succ]
    go_wp2
    go_ret
    exact ⟨by simp, rfl⟩
  · simp only [Value.slice.injEq] at hv
    obtain ⟨rfl, _, rfl⟩ := hv
    clear hb hg hs ht
    have HH := hid h
    clear h
    go_enter Try.func60, Try.ntmps60
    go_wp2
    go_loop [1, 5] (fun q i => ∃ (j : Nat), j ≤ n ∧ i = .int .i64 j ∧ q = .int .i64 ((k + j : Nat) : Int)) (fun _ i => n - (intOf i).toNat)
    case atStart => exact ⟨0, Nat.zero_le _, rfl, by simp⟩
    case round =>
      obtain ⟨j, hj, rfl, rfl⟩ := hrel
      by_cases hlt : j < n
      · have hcell := HH.out.cellAt j hlt
        rw [marks_get _ _ _ hlt] at hcell
        have ho : FloatKind.f32.format.order (floatOfInt .f32 ((k + j : Nat) : Int)) (floatOfInt .f32 ((k + j : Nat) : Int)) = some .eq := by
          rw [order_self, if_neg]
          have h1 := (is_int (k := .f32) ((k + j : Nat) : Int)).out
          intro h2; rw [cls_nan h2] at h1; cases h1
        simp only [Int.natCast_add] at hcell ho
        go_wp2
        go_roundw
        case rel => exact ⟨j + 1, by omega, by go_num, by go_num⟩
        case measure => simp [intOf]; omega
      · have : j = n := by omega
        subst this
        go_wp2
        go_ret
        exact ⟨by simp, rfl⟩
theorem markTube_any (a : Option Addr) (n c k B l t p : Nat) (zs : List Nat) (w : World) (h : Own w B n (.slice a n c) zs) (hn : n ≤ 1048576) (hk : k ≤ 1099511627776) :
    Calls Try.prog 43 #[.agg #[.slice a n c, .float .f32 l, .float .f32 t, .float .f32 p], .int .i64 k] w fun e w' => e = .returned (.int .i64 ((k + n : Nat) : Int)) ∧ Own w' B n (.slice a n c) (marks k n) ∧ But (Value.slice a n c).ownBlock w w' := by
  have HH := hid h
  clear h
  go_enter Try.func43, Try.ntmps43
  go_wp2_with fail
  refine (markF_any _ _ _ _ _ zs _ (HH.out.alloc _) hn hk).mono ?_
  rintro e w' ⟨rfl, ho, hb⟩
  have HO := hid ho
  have HB := hid hb
  clear ho hb
  go_wp2
  go_ret
  exact ⟨rfl, HO.out, ((ext_alloc _ _).but _).trans HB.out⟩
theorem heldTube_any (a : Option Addr) (n c k B l t p : Nat) (w : World) (h : Own w B n (.slice a n c) (marks k n)) (hn : n ≤ 1048576) (hk : k ≤ 1099511627776) :
    Calls Try.prog 44 #[.agg #[.slice a n c, .float .f32 l, .float .f32 t, .float .f32 p], .int .i64 k] w fun e w' => e = .returned (.int .i64 ((k + n : Nat) : Int)) ∧ Ext w w' := by
  have HH := hid h
  clear h
  go_enter Try.func44, Try.ntmps44
  go_wp2_with fail
  refine (heldF_any _ _ _ _ _ _ (HH.out.alloc _) hn hk).mono ?_
  rintro e w' ⟨rfl, rfl⟩
  go_wp2
  go_ret
  exact ⟨rfl, ext_alloc _ _⟩
end Go.Proofs.Ythinjgiakaflpaa
