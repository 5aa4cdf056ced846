/- What steps predict. -/
import Derived.Test.YtofhemganefhcabW9
import Derived.Test.YtofhemganefhcabV17
import Derived.Test.YtofhemganefhcabT22
import Derived.Test.YtofhemganefhcabHead
namespace Go.Proofs.Ytofhemganefhcab
open Go.RowKit Flt
set_option linter.unusedVariables false

/-- the sum of the first k products of two lists -/
def dotK (us vs : List Nat) : Nat → Option Nat
  | 0 => some 0
  | k + 1 => fop .add .f32 (dotK us vs k) (fop .mul .f32 (cls .f32 (us.getD k 0)) (cls .f32 (vs.getD k 0)))
/-- what steps predict behind the first n numbers, from k products -/
def predK (us zs : List Nat) (n : Nat) : Nat → Option Nat
  | 0 => some 0
  | k + 1 => fop .add .f32 (predK us zs n k) (fop .mul .f32 (cls .f32 (us.getD k 0)) (cls .f32 (zs.getD (n - 1 - k) 0)))
def predX (us zs : List Nat) (n : Nat) : Option Nat := predK us zs n (min us.length n)
theorem dot_pred (us zs : List Nat) (n : Nat) (hn : n ≤ zs.length) : ∀ k, k ≤ n → dotK us (zs.take n).reverse k = predK us zs n k
  | 0, _ => rfl
  | k + 1, hk => by
    show fop .add .f32 _ _ = fop .add .f32 _ _
    rw [dot_pred us zs n hn k (by omega)]
    have e : (zs.take n).reverse.getD k 0 = zs.getD (n - 1 - k) 0 := by
      have h1 : (zs.take n).length = n := by simp; omega
      simp only [List.getD]
      rw [List.getElem?_reverse (by omega), h1, List.getElem?_take, if_pos (by omega)]
    rw [e]
set_option maxHeartbeats 2000000 in
set_option maxRecDepth 100000 in
theorem sumP_any (a1 a2 : Option Addr) (n m c1 c2 : Nat) (us vs : List Nat) (w : World) (h1 : Holds .f32 w a1 n us) (h2 : Holds .f32 w a2 m vs) (hn : n ≤ 1048576) (hm : m ≤ 1048576) :
    Calls Try.prog 118 #[.slice a1 n c1, .slice a2 m c2] w fun e w' => ∃ r, e = .returned (.float .f32 r) ∧ Is .f32 r (dotK us vs (min n m)) ∧ ∃ q, w' = w.drewN q := by
  have H1 := hid h1
  have H2 := hid h2
  have HN := hid hn
  have HM := hid hm
  clear h1 h2 hn hm
  by_cases hmn : m < n
  · skip
    go_enter Try.func118, Try.ntmps118
    go_wp2_with fail
    go_loopw [5, 13] (fun s i wr => ∃ (k r : Nat), k ≤ m ∧ i = .int .i64 k ∧ s = .float .f32 r ∧ Is .f32 r (dotK us vs k) ∧ Hid (∃ q, wr = w.drewN q)) (fun _ i _ => m - (intOf i).toNat)
    case atStart => exact ⟨0, _, Nat.zero_le _, rfl, rfl, show cls .f32 (floatOfInt .f32 0) = some 0 from by decide, hid ⟨0, rfl⟩⟩
    case round =>
      obtain ⟨k, r0, hk, rfl, rfl, hr0, hw⟩ := hrel
      have hn2 : n ≤ 1048576 := HN.out
      have hm2 : m ≤ 1048576 := HM.out
      by_cases hlt : k < m
      · have E0 : Ext w wr := by obtain ⟨q, hq⟩ := hw.out; rw [hq]; exact Ext.drewN (Ext.refl _) _
        obtain ⟨b, off, rfl, e1⟩ := cell_at H1.out E0 k (by omega)
        obtain ⟨b', off', rfl, e2⟩ := cell_at H2.out E0 k (by omega)
        have hs : Hid (dotK us vs (k + 1) = fop .add .f32 (dotK us vs k) (fop .mul .f32 (cls .f32 (us.getD k 0)) (cls .f32 (vs.getD k 0)))) := rfl
        generalize us.getD k 0 = x at e1 hs
        generalize vs.getD k 0 = y at e2 hs
        have hi0 : (0 : Int) ≤ (k : Int) := by omega
        have hi1 : (k : Int) < (n : Int) := by omega
        have hi2 : (k : Int) < (m : Int) := by omega
        have hi3 : (k : Int) < (m : Int) := by omega
        clear E0
        go_wp2_with fail
        refine wp_region_many (by kernel_rfl) (by kernel_rfl) (by kernel_rfl) ?_
        repeat (with_reducible refine wpM_cons ?_; first
          | (refine wpM_fa rfl rfl rfl rfl rfl (by first | assumption | exact is_self _ _) (by first | assumption | exact is_self _ _) ?_; intro r hr hrw)
          | (refine wpM_quiet rfl (fun K hK => ?_); go_simp; refine hK _ ?_; clear hK K))
        with_reducible refine wpM_nil ?_
        intro w3 hw3
        obtain ⟨nq, hw3⟩ := hw3
        subst hw3
        go_wp2
        go_roundw
        case rel => exact ⟨k + 1, r, by omega, by go_num, rfl, by rw [hs.out]; exact hr, by obtain ⟨q, hq⟩ := hw.out; exact hid ⟨q + nq, by rw [hq, World.drewN_drewN]⟩⟩
        case measure => simp [intOf]; omega
      · have hkn : k = m := by omega
        have hi3 : ¬ ((k : Int) < (m : Int)) := by omega
        go_wp2_with fail
        go_ret
        exact ⟨_, rfl, by rw [show min n m = k from by omega]; exact hr0, hw.out⟩
  · skip
    go_enter Try.func118, Try.ntmps118
    go_wp2_with fail
    go_loopw [5, 13] (fun s i wr => ∃ (k r : Nat), k ≤ n ∧ i = .int .i64 k ∧ s = .float .f32 r ∧ Is .f32 r (dotK us vs k) ∧ Hid (∃ q, wr = w.drewN q)) (fun _ i _ => n - (intOf i).toNat)
    case atStart => exact ⟨0, _, Nat.zero_le _, rfl, rfl, show cls .f32 (floatOfInt .f32 0) = some 0 from by decide, hid ⟨0, rfl⟩⟩
    case round =>
      obtain ⟨k, r0, hk, rfl, rfl, hr0, hw⟩ := hrel
      have hn2 : n ≤ 1048576 := HN.out
      have hm2 : m ≤ 1048576 := HM.out
      by_cases hlt : k < n
      · have E0 : Ext w wr := by obtain ⟨q, hq⟩ := hw.out; rw [hq]; exact Ext.drewN (Ext.refl _) _
        obtain ⟨b, off, rfl, e1⟩ := cell_at H1.out E0 k (by omega)
        obtain ⟨b', off', rfl, e2⟩ := cell_at H2.out E0 k (by omega)
        have hs : Hid (dotK us vs (k + 1) = fop .add .f32 (dotK us vs k) (fop .mul .f32 (cls .f32 (us.getD k 0)) (cls .f32 (vs.getD k 0)))) := rfl
        generalize us.getD k 0 = x at e1 hs
        generalize vs.getD k 0 = y at e2 hs
        have hi0 : (0 : Int) ≤ (k : Int) := by omega
        have hi1 : (k : Int) < (n : Int) := by omega
        have hi2 : (k : Int) < (m : Int) := by omega
        have hi3 : (k : Int) < (n : Int) := by omega
        clear E0
        go_wp2_with fail
        refine wp_region_many (by kernel_rfl) (by kernel_rfl) (by kernel_rfl) ?_
        repeat (with_reducible refine wpM_cons ?_; first
          | (refine wpM_fa rfl rfl rfl rfl rfl (by first | assumption | exact is_self _ _) (by first | assumption | exact is_self _ _) ?_; intro r hr hrw)
          | (refine wpM_quiet rfl (fun K hK => ?_); go_simp; refine hK _ ?_; clear hK K))
        with_reducible refine wpM_nil ?_
        intro w3 hw3
        obtain ⟨nq, hw3⟩ := hw3
        subst hw3
        go_wp2
        go_roundw
        case rel => exact ⟨k + 1, r, by omega, by go_num, rfl, by rw [hs.out]; exact hr, by obtain ⟨q, hq⟩ := hw.out; exact hid ⟨q + nq, by rw [hq, World.drewN_drewN]⟩⟩
        case measure => simp [intOf]; omega
      · have hkn : k = n := by omega
        have hi3 : ¬ ((k : Int) < (n : Int)) := by omega
        go_wp2_with fail
        go_ret
        exact ⟨_, rfl, by rw [show min n m = k from by omega]; exact hr0, hw.out⟩
theorem reverse_zero (a : Option Addr) (c : Nat) (w : World) : Calls Try.prog 117 #[.slice a 0 c] w fun e w' => e = .returned (.tuple #[]) ∧ w = w' := by
  go_enter Try.func117, Try.ntmps117
  go_wp2
  refine wp_loop_rounds 1 ?_
  rw [rounds_succ]
  go_wp2
  first | (go_ret; exact ⟨rfl, rfl⟩) | (go_returns; exact ⟨rfl, rfl⟩)
set_option maxHeartbeats 2000000 in
set_option maxRecDepth 100000 in
theorem pred_any (a1 a2 : Option Addr) (n m c1 c2 : Nat) (us zs : List Nat) (w : World) (h1 : Holds .f32 w a1 n us) (h2 : Holds .f32 w a2 m (zs.take m)) (hz : m ≤ zs.length) (hn : n ≤ 1048576) (hm : m ≤ 1048576) :
    Calls Try.prog 68 #[.slice a1 n c1, .slice a2 m c2] w fun e w' => ∃ r, e = .returned (.float .f32 r) ∧ Is .f32 r (predX us zs m) ∧ Ext w w' := by
  have H1 := hid h1
  have H2 := hid h2
  have HN := hid hn
  have HM := hid hm
  have HZ := hid hz
  have HX := hid (show predX us zs m = dotK us (zs.take m).reverse (min n m) from by unfold predX; rw [h1.1, dot_pred us zs m hz _ (Nat.min_le_right _ _)])
  clear h1 h2 hn hm hz
  by_cases h0 : m = 0
  · subst h0
    go_enter Try.func68, Try.ntmps68
    go_wp2_with fail
    refine (clone_zero a2 c2 _).mono ?_
    rintro e w1 ⟨v, rfl, O1, E1⟩
    obtain ⟨b, c', rfl, _, _⟩ := Own.holds O1
    have HO := hid O1
    have HE := hid E1
    clear O1 E1
    go_wp2_with (go_at_call 117; refine (reverse_zero _ _ _).mono ?_; rintro e w' ⟨rfl, rfl⟩)
    refine (sumP_any a1 b n 0 c1 c' us [] _ (Holds.ext H1.out HE.out) (own_hold HO.out) HN.out HM.out).mono ?_
    rintro e w2 ⟨r, rfl, hr, q, rfl⟩
    go_wp2
    go_ret
    exact ⟨r, rfl, by rw [HX.out]; simpa using hr, Ext.drewN HE.out q⟩
  · go_enter Try.func68, Try.ntmps68
    go_wp2_with fail
    refine (clone_any a2 m c2 (zs.take m) _ H2.out (by omega) HM.out).mono ?_
    rintro e w1 ⟨b, c', rfl, O1, E1⟩
    have HO := hid O1
    have HE := hid E1
    clear O1 E1
    go_wp2_with fail
    refine (reverse_any b m c' w.heap.size (zs.take m) _ HO.out (by omega) HM.out).mono ?_
    rintro e w2 ⟨rfl, O2, B2⟩
    have HO2 := hid O2
    have HE2 := hid (show Ext w w2 from But.below B2 HE.out (fun k hk => by cases hk; exact (Own.block HO.out b rfl).1))
    clear O2 B2
    go_wp2_with fail
    refine (sumP_any a1 (some ⟨b, 0, none⟩) n m c1 c' us (zs.take m).reverse _ (Holds.ext H1.out HE2.out) (own_hold HO2.out) HN.out HM.out).mono ?_
    rintro e w3 ⟨r, rfl, hr, q, rfl⟩
    go_wp2
    go_ret
    exact ⟨r, rfl, by rw [HX.out]; exact hr, Ext.drewN HE2.out q⟩
set_option maxHeartbeats 2000000 in
set_option maxRecDepth 100000 in
theorem l04At_any (x : Nat) (a a2 : Option Addr) (n c m c2 g : Nat) (j : Nat) (us zs : List Nat) (w : World) (hb : Box w x #[.slice a n c, .float .f32 g]) (h1 : Holds .f32 w a n us) (h2 : Holds .f32 w a2 m zs) (hn : n ≤ 1048576) (hm : m ≤ 1048576) (hj : j ≤ m) :
    Calls Try.prog 64 #[.pointer (some ⟨x, 0, none⟩), .slice a2 m c2, .int .i64 (j : Int)] w fun e w' => ∃ r, e = .returned (.float .f32 r) ∧ Is .f32 r (predX us zs j) ∧ ∃ q, w' = w.drewN q := by
  have H1 := hid h1
  have H2 := hid h2
  have HB := hid hb
  have HN := hid hn
  have HM := hid hm
  have HJ := hid hj
  clear h1 h2 hn hm hb hj
  have HX := hid (show predX us zs j = predK us zs j (min n j) from by unfold predX; rw [H1.out.1])
  go_enter Try.func64, Try.ntmps64
  go_wp2_with fail
  go_loopw [7, 8] (fun s i wr => ∃ (k r : Nat), k ≤ min n j ∧ i = .int .i64 k ∧ s = .float .f32 r ∧ Is .f32 r (predK us zs j k) ∧ Hid (∃ q, wr = w.drewN q)) (fun _ i _ => min n j - (intOf i).toNat)
  case atStart => exact ⟨0, 0, Nat.zero_le _, rfl, rfl, is_const (by decide), hid ⟨0, rfl⟩⟩
  case round =>
    obtain ⟨k, r0, hk, rfl, rfl, hr0, hw⟩ := hrel
    have hn2 : n ≤ 1048576 := HN.out
    have hm2 : m ≤ 1048576 := HM.out
    have hj2 : j ≤ m := HJ.out
    have E0 : Ext w wr := by obtain ⟨q, hq⟩ := hw.out; rw [hq]; exact Ext.drewN (Ext.refl _) _
    obtain ⟨x0, x1, xl⟩ := Box.cells2 (Box.ext HB.out E0)
    by_cases hlt : k < min n j
    · obtain ⟨b, off, rfl, e1⟩ := cell_at H1.out E0 k (by omega)
      obtain ⟨b', off', rfl, e2⟩ := cell_at H2.out E0 (j - 1 - k) (by omega)
      have hs : Hid (predK us zs j (k + 1) = fop .add .f32 (predK us zs j k) (fop .mul .f32 (cls .f32 (us.getD k 0)) (cls .f32 (zs.getD (j - 1 - k) 0)))) := rfl
      generalize us.getD k 0 = u at e1 hs
      generalize zs.getD (j - 1 - k) 0 = y at e2 hs
      have hi0 : (0 : Int) ≤ (k : Int) := by omega
      have hi1 : (k : Int) < (n : Int) := by omega
      have hi4 : (j : Int) - 1 - (k : Int) = ((j - 1 - k : Nat) : Int) := by omega
      have hi5 : (0 : Int) ≤ ((j - 1 - k : Nat) : Int) := by omega
      have hi6 : ((j - 1 - k : Nat) : Int) < (m : Int) := by omega
      have hi7 : ((j - 1 - k : Nat) : Int).toNat = j - 1 - k := rfl
      have hi8 : j - 1 - k < 1048576 := by omega
      clear E0
      generalize hp : j - 1 - k = p at *
      go_wp2_with fail
      refine wp_region_many (by kernel_rfl) (by kernel_rfl) (by kernel_rfl) ?_
      repeat (with_reducible refine wpM_cons ?_; first
        | (refine wpM_fa rfl rfl rfl rfl rfl (by first | assumption | exact is_self _ _) (by first | assumption | exact is_self _ _) ?_; intro r hr hrw)
        | (refine wpM_mult0 rfl rfl ?_; refine mult_isub (j - 1 : Int) rfl rfl rfl (by omega) (by omega) (by omega) ?_; simp only [Act.put, List.setIfInBounds_toArray, List.set_cons_zero, List.set_cons_succ])
        | (refine wpM_mult0 rfl rfl ?_; refine mult_isub (p : Int) rfl rfl rfl (by omega) (by omega) (by omega) ?_; simp only [Act.put, List.setIfInBounds_toArray, List.set_cons_zero, List.set_cons_succ])
        | (refine wpM_quiet rfl (fun K hK => ?_); go_simp; refine hK _ ?_; clear hK K))
      with_reducible refine wpM_nil ?_
      intro w3 hw3
      obtain ⟨nq, hw3⟩ := hw3
      subst hw3
      go_wp2
      go_roundw
      case rel => exact ⟨k + 1, r, by omega, by go_num, rfl, by rw [hs.out]; exact hr, by obtain ⟨q, hq⟩ := hw.out; exact hid ⟨q + nq, by rw [hq, World.drewN_drewN]⟩⟩
      case measure => simp [intOf]; omega
    · have hkn : k = min n j := by omega
      by_cases hkn1 : k < n
      · have hi1 : (k : Int) < (n : Int) := by omega
        have hi2 : ¬ ((0 : Int) ≤ (j : Int) - 1 - (k : Int)) := by omega
        go_wp2_with fail
        go_ret
        exact ⟨_, rfl, by rw [HX.out, ← hkn]; exact hr0, hw.out⟩
      · have hi1 : ¬ ((k : Int) < (n : Int)) := by omega
        go_wp2_with fail
        go_ret
        exact ⟨_, rfl, by rw [HX.out, ← hkn]; exact hr0, hw.out⟩

end Go.Proofs.Ytofhemganefhcab
