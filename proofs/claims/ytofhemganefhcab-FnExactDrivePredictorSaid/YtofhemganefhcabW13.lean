/- What steps predict. -/
import Derived.Test.YtofhemganefhcabW9
import Derived.Test.YtofhemganefhcabV17
import Derived.Test.YtofhemganefhcabT22
import Derived.Test.YtofhemganefhcabHead
import Derived.Test.YtofhemganefhcabV14
import Derived.Test.YtofhemganefhcabFinOp
namespace Go.Proofs.Ytofhemganefhcab
open Go.RowKit Flt
set_option linter.unusedVariables false


/-- the sum of the first k products of two lists -/
def dotK (us vs : List Nat) : Nat → Option Nat
  | 0 => some 0
  | k + 1 => fop .add .f32 (dotK us vs k) (fop .mul .f32 (cls .f32 (us.getD k 0)) (cls .f32 (vs.getD k 0)))
/-- what steps predict behind the first n numbers, from k products -/
def predK (us zs : List Nat) (n : Nat) : Nat → Option Nat
  | 0 => some 0
  | k + 1 => fop .add .f32 (predK us zs n k) (fop .mul .f32 (cls .f32 (us.getD k 0)) (cls .f32 (zs.getD (n - 1 - k) 0)))
def predX (us zs : List Nat) (n : Nat) : Option Nat := predK us zs n (min us.length n)
theorem dot_pred (us zs : List Nat) (n : Nat) (hn : n ≤ zs.length) : ∀ k, k ≤ n → dotK us (zs.take n).reverse k = predK us zs n k
  | 0, _ => rfl
  | k + 1, hk => by
    show fop .add .f32 _ _ = fop .add .f32 _ _
    rw [dot_pred us zs n hn k (by omega)]
    have e : (zs.take n).reverse.getD k 0 = zs.getD (n - 1 - k) 0 := by
      have h1 : (zs.take n).length = n := by simp; omega
      simp only [List.getD]
      rw [List.getElem?_reverse (by omega), h1, List.getElem?_take, if_pos (by omega)]
    rw [e]
set_option maxHeartbeats 2000000 in
set_option maxRecDepth 100000 in
theorem sumP_any (a1 a2 : Option Addr) (n m c1 c2 : Nat) (us vs : List Nat) (w : World) (h1 : Holds .f32 w a1 n us) (h2 : Holds .f32 w a2 m vs) (hn : n ≤ 1048576) (hm : m ≤ 1048576) :
    Calls Try.prog 118 #[.slice a1 n c1, .slice a2 m c2] w fun e w' => ∃ r, e = .returned (.float .f32 r) ∧ Is .f32 r (dotK us vs (min n m)) ∧ ∃ q, w' = w.drewN q := by
  have H1 := hid h1
  have H2 := hid h2
  have HN := hid hn
  have HM := hid hm
  clear h1 h2 hn hm
  by_cases hmn : m < n
  · skip
    go_enter Try.func118, Try.ntmps118
    go_wp2_with fail
    go_loopw [5, 13] (fun s i wr => ∃ (k r : Nat), k ≤ m ∧ i = .int .i64 k ∧ s = .float .f32 r ∧ Is .f32 r (dotK us vs k) ∧ Hid (∃ q, wr = w.drewN q)) (fun _ i _ => m - (intOf i).toNat)
    case atStart => exact ⟨0, _, Nat.zero_le _, rfl, rfl, show cls .f32 (floatOfInt .f32 0) = some 0 from by decide, hid ⟨0, rfl⟩⟩
    case round =>
      obtain ⟨k, r0, hk, rfl, rfl, hr0, hw⟩ := hrel
      have hn2 : n ≤ 1048576 := HN.out
      have hm2 : m ≤ 1048576 := HM.out
      by_cases hlt : k < m
      · have E0 : Ext w wr := by obtain ⟨q, hq⟩ := hw.out; rw [hq]; exact Ext.drewN (Ext.refl _) _
        obtain ⟨b, off, rfl, e1⟩ := cell_at H1.out E0 k (by omega)
        obtain ⟨b', off', rfl, e2⟩ := cell_at H2.out E0 k (by omega)
        have hs : Hid (dotK us vs (k + 1) = fop .add .f32 (dotK us vs k) (fop .mul .f32 (cls .f32 (us.getD k 0)) (cls .f32 (vs.getD k 0)))) := rfl
        generalize us.getD k 0 = x at e1 hs
        generalize vs.getD k 0 = y at e2 hs
        have hi0 : (0 : Int) ≤ (k : Int) := by omega
        have hi1 : (k : Int) < (n : Int) := by omega
        have hi2 : (k : Int) < (m : Int) := by omega
        have hi3 : (k : Int) < (m : Int) := by omega
        clear E0
        go_wp2_with fail
        refine wp_region_many (by kernel_rfl) (by kernel_rfl) (by kernel_rfl) ?_
        repeat (with_reducible refine wpM_cons ?_; first
          | (refine wpM_fa rfl rfl rfl rfl rfl (by first | assumption | exact is_self _ _) (by first | assumption | exact is_self _ _) ?_; intro r hr hrw)
          | (refine wpM_quiet rfl (fun K hK => ?_); go_simp; refine hK _ ?_; clear hK K))
        with_reducible refine wpM_nil ?_
        intro w3 hw3
        obtain ⟨nq, hw3⟩ := hw3
        subst hw3
        go_wp2
        go_roundw
        case rel => exact ⟨k + 1, r, by omega, by go_num, rfl, by rw [hs.out]; exact hr, by obtain ⟨q, hq⟩ := hw.out; exact hid ⟨q + nq, by rw [hq, World.drewN_drewN]⟩⟩
        case measure => simp [intOf]; omega
      · have hkn : k = m := by omega
        have hi3 : ¬ ((k : Int) < (m : Int)) := by omega
        go_wp2_with fail
        go_ret
        exact ⟨_, rfl, by rw [show min n m = k from by omega]; exact hr0, hw.out⟩
  · skip
    go_enter Try.func118, Try.ntmps118
    go_wp2_with fail
    go_loopw [5, 13] (fun s i wr => ∃ (k r : Nat), k ≤ n ∧ i = .int .i64 k ∧ s = .float .f32 r ∧ Is .f32 r (dotK us vs k) ∧ Hid (∃ q, wr = w.drewN q)) (fun _ i _ => n - (intOf i).toNat)
    case atStart => exact ⟨0, _, Nat.zero_le _, rfl, rfl, show cls .f32 (floatOfInt .f32 0) = some 0 from by decide, hid ⟨0, rfl⟩⟩
    case round =>
      obtain ⟨k, r0, hk, rfl, rfl, hr0, hw⟩ := hrel
      have hn2 : n ≤ 1048576 := HN.out
      have hm2 : m ≤ 1048576 := HM.out
      by_cases hlt : k < n
      · have E0 : Ext w wr := by obtain ⟨q, hq⟩ := hw.out; rw [hq]; exact Ext.drewN (Ext.refl _) _
        obtain ⟨b, off, rfl, e1⟩ := cell_at H1.out E0 k (by omega)
        obtain ⟨b', off', rfl, e2⟩ := cell_at H2.out E0 k (by omega)
        have hs : Hid (dotK us vs (k + 1) = fop .add .f32 (dotK us vs k) (fop .mul .f32 (cls .f32 (us.getD k 0)) (cls .f32 (vs.getD k 0)))) := rfl
        generalize us.getD k 0 = x at e1 hs
        generalize vs.getD k 0 = y at e2 hs
        have hi0 : (0 : Int) ≤ (k : Int) := by omega
        have hi1 : (k : Int) < (n : Int) := by omega
        have hi2 : (k : Int) < (m : Int) := by omega
        have hi3 : (k : Int) < (n : Int) := by omega
        clear E0
        go_wp2_with fail
        refine wp_region_many (by kernel_rfl) (by kernel_rfl) (by kernel_rfl) ?_
        repeat (with_reducible refine wpM_cons ?_; first
          | (refine wpM_fa rfl rfl rfl rfl rfl (by first | assumption | exact is_self _ _) (by first | assumption | exact is_self _ _) ?_; intro r hr hrw)
          | (refine wpM_quiet rfl (fun K hK => ?_); go_simp; refine hK _ ?_; clear hK K))
        with_reducible refine wpM_nil ?_
        intro w3 hw3
        obtain ⟨nq, hw3⟩ := hw3
        subst hw3
        go_wp2
        go_roundw
        case rel => exact ⟨k + 1, r, by omega, by go_num, rfl, by rw [hs.out]; exact hr, by obtain ⟨q, hq⟩ := hw.out; exact hid ⟨q + nq, by rw [hq, World.drewN_drewN]⟩⟩
        case measure => simp [intOf]; omega
      · have hkn : k = n := by omega
        have hi3 : ¬ ((k : Int) < (n : Int)) := by omega
        go_wp2_with fail
        go_ret
        exact ⟨_, rfl, by rw [show min n m = k from by omega]; exact hr0, hw.out⟩
theorem reverse_zero (a : Option Addr) (c : Nat) (w : World) : Calls Try.prog 117 #[.slice a 0 c] w fun e w' => e = .returned (.tuple #[]) ∧ w = w' := by
  go_enter Try.func117, Try.ntmps117
  go_wp2
  refine wp_loop_rounds 1 ?_
  rw [rounds_succ]
  go_wp2
  first | (go_ret; exact ⟨rfl, rfl⟩) | (go_returns; exact ⟨rfl, rfl⟩)
set_option maxHeartbeats 2000000 in
set_option maxRecDepth 100000 in
theorem pred_any (a1 a2 : Option Addr) (n m c1 c2 : Nat) (us zs : List Nat) (w : World) (h1 : Holds .f32 w a1 n us) (h2 : Holds .f32 w a2 m (zs.take m)) (hz : m ≤ zs.length) (hn : n ≤ 1048576) (hm : m ≤ 1048576) :
    Calls Try.prog 68 #[.slice a1 n c1, .slice a2 m c2] w fun e w' => ∃ r, e = .returned (.float .f32 r) ∧ Is .f32 r (predX us zs m) ∧ Ext w w' := by
  have H1 := hid h1
  have H2 := hid h2
  have HN := hid hn
  have HM := hid hm
  have HZ := hid hz
  have HX := hid (show predX us zs m = dotK us (zs.take m).reverse (min n m) from by unfold predX; rw [h1.1, dot_pred us zs m hz _ (Nat.min_le_right _ _)])
  clear h1 h2 hn hm hz
  by_cases h0 : m = 0
  · subst h0
    go_enter Try.func68, Try.ntmps68
    go_wp2_with fail
    refine (clone_zero a2 c2 _).mono ?_
    rintro e w1 ⟨v, rfl, O1, E1⟩
    obtain ⟨b, c', rfl, _, _⟩ := Own.holds O1
    have HO := hid O1
    have HE := hid E1
    clear O1 E1
    go_wp2_with (go_at_call 117; refine (reverse_zero _ _ _).mono ?_; rintro e w' ⟨rfl, rfl⟩)
    refine (sumP_any a1 b n 0 c1 c' us [] _ (Holds.ext H1.out HE.out) (own_hold HO.out) HN.out HM.out).mono ?_
    rintro e w2 ⟨r, rfl, hr, q, rfl⟩
    go_wp2
    go_ret
    exact ⟨r, rfl, by rw [HX.out]; simpa using hr, Ext.drewN HE.out q⟩
  · go_enter Try.func68, Try.ntmps68
    go_wp2_with fail
    refine (clone_any a2 m c2 (zs.take m) _ H2.out (by omega) HM.out).mono ?_
    rintro e w1 ⟨b, c', rfl, O1, E1⟩
    have HO := hid O1
    have HE := hid E1
    clear O1 E1
    go_wp2_with fail
    refine (reverse_any b m c' w.heap.size (zs.take m) _ HO.out (by omega) HM.out).mono ?_
    rintro e w2 ⟨rfl, O2, B2⟩
    have HO2 := hid O2
    have HE2 := hid (show Ext w w2 from But.below B2 HE.out (fun k hk => by cases hk; exact (Own.block HO.out b rfl).1))
    clear O2 B2
    go_wp2_with fail
    refine (sumP_any a1 (some ⟨b, 0, none⟩) n m c1 c' us (zs.take m).reverse _ (Holds.ext H1.out HE2.out) (own_hold HO2.out) HN.out HM.out).mono ?_
    rintro e w3 ⟨r, rfl, hr, q, rfl⟩
    go_wp2
    go_ret
    exact ⟨r, rfl, by rw [HX.out]; exact hr, Ext.drewN HE2.out q⟩
set_option maxHeartbeats 2000000 in
set_option maxRecDepth 100000 in
theorem l04At_any (x : Nat) (a a2 : Option Addr) (n c m c2 g : Nat) (j : Nat) (us zs : List Nat) (w : World) (hb : Box w x #[.slice a n c, .float .f32 g]) (h1 : Holds .f32 w a n us) (h2 : Holds .f32 w a2 m zs) (hn : n ≤ 1048576) (hm : m ≤ 1048576) (hj : j ≤ m) :
    Calls Try.prog 64 #[.pointer (some ⟨x, 0, none⟩), .slice a2 m c2, .int .i64 (j : Int)] w fun e w' => ∃ r, e = .returned (.float .f32 r) ∧ Is .f32 r (predX us zs j) ∧ ∃ q, w' = w.drewN q := by
  have H1 := hid h1
  have H2 := hid h2
  have HB := hid hb
  have HN := hid hn
  have HM := hid hm
  have HJ := hid hj
  clear h1 h2 hn hm hb hj
  have HX := hid (show predX us zs j = predK us zs j (min n j) from by unfold predX; rw [H1.out.1])
  go_enter Try.func64, Try.ntmps64
  go_wp2_with fail
  go_loopw [7, 8] (fun s i wr => ∃ (k r : Nat), k ≤ min n j ∧ i = .int .i64 k ∧ s = .float .f32 r ∧ Is .f32 r (predK us zs j k) ∧ Hid (∃ q, wr = w.drewN q)) (fun _ i _ => min n j - (intOf i).toNat)
  case atStart => exact ⟨0, 0, Nat.zero_le _, rfl, rfl, is_const (by decide), hid ⟨0, rfl⟩⟩
  case round =>
    obtain ⟨k, r0, hk, rfl, rfl, hr0, hw⟩ := hrel
    have hn2 : n ≤ 1048576 := HN.out
    have hm2 : m ≤ 1048576 := HM.out
    have hj2 : j ≤ m := HJ.out
    have E0 : Ext w wr := by obtain ⟨q, hq⟩ := hw.out; rw [hq]; exact Ext.drewN (Ext.refl _) _
    obtain ⟨x0, x1, xl⟩ := Box.cells2 (Box.ext HB.out E0)
    by_cases hlt : k < min n j
    · obtain ⟨b, off, rfl, e1⟩ := cell_at H1.out E0 k (by omega)
      obtain ⟨b', off', rfl, e2⟩ := cell_at H2.out E0 (j - 1 - k) (by omega)
      have hs : Hid (predK us zs j (k + 1) = fop .add .f32 (predK us zs j k) (fop .mul .f32 (cls .f32 (us.getD k 0)) (cls .f32 (zs.getD (j - 1 - k) 0)))) := rfl
      generalize us.getD k 0 = u at e1 hs
      generalize zs.getD (j - 1 - k) 0 = y at e2 hs
      have hi0 : (0 : Int) ≤ (k : Int) := by omega
      have hi1 : (k : Int) < (n : Int) := by omega
      have hi4 : (j : Int) - 1 - (k : Int) = ((j - 1 - k : Nat) : Int) := by omega
      have hi5 : (0 : Int) ≤ ((j - 1 - k : Nat) : Int) := by omega
      have hi6 : ((j - 1 - k : Nat) : Int) < (m : Int) := by omega
      have hi7 : ((j - 1 - k : Nat) : Int).toNat = j - 1 - k := rfl
      have hi8 : j - 1 - k < 1048576 := by omega
      clear E0
      generalize hp : j - 1 - k = p at *
      go_wp2_with fail
      refine wp_region_many (by kernel_rfl) (by kernel_rfl) (by kernel_rfl) ?_
      repeat (with_reducible refine wpM_cons ?_; first
        | (refine wpM_fa rfl rfl rfl rfl rfl (by first | assumption | exact is_self _ _) (by first | assumption | exact is_self _ _) ?_; intro r hr hrw)
        | (refine wpM_mult0 rfl rfl ?_; refine mult_isub (j - 1 : Int) rfl rfl rfl (by omega) (by omega) (by omega) ?_; simp only [Act.put, List.setIfInBounds_toArray, List.set_cons_zero, List.set_cons_succ])
        | (refine wpM_mult0 rfl rfl ?_; refine mult_isub (p : Int) rfl rfl rfl (by omega) (by omega) (by omega) ?_; simp only [Act.put, List.setIfInBounds_toArray, List.set_cons_zero, List.set_cons_succ])
        | (refine wpM_quiet rfl (fun K hK => ?_); go_simp; refine hK _ ?_; clear hK K))
      with_reducible refine wpM_nil ?_
      intro w3 hw3
      obtain ⟨nq, hw3⟩ := hw3
      subst hw3
      go_wp2
      go_roundw
      case rel => exact ⟨k + 1, r, by omega, by go_num, rfl, by rw [hs.out]; exact hr, by obtain ⟨q, hq⟩ := hw.out; exact hid ⟨q + nq, by rw [hq, World.drewN_drewN]⟩⟩
      case measure => simp [intOf]; omega
    · have hkn : k = min n j := by omega
      by_cases hkn1 : k < n
      · have hi1 : (k : Int) < (n : Int) := by omega
        have hi2 : ¬ ((0 : Int) ≤ (j : Int) - 1 - (k : Int)) := by omega
        go_wp2_with fail
        go_ret
        exact ⟨_, rfl, by rw [HX.out, ← hkn]; exact hr0, hw.out⟩
      · have hi1 : ¬ ((k : Int) < (n : Int)) := by omega
        go_wp2_with fail
        go_ret
        exact ⟨_, rfl, by rw [HX.out, ← hkn]; exact hr0, hw.out⟩



def resC (us zs : List Nat) (k : Nat) : Option Nat := fop .sub .f32 (cls .f32 (zs.getD k 0)) (predX us zs k)
def resR (us : List Nat) (g : Option Nat) (zs : List Nat) : List (Option Nat) × Bool := if predC (us.map (cls .f32)) g && soundB (zs.map (cls .f32)) then soundR (resC us zs) zs.length else ([], false)
theorem res_len (us : List Nat) (g : Option Nat) (zs : List Nat) : (resR us g zs).1.length ≤ 256 := by
  unfold resR
  split
  · rename_i h
    simp only [Bool.and_eq_true] at h
    have h1 := sound_len h.2
    have := soundR_len (resC us zs) zs.length
    simp at h1
    omega
  · exact Nat.zero_le _
theorem hold_take {w : World} {a : Option Addr} {n k : Nat} {zs : List Nat} (h : Holds .f32 w a n zs) (hk : k ≤ n) : Holds .f32 w a k (zs.take k) := by
  refine ⟨by simp [h.1]; omega, ?_⟩
  by_cases h0 : k = 0
  · exact .inl h0
  · rcases h.2 with h1 | ⟨b, off, rfl, hb, hc⟩
    · omega
    · refine .inr ⟨b, off, rfl, hb, fun i hi => ?_⟩
      rw [hc i (by omega)]
      simp [List.getD, hi]
set_option maxHeartbeats 2000000 in
set_option maxRecDepth 100000 in
theorem res_clo (k b1 b2 n c g m c2 bs os : Nat) (a : Option Addr) (us zs : List Nat) (w : World) (hk : k < m) (hn : n ≤ 1048576) (hm : m ≤ 1048576) (hcap : m ≤ c2) (h1 : Box w b1 #[.slice (some ⟨bs, os, none⟩) m c2]) (h2 : Box w b2 #[.slice a n c, .float .f32 g])
    (hu : Holds .f32 w a n us) (hv : Holds .f32 w (some ⟨bs, os, none⟩) m zs) :
    Calls Try.prog 71 #[.int .i64 (k : Int), .pointer (some ⟨b1, 0, none⟩), .pointer (some ⟨b2, 0, none⟩)] w fun e w' => ∃ r, e = .returned (.float .f32 r) ∧ cls .f32 r = resC us zs k ∧ Ext w w' := by
  obtain ⟨q1, l1⟩ := Box.cells1 h1
  obtain ⟨q2, q3, l2⟩ := Box.cells2 h2
  obtain ⟨p, o, hpo, e1⟩ := cell_at hv (Ext.refl _) k hk
  simp only [Option.some.injEq, Addr.mk.injEq] at hpo
  obtain ⟨rfl, rfl, _⟩ := hpo
  have hbl : bs < w.heap.size := by
    rcases hv.2 with h0 | ⟨b, off, hb, hl, _⟩
    · omega
    · simp only [Option.some.injEq, Addr.mk.injEq] at hb; obtain ⟨rfl, _⟩ := hb; exact hl
  have F1 := grown_cell (p := ⟨b1, 0, none⟩) l1 q1
  have F2 := grown_cell (p := ⟨b2, 0, none⟩) l2 q2
  have F4 := grown_cell (p := ⟨bs, os + k, none⟩) hbl e1
  have HU := hid hu
  have HV := hid hv
  have HC : Hid (resC us zs k = fop .sub .f32 (cls .f32 (zs.getD k 0)) (predX us zs k)) := rfl
  generalize zs.getD k 0 = x at e1 F4 HC
  have hi0 : (0 : Int) ≤ (k : Int) := by omega
  have hi1 : (k : Int) < (m : Int) := by omega
  have hi2 : (k : Int) ≤ (m : Int) := by omega
  have hi3 : (k : Int) ≤ (c2 : Int) := by omega
  have hi4 : k ≤ c2 := by omega
  clear h1 h2 hu hv
  go_enter Try.func71, Try.ntmps71
  go_wp2
  refine wp_region_call_tail 9 (by kernel_rfl) (by kernel_rfl) ?_
  simp only [List.take_succ_cons, List.take_zero, List.drop_succ_cons, List.drop_zero]
  repeat (with_reducible refine wpC_quiet (fun K hK => ?_); go_simp; refine hK _ ?_; clear hK K)
  refine wpC_call (f := 68) (args := #[.slice a n c, .slice (some ⟨bs, os, none⟩) k c2]) ?_ ?_ ?_
  · rfl
  · intro w9; go_simp
  intro w1 E1
  refine (pred_any a (some ⟨bs, os, none⟩) n k c c2 us zs w1 (Holds.ext HU.out E1) (hold_take (Holds.ext HV.out E1) (by omega)) (by rw [HV.out.1]; omega) hn (by omega)).mono ?_
  rintro e w2 ⟨r, rfl, hr, E2⟩
  refine ⟨_, rfl, Ext.trans E1 E2, ?_⟩
  intro w3 E3
  go_wp2_with (first | (refine wpList_fa rfl rfl rfl rfl rfl (is_self .f32 x) hr ?_; intro r2 m2 hr2 hrw2))
  go_ret
  exact ⟨_, rfl, by rw [HC.out]; exact Is.out hr2, Ext.drewN E3 _⟩



theorem listK_bad {C : Nat → Option Nat} {n k : Nat} (hk : k < n) (h : fin32 (C k) = false) : soundR C n = ([], false) := by
  unfold soundR finR2
  rw [if_neg]
  unfold finsC listK
  intro h2
  rw [List.all_eq_true] at h2
  have := h2 (C k) (List.mem_map.2 ⟨k, List.mem_range.2 hk, rfl⟩)
  rw [h] at this; cases this
theorem num_pred (us zs : List Nat) (n : Nat) : ∀ k b, predK us zs n k = some b → nanW .f32 b = false
  | 0, b, h => by cases h; decide
  | k + 1, b, h => num_of_fop b h
theorem l04Both_drew (x : Nat) (a a2 : Option Addr) (n c m c2 g : Nat) (us zs : List Nat) (V : Bool) (w : World) (hb : Box w x #[.slice a n c, .float .f32 g]) (h1 : Holds .f32 w a n us) (h2 : Holds .f32 w a2 m zs) (hn : n ≤ 1048576) (hm : m ≤ 1048576) (hV : (predC (us.map (cls .f32)) (cls .f32 g) && soundB (zs.map (cls .f32))) = V) :
    Calls Try.prog 61 #[.pointer (some ⟨x, 0, none⟩), .slice a2 m c2] w fun e w' => e = .returned (.bool V) ∧ ∃ q, w' = w.drewN q := by
  have H1 := hid h1
  have H2 := hid h2
  have HB := hid hb
  have HN := hid hn
  have HM := hid hm
  subst hV
  clear h1 h2 hn hm hb
  cases hA : predC (us.map (cls .f32)) (cls .f32 g)
  · go_enter Try.func61, Try.ntmps61
    go_wp2_with (go_at_call 57; refine (l04Is_drew a n c g us _ _ _ HB.out H1.out HN.out hA).mono ?_; rintro e w' ⟨rfl, m1, rfl⟩)
    go_ret
    exact ⟨rfl, _, rfl⟩
  · cases hB : soundB (zs.map (cls .f32))
    all_goals
      go_enter Try.func61, Try.ntmps61
      go_wp2_with (first | (go_at_call 57; refine (l04Is_drew a n c g us _ _ _ HB.out H1.out HN.out hA).mono ?_; rintro e w' ⟨rfl, m1, rfl⟩) | (go_at_call 77; refine (l04Sound_drew a2 m c2 zs _ _ (Holds.ext H2.out (by (repeat with_reducible (first | exact Ext.refl _ | exact ext_alloc _ _ | refine Ext.drewN ?_ _ | refine Ext.drew1 ?_ | refine Ext.set ?_ (by dsimp only; omega) _ | refine Ext.alloc ?_ _)))) HM.out hB).mono ?_; rintro e w' ⟨rfl, m2, rfl⟩))
      go_ret
      exact ⟨rfl, _, rfl⟩

set_option maxHeartbeats 4000000 in
set_option maxRecDepth 100000 in
theorem res_any (a : Option Addr) (n c g bs os m c2 : Nat) (us zs : List Nat) (R : List (Option Nat)) (O : Bool) (w : World) (h1 : Holds .f32 w a n us) (h2 : Holds .f32 w (some ⟨bs, os, none⟩) m zs) (hn : n ≤ 1048576) (hm : m ≤ 1048576) (hcap : m ≤ c2) (hR : resR us (cls .f32 g) zs = (R, O)) :
    Calls Try.prog 29 #[.agg #[.slice a n c, .float .f32 g], .slice (some ⟨bs, os, none⟩) m c2] w fun e w' => ∃ v, e = .returned (.tuple #[v, .bool O]) ∧ ListIs w' w.heap.size R v ∧ Ext w w' := by
  have H1 := hid h1
  have H2 := hid h2
  have HN := hid hn
  have HM := hid hm
  have HR := hid hR
  clear h1 h2 hn hm hR
  cases hV : predC (us.map (cls .f32)) (cls .f32 g)
  · have e : O = false ∧ R = [] := by have := HR.out; unfold resR at this; rw [hV] at this; simpa [eq_comm, and_comm] using this
    obtain ⟨rfl, rfl⟩ := e
    go_enter Try.func29, Try.ntmps29
    go_wp2_with (first | (go_at_call 65; with_reducible refine (validP_drew a n c g us _ _ (Holds.ext H1.out (by (repeat with_reducible (first | exact Ext.refl _ | exact ext_alloc _ _ | refine Ext.drewN ?_ _ | refine Ext.drew1 ?_ | refine Ext.set ?_ (by dsimp only; omega) _ | refine Ext.alloc ?_ _)))) HN.out hV).mono ?_; rintro e w' ⟨rfl, m1, rfl⟩))
    go_returns
    refine ⟨_, rfl, nil_is _ _, ?_⟩
    (repeat with_reducible (first | exact Ext.refl _ | exact ext_alloc _ _ | refine Ext.drewN ?_ _ | refine Ext.drew1 ?_ | refine Ext.set ?_ (by dsimp only; omega) _ | refine Ext.alloc ?_ _))
  cases hA : soundB (zs.map (cls .f32))
  · have e : O = false ∧ R = [] := by have := HR.out; unfold resR at this; rw [hV, hA] at this; simpa [eq_comm, and_comm] using this
    obtain ⟨rfl, rfl⟩ := e
    go_enter Try.func29, Try.ntmps29
    go_wp2_with (first | (go_at_call 65; with_reducible refine (validP_drew a n c g us _ _ (Holds.ext H1.out (by (repeat with_reducible (first | exact Ext.refl _ | exact ext_alloc _ _ | refine Ext.drewN ?_ _ | refine Ext.drew1 ?_ | refine Ext.set ?_ (by dsimp only; omega) _ | refine Ext.alloc ?_ _)))) HN.out hV).mono ?_; rintro e w' ⟨rfl, m1, rfl⟩) | (go_at_call 66; with_reducible refine (isSound_drew _ m c2 zs _ _ (Holds.ext H2.out (by (repeat with_reducible (first | exact Ext.refl _ | exact ext_alloc _ _ | refine Ext.drewN ?_ _ | refine Ext.drew1 ?_ | refine Ext.set ?_ (by dsimp only; omega) _ | refine Ext.alloc ?_ _)))) HM.out hA).mono ?_; rintro e w' ⟨rfl, m2, rfl⟩))
    go_returns
    refine ⟨_, rfl, nil_is _ _, ?_⟩
    (repeat with_reducible (first | exact Ext.refl _ | exact ext_alloc _ _ | refine Ext.drewN ?_ _ | refine Ext.drew1 ?_ | refine Ext.set ?_ (by dsimp only; omega) _ | refine Ext.alloc ?_ _))
  have HS := hid (show soundR (resC us zs) m = (R, O) from by have := HR.out; unfold resR at this; rw [hV, hA, H2.out.1] at this; simpa using this)
  clear HR
  go_enter Try.func29, Try.ntmps29
  go_wp2_with (first | (go_at_call 65; with_reducible refine (validP_drew a n c g us _ _ (Holds.ext H1.out (by (repeat with_reducible (first | exact Ext.refl _ | exact ext_alloc _ _ | refine Ext.drewN ?_ _ | refine Ext.drew1 ?_ | refine Ext.set ?_ (by dsimp only; omega) _ | refine Ext.alloc ?_ _)))) HN.out hV).mono ?_; rintro e w' ⟨rfl, m1, rfl⟩) | (go_at_call 66; with_reducible refine (isSound_drew _ m c2 zs _ _ (Holds.ext H2.out (by (repeat with_reducible (first | exact Ext.refl _ | exact ext_alloc _ _ | refine Ext.drewN ?_ _ | refine Ext.drew1 ?_ | refine Ext.set ?_ (by dsimp only; omega) _ | refine Ext.alloc ?_ _)))) HM.out hA).mono ?_; rintro e w' ⟨rfl, m2, rfl⟩))
  try simp only [World.drewN_drewN]
  obtain ⟨w0, hw0⟩ : ∃ u, u = (((w.alloc (.cells #[.slice a n c, .float .f32 g] 29)).alloc (.cells #[.slice (some ⟨bs, os, none⟩) m c2] 22)).alloc (.cells #[.slice a n c, .float .f32 g] 29)).drewN (m1 + m2) := ⟨_, rfl⟩
  rw [← hw0]
  have EX := hid (show Ext w w0 from by rw [hw0]; (repeat with_reducible (first | exact Ext.refl _ | exact ext_alloc _ _ | refine Ext.drewN ?_ _ | refine Ext.drew1 ?_ | refine Ext.set ?_ (by dsimp only; omega) _ | refine Ext.alloc ?_ _)))
  have B0 : Hid (Box w0 w.heap.size #[.slice a n c, .float .f32 g]) := by rw [hw0]; exact hid (Box.drewN (Box.alloc (Box.alloc (box_new (w := w) #[.slice a n c, .float .f32 g] 29) _) _) _)
  have B1 : Hid (Box w0 (w.heap.size + 1) #[.slice (some ⟨bs, os, none⟩) m c2]) := by rw [hw0]; exact hid (Box.drewN (Box.cast' (Box.alloc (box_new (w := (w.alloc (.cells #[.slice a n c, .float .f32 g] 29))) #[.slice (some ⟨bs, os, none⟩) m c2] 22) _) (by simp)) _)
  clear hw0
  obtain ⟨q0, ql⟩ := Box.cells1 B1.out
  go_wp2_with fail
  refine (soundOf_any m 71 #[.pointer (some ⟨w.heap.size + 1, 0, none⟩), .pointer (some ⟨w.heap.size, 0, none⟩)] (resC us zs) R O w0 HM.out (fun _ _ => by simp [go_sem]) (fun k hk wr e => res_clo k _ _ n c g m c2 bs os a us zs wr hk HN.out HM.out hcap (Box.ext B1.out e) (Box.ext B0.out e) (Holds.ext H1.out (Ext.trans EX.out e)) (Holds.ext H2.out (Ext.trans EX.out e))) HS.out).mono ?_
  rintro e w1 ⟨v, rfl, hv, E1⟩
  have HL2 := hid hv
  have EY := hid (Ext.trans EX.out E1)
  have HZ := hid (show w.heap.size ≤ w0.heap.size from Ext.size EX.out)
  clear hv E1 q0 ql
  go_wp2_with fail
  go_returns
  exact ⟨_, rfl, ListIs.base HL2.out HZ.out, EY.out⟩

set_option maxHeartbeats 4000000 in
set_option maxRecDepth 100000 in
theorem l04Res_any (x : Nat) (a a2 : Option Addr) (n c m c2 g : Nat) (us zs : List Nat) (R : List (Option Nat)) (O : Bool) (w : World) (hb : Box w x #[.slice a n c, .float .f32 g]) (h1 : Holds .f32 w a n us) (h2 : Holds .f32 w a2 m zs) (hn : n ≤ 1048576) (hm : m ≤ 1048576) (hR : soundR (resC us zs) m = (R, O)) :
    Calls Try.prog 69 #[.pointer (some ⟨x, 0, none⟩), .slice a2 m c2] w fun e w' => ∃ v, e = .returned (.tuple #[v, .bool O]) ∧ ListIs w' w.heap.size R v ∧ Ext w w' := by
  have H1 := hid h1
  have H2 := hid h2
  have HB := hid hb
  have HN := hid hn
  have HM := hid hm
  have HS := hid hR
  clear h1 h2 hn hm hR hb
  obtain ⟨i0, hif, hz0, hz1, hz2⟩ := info_parts infoF
  have HI := hid (And.intro hif (And.intro hz0 (And.intro hz1 hz2)))
  clear hif hz0 hz1 hz2
  go_enter Try.func69, Try.ntmps69
  go_wp2_with fail
  go_loopw [6, 7] (fun v i wr => ∃ (k : Nat) (ys : List Nat), k ≤ m ∧ i = .int .i64 k ∧ Hid (Own wr w.heap.size k v ys) ∧ Hid (ys.map (cls .f32) = listK (resC us zs) k) ∧ Hid (Ext w wr)) (fun _ i _ => m - (intOf i).toNat)
  case atStart => exact ⟨0, [], Nat.zero_le _, rfl, hid (own_fresh (cs := #[]) (zs := []) (hid rfl) rfl (by simp) (by simp) (Nat.zero_le _)), rfl, hid (by (repeat with_reducible (first | exact Ext.refl _ | exact ext_alloc _ _ | refine Ext.drewN ?_ _ | refine Ext.drew1 ?_ | refine Ext.set ?_ (by dsimp only; omega) _ | refine Ext.alloc ?_ _)))⟩
  case round =>
    obtain ⟨k, ys, hk, rfl, ho, hyy, he⟩ := hrel
    have hm2 : m ≤ 1048576 := HM.out
    have hs := hid (listK_succ (resC us zs) k)
    by_cases hlt : k < m
    · have hi0 : (0 : Int) ≤ (k : Int) := by omega
      have hi1 : (k : Int) < (m : Int) := by omega
      have HCC : Hid (resC us zs k = fop .sub .f32 (cls .f32 (zs.getD k 0)) (predX us zs k)) := rfl
      have HNX : Hid (∀ b, predX us zs k = some b → nanW .f32 b = false) := num_pred us zs k _
      have HAT := hid (fun (w9 : World) (e9 : Ext w w9) => l04At_any x a a2 n c m c2 g k us zs w9 (Box.ext HB.out e9) (Holds.ext H1.out e9) (Holds.ext H2.out e9) HN.out HM.out (by omega))
      generalize predX us zs k = X at HCC HNX HAT
      cases hf : fin32 X
      · have hbad := listK_bad (C := resC us zs) hlt (by
          cases hq : fin32 (resC us zs k)
          · rfl
          · rw [HCC.out] at hq
            have hq2 := (fin_sub (num_of_cls _) HNX.out hq).2
            rw [hf] at hq2; cases hq2)
        have e : O = false ∧ R = [] := by have := HS.out; rw [hbad] at this; simpa [eq_comm, and_comm] using this
        obtain ⟨rfl, rfl⟩ := e
        go_wp2_with (first | (go_at_call 64; refine (HAT.out _ he.out).mono ?_; rintro e w' ⟨r, rfl, hr, q, rfl⟩) | (go_at_call 78; refine (l01Finite_any _ _).mono ?_; rintro e w' ⟨rfl, q2, rfl⟩; rw [Is.out hr, hf]))
        go_returns
        exact ⟨_, rfl, nil_is _ _, Ext.trans he.out (by (repeat with_reducible (first | exact Ext.refl _ | exact ext_alloc _ _ | refine Ext.drewN ?_ _ | refine Ext.drew1 ?_ | refine Ext.set ?_ (by dsimp only; omega) _ | refine Ext.alloc ?_ _)))⟩
      · obtain ⟨b, off, rfl, e1⟩ := cell_at H2.out he.out k hlt
        generalize zs.getD k 0 = u at e1 HCC
        have HSZ := hid (Ext.size he.out)
        go_wp2_with fail
        refine (HAT.out _ he.out).mono ?_
        rintro e w' ⟨r, rfl, hr, q, rfl⟩
        go_wp2_with (first | (go_at_call 78; refine (l01Finite_any _ _).mono ?_; rintro e w' ⟨rfl, q2, rfl⟩; rw [Is.out hr, hf]) | (refine wpList_fa rfl rfl rfl rfl rfl (is_self .f32 u) hr ?_; intro r2 m9 hr2 hrw2) | (at_builtin; refine wpList_append_lies _ rfl _ _ 22 rfl w.heap.size 23 i0 (.float .f32 0) 1 4 Try.underlying22 HI.out.1 HI.out.2.1 HI.out.2.2.1 HI.out.2.2.2 rfl (by decide) _ _ _ rfl (Own.ext ho.out (by (repeat with_reducible (first | exact Ext.refl _ | exact ext_alloc _ _ | refine Ext.drewN ?_ _ | refine Ext.drew1 ?_ | refine Ext.set ?_ (by dsimp only; omega) _ | refine Ext.alloc ?_ _)))) ⟨wr.heap.size, 0, none⟩ 1 1 [.float .f32 r2] rfl rfl (World.news_of_block (heap_alloc_new _ _)) (by intro u hu; simp at hu; subst hu; rfl) (by omega) (by have h9 := HM.out; unfold maxLen; omega) (by have h9 := HM.out; omega) (by have h8 := HSZ.out; simp; omega) _ rfl ?_; intro g cap w1 hown hgrow hat hlt2))
        have h1 := hid (own_snoc hown)
        have h2 := hid (show Ext w w1 from But.below hgrow (Ext.trans he.out (by (repeat with_reducible (first | exact Ext.refl _ | exact ext_alloc _ _ | refine Ext.drewN ?_ _ | refine Ext.drew1 ?_ | refine Ext.set ?_ (by dsimp only; omega) _ | refine Ext.alloc ?_ _)))) (fun k2 hk2 => (Own.block ho.out k2 hk2).1))
        have h3 := hid (show (ys ++ [r2]).map (cls .f32) = listK (resC us zs) (k + 1) from by rw [List.map_append, hyy.out, hs.out, HCC.out, ← Is.out hr2]; rfl)
        clear hown hgrow hat hlt2
        go_wp2
        go_roundw
        case rel => exact ⟨k + 1, ys ++ [r2], by omega, by go_num, h1, h3, h2⟩
        case measure => simp [intOf]; omega
    · have hkn : k = m := by omega
      subst hkn
      go_wp2_with fail
      refine (l02List_is _ _ w.heap.size ys R O _ ho.out HM.out (by rw [hyy.out]; exact HS.out)).mono ?_
      rintro e w1 ⟨u, rfl, hu, E1⟩
      have hu1 := hid hu
      have hx1 := hid (Ext.trans he.out E1)
      clear hu E1
      go_wp2
      go_ret2
      exact ⟨_, rfl, hu1.out, hx1.out⟩

set_option maxHeartbeats 4000000 in
set_option maxRecDepth 100000 in
theorem sRes_any (a a2 : Option Addr) (n c g m c2 : Nat) (us zs : List Nat) (R : List (Option Nat)) (O : Bool) (w : World) (h1 : Holds .f32 w a n us) (h2 : Holds .f32 w a2 m zs) (hn : n ≤ 1048576) (hm : m ≤ 1048576) (hR : resR us (cls .f32 g) zs = (R, O)) :
    Calls Try.prog 28 #[.agg #[.slice a n c, .float .f32 g], .slice a2 m c2] w fun e w' => ∃ v, e = .returned (.tuple #[v, .bool O]) ∧ ListIs w' w.heap.size R v ∧ Ext w w' := by
  have H1 := hid h1
  have H2 := hid h2
  have HN := hid hn
  have HM := hid hm
  have HR := hid hR
  clear h1 h2 hn hm hR
  cases hV : (predC (us.map (cls .f32)) (cls .f32 g) && soundB (zs.map (cls .f32)))
  · have e : O = false ∧ R = [] := by have := HR.out; unfold resR at this; rw [hV] at this; simpa [eq_comm, and_comm] using this
    obtain ⟨rfl, rfl⟩ := e
    go_enter Try.func28, Try.ntmps28
    go_wp2_with fail
    refine (l04Both_drew _ a a2 n c m c2 g us zs _ _ (box_new _ _) (Holds.ext H1.out (by (repeat with_reducible (first | exact Ext.refl _ | exact ext_alloc _ _ | refine Ext.drewN ?_ _ | refine Ext.drew1 ?_ | refine Ext.set ?_ (by dsimp only; omega) _ | refine Ext.alloc ?_ _)))) (Holds.ext H2.out (by (repeat with_reducible (first | exact Ext.refl _ | exact ext_alloc _ _ | refine Ext.drewN ?_ _ | refine Ext.drew1 ?_ | refine Ext.set ?_ (by dsimp only; omega) _ | refine Ext.alloc ?_ _)))) HN.out HM.out hV).mono ?_
    rintro e w1 ⟨rfl, q, rfl⟩
    go_wp2_with fail
    go_returns
    refine ⟨_, rfl, nil_is _ _, ?_⟩
    (repeat with_reducible (first | exact Ext.refl _ | exact ext_alloc _ _ | refine Ext.drewN ?_ _ | refine Ext.drew1 ?_ | refine Ext.set ?_ (by dsimp only; omega) _ | refine Ext.alloc ?_ _))
  have HS := hid (show soundR (resC us zs) m = (R, O) from by have := HR.out; unfold resR at this; rw [hV, H2.out.1] at this; simpa using this)
  clear HR
  go_enter Try.func28, Try.ntmps28
  go_wp2_with fail
  refine (l04Both_drew _ a a2 n c m c2 g us zs _ _ (box_new _ _) (Holds.ext H1.out (by (repeat with_reducible (first | exact Ext.refl _ | exact ext_alloc _ _ | refine Ext.drewN ?_ _ | refine Ext.drew1 ?_ | refine Ext.set ?_ (by dsimp only; omega) _ | refine Ext.alloc ?_ _)))) (Holds.ext H2.out (by (repeat with_reducible (first | exact Ext.refl _ | exact ext_alloc _ _ | refine Ext.drewN ?_ _ | refine Ext.drew1 ?_ | refine Ext.set ?_ (by dsimp only; omega) _ | refine Ext.alloc ?_ _)))) HN.out HM.out hV).mono ?_
  rintro e w1 ⟨rfl, q, rfl⟩
  go_wp2_with fail
  refine (l04Res_any _ a a2 n c m c2 g us zs R O _ (Box.drewN (box_new (w := w) #[.slice a n c, .float .f32 g] 29) _) (Holds.ext H1.out (by (repeat with_reducible (first | exact Ext.refl _ | exact ext_alloc _ _ | refine Ext.drewN ?_ _ | refine Ext.drew1 ?_ | refine Ext.set ?_ (by dsimp only; omega) _ | refine Ext.alloc ?_ _)))) (Holds.ext H2.out (by (repeat with_reducible (first | exact Ext.refl _ | exact ext_alloc _ _ | refine Ext.drewN ?_ _ | refine Ext.drew1 ?_ | refine Ext.set ?_ (by dsimp only; omega) _ | refine Ext.alloc ?_ _)))) HN.out HM.out HS.out).mono ?_
  rintro e w2 ⟨v, rfl, hv, E2⟩
  have HL2 := hid (ListIs.base hv (B' := w.heap.size) (by simp))
  have EY := hid (show Ext w w2 from Ext.trans (by (repeat with_reducible (first | exact Ext.refl _ | exact ext_alloc _ _ | refine Ext.drewN ?_ _ | refine Ext.drew1 ?_ | refine Ext.set ?_ (by dsimp only; omega) _ | refine Ext.alloc ?_ _))) E2)
  clear hv E2
  go_wp2_with fail
  go_returns
  exact ⟨_, rfl, HL2.out, EY.out⟩

end Go.Proofs.Ytofhemganefhcab
