/- What steps predict. -/
import Derived.Test.YtpmjiabllmomjaaW9
import Derived.Test.YtpmjiabllmomjaaV17
import Derived.Test.YtpmjiabllmomjaaT22
import Derived.Test.YtpmjiabllmomjaaHead
import Derived.Test.YtpmjiabllmomjaaV14
import Derived.Test.YtpmjiabllmomjaaFinOp
namespace Go.Proofs.Ytpmjiabllmomjaa
open Go.RowKit Flt
set_option linter.unusedVariables false


/-- the sum of the first k products of two lists -/
def dotK (us vs : List Nat) : Nat → Option Nat
  | 0 => some 0
  | k + 1 => fop .add .f32 (dotK us vs k) (fop .mul .f32 (cls .f32 (us.getD k 0)) (cls .f32 (vs.getD k 0)))
/-- what steps predict behind the first n numbers, from k products -/
def predK (us zs : List Nat) (n : Nat) : Nat → Option Nat
  | 0 => some 0
  | k + 1 => fop .add .f32 (predK us zs n k) (fop .mul .f32 (cls .f32 (us.getD k 0)) (cls .f32 (zs.getD (n - 1 - k) 0)))
def predX (us zs : List Nat) (n : Nat) : Option Nat := predK us zs n (min us.length n)
theorem dot_pred (us zs : List Nat) (n : Nat) (hn : n ≤ zs.length) : ∀ k, k ≤ n → dotK us (zs.take n).reverse k = predK us zs n k
  | 0, _ => rfl
  | k + 1, hk => by
    show fop .add .f32 _ _ = fop .add .f32 _ _
    rw [dot_pred us zs n hn k (by omega)]
    have e : (zs.take n).reverse.getD k 0 = zs.getD (n - 1 - k) 0 := by
      have h1 : (zs.take n).length = n := by simp; omega
      simp only [List.getD]
      rw [List.getElem?_reverse (by omega), h1, List.getElem?_take, if_pos (by omega)]
    rw [e]
set_option maxHeartbeats 2000000 in
set_option maxRecDepth 100000 in
theorem sumP_any (a1 a2 : Option Addr) (n m c1 c2 : Nat) (us vs : List Nat) (w : World) (h1 : Holds .f32 w a1 n us) (h2 : Holds .f32 w a2 m vs) (hn : n ≤ 1048576) (hm : m ≤ 1048576) :
    Calls Try.prog 73 #[.slice a1 n c1, .slice a2 m c2] w fun e w' => ∃ r, e = .returned (.float .f32 r) ∧ Is .f32 r (dotK us vs (min n m)) ∧ ∃ q, w' = w.drewN q := by
  have H1 := hid h1
  have H2 := hid h2
  have HN := hid hn
  have HM := hid hm
  clear h1 h2 hn hm
  by_cases hmn : m < n
  · skip
    go_enter Try.func73, Try.ntmps73
    go_wp2_with fail
    go_loopw [5, 13] (fun s i wr => ∃ (k r : Nat), k ≤ m ∧ i = .int .i64 k ∧ s = .float .f32 r ∧ Is .f32 r (dotK us vs k) ∧ Hid (∃ q, wr = w.drewN q)) (fun _ i _ => m - (intOf i).toNat)
    case atStart => exact ⟨0, _, Nat.zero_le _, rfl, rfl, show cls .f32 (floatOfInt .f32 0) = some 0 from by decide, hid ⟨0, rfl⟩⟩
    case round =>
      obtain ⟨k, r0, hk, rfl, rfl, hr0, hw⟩ := hrel
      have hn2 : n ≤ 1048576 := HN.out
      have hm2 : m ≤ 1048576 := HM.out
      by_cases hlt : k < m
      · have E0 : Ext w wr := by obtain ⟨q, hq⟩ := hw.out; rw [hq]; exact Ext.drewN (Ext.refl _) _
        obtain ⟨b, off, rfl, e1⟩ := cell_at H1.out E0 k (by omega)
        obtain ⟨b', off', rfl, e2⟩ := cell_at H2.out E0 k (by omega)
        have hs : Hid (dotK us vs (k + 1) = fop .add .f32 (dotK us vs k) (fop .mul .f32 (cls .f32 (us.getD k 0)) (cls .f32 (vs.getD k 0)))) := rfl
        generalize us.getD k 0 = x at e1 hs
        generalize vs.getD k 0 = y at e2 hs
        have hi0 : (0 : Int) ≤ (k : Int) := by omega
        have hi1 : (k : Int) < (n : Int) := by omega
        have hi2 : (k : Int) < (m : Int) := by omega
        have hi3 : (k : Int) < (m : Int) := by omega
        clear E0
        go_wp2_with fail
        refine wp_region_many (by kernel_rfl) (by kernel_rfl) (by kernel_rfl) ?_
        repeat (with_reducible refine wpM_cons ?_; first
          | (refine wpM_fa rfl rfl rfl rfl rfl (by first | assumption | exact is_self _ _) (by first | assumption | exact is_self _ _) ?_; intro r hr hrw)
          | (refine wpM_quiet rfl (fun K hK => ?_); go_simp; refine hK _ ?_; clear hK K))
        with_reducible refine wpM_nil ?_
        intro w3 hw3
        obtain ⟨nq, hw3⟩ := hw3
        subst hw3
        go_wp2
        go_roundw
        case rel => exact ⟨k + 1, r, by omega, by go_num, rfl, by rw [hs.out]; exact hr, by obtain ⟨q, hq⟩ := hw.out; exact hid ⟨q + nq, by rw [hq, World.drewN_drewN]⟩⟩
        case measure => simp [intOf]; omega
      · have hkn : k = m := by omega
        have hi3 : ¬ ((k : Int) < (m : Int)) := by omega
        go_wp2_with fail
        go_ret
        exact ⟨_, rfl, by rw [show min n m = k from by omega]; exact hr0, hw.out⟩
  · skip
    go_enter Try.func73, Try.ntmps73
    go_wp2_with fail
    go_loopw [5, 13] (fun s i wr => ∃ (k r : Nat), k ≤ n ∧ i = .int .i64 k ∧ s = .float .f32 r ∧ Is .f32 r (dotK us vs k) ∧ Hid (∃ q, wr = w.drewN q)) (fun _ i _ => n - (intOf i).toNat)
    case atStart => exact ⟨0, _, Nat.zero_le _, rfl, rfl, show cls .f32 (floatOfInt .f32 0) = some 0 from by decide, hid ⟨0, rfl⟩⟩
    case round =>
      obtain ⟨k, r0, hk, rfl, rfl, hr0, hw⟩ := hrel
      have hn2 : n ≤ 1048576 := HN.out
      have hm2 : m ≤ 1048576 := HM.out
      by_cases hlt : k < n
      · have E0 : Ext w wr := by obtain ⟨q, hq⟩ := hw.out; rw [hq]; exact Ext.drewN (Ext.refl _) _
        obtain ⟨b, off, rfl, e1⟩ := cell_at H1.out E0 k (by omega)
        obtain ⟨b', off', rfl, e2⟩ := cell_at H2.out E0 k (by omega)
        have hs : Hid (dotK us vs (k + 1) = fop .add .f32 (dotK us vs k) (fop .mul .f32 (cls .f32 (us.getD k 0)) (cls .f32 (vs.getD k 0)))) := rfl
        generalize us.getD k 0 = x at e1 hs
        generalize vs.getD k 0 = y at e2 hs
        have hi0 : (0 : Int) ≤ (k : Int) := by omega
        have hi1 : (k : Int) < (n : Int) := by omega
        have hi2 : (k : Int) < (m : Int) := by omega
        have hi3 : (k : Int) < (n : Int) := by omega
        clear E0
        go_wp2_with fail
        refine wp_region_many (by kernel_rfl) (by kernel_rfl) (by kernel_rfl) ?_
        repeat (with_reducible refine wpM_cons ?_; first
          | (refine wpM_fa rfl rfl rfl rfl rfl (by first | assumption | exact is_self _ _) (by first | assumption | exact is_self _ _) ?_; intro r hr hrw)
          | (refine wpM_quiet rfl (fun K hK => ?_); go_simp; refine hK _ ?_; clear hK K))
        with_reducible refine wpM_nil ?_
        intro w3 hw3
        obtain ⟨nq, hw3⟩ := hw3
        subst hw3
        go_wp2
        go_roundw
        case rel => exact ⟨k + 1, r, by omega, by go_num, rfl, by rw [hs.out]; exact hr, by obtain ⟨q, hq⟩ := hw.out; exact hid ⟨q + nq, by rw [hq, World.drewN_drewN]⟩⟩
        case measure => simp [intOf]; omega
      · have hkn : k = n := by omega
        have hi3 : ¬ ((k : Int) < (n : Int)) := by omega
        go_wp2_with fail
        go_ret
        exact ⟨_, rfl, by rw [show min n m = k from by omega]; exact hr0, hw.out⟩



def resC (us zs : List Nat) (k : Nat) : Option Nat := fop .sub .f32 (cls .f32 (zs.getD k 0)) (predX us zs k)
def resR (us : List Nat) (g : Option Nat) (zs : List Nat) : List (Option Nat) × Bool := if predC (us.map (cls .f32)) g && soundB (zs.map (cls .f32)) then soundR (resC us zs) zs.length else ([], false)
theorem res_len (us : List Nat) (g : Option Nat) (zs : List Nat) : (resR us g zs).1.length ≤ 256 := by
  unfold resR
  split
  · rename_i h
    simp only [Bool.and_eq_true] at h
    have h1 := sound_len h.2
    have := soundR_len (resC us zs) zs.length
    simp at h1
    omega
  · exact Nat.zero_le _
theorem hold_take {w : World} {a : Option Addr} {n k : Nat} {zs : List Nat} (h : Holds .f32 w a n zs) (hk : k ≤ n) : Holds .f32 w a k (zs.take k) := by
  refine ⟨by simp [h.1]; omega, ?_⟩
  by_cases h0 : k = 0
  · exact .inl h0
  · rcases h.2 with h1 | ⟨b, off, rfl, hb, hc⟩
    · omega
    · refine .inr ⟨b, off, rfl, hb, fun i hi => ?_⟩
      rw [hc i (by omega)]
      simp [List.getD, hi]


theorem listK_bad {C : Nat → Option Nat} {n k : Nat} (hk : k < n) (h : fin32 (C k) = false) : soundR C n = ([], false) := by
  unfold soundR finR2
  rw [if_neg]
  unfold finsC listK
  intro h2
  rw [List.all_eq_true] at h2
  have := h2 (C k) (List.mem_map.2 ⟨k, List.mem_range.2 hk, rfl⟩)
  rw [h] at this; cases this
theorem num_pred (us zs : List Nat) (n : Nat) : ∀ k b, predK us zs n k = some b → nanW .f32 b = false
  | 0, b, h => by cases h; decide
  | k + 1, b, h => num_of_fop b h
end Go.Proofs.Ytpmjiabllmomjaa
