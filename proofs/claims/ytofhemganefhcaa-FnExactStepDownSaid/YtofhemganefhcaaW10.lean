/- Damped predictors. -/
import Derived.Test.YtofhemganefhcaaW9
import Derived.Test.YtofhemganefhcaaV16
import Derived.Test.YtofhemganefhcaaShare
import Derived.Test.YtofhemganefhcaaT18
import Derived.Test.YtofhemganefhcaaT13
namespace Go.Proofs.Ytofhemganefhcaa
open Go.RowKit Flt
set_option linter.unusedVariables false

theorem infoP : (Try.prog.info? 28).map (·.size) = some 2 := by kernel_rfl
/-- a share is no more than 1 -/
theorem keep_le {w : Nat} (h1 : fcmp .geq (ford .f32 (cls .f32 w) (some 0)) = true) (h2 : fcmp .leq (ford .f32 (cls .f32 w) (some 1065353216)) = true) :
    cls .f32 w = some w ∧ ∃ s m j, FloatKind.f32.format.read w = .number s m j ∧ leP m j 0 ∧ -149 ≤ j := by
  cases hc : cls .f32 w with
  | none => rw [hc] at h1; cases h1
  | some b =>
    have hb : b = w := cls_word hc
    subst hb
    have hn := cls_ok .f32 b b hc
    rw [hc] at h1 h2
    refine ⟨rfl, ?_⟩
    have hz : FloatKind.f32.format.read 0 = .number false 0 (-149) := by decide
    have hz2 : FloatKind.f32.format.read 1065353216 = .number false (2 ^ 23) (-23) := by decide
    rcases read32 b hn with ⟨s, hr⟩ | ⟨s, m, i, hr, g1, g2, g3⟩
    · exfalso
      have o1 : FloatKind.f32.format.order b 0 = some (if s then .lt else .gt) := by unfold Ieee.Format.order; rw [hr, hz]; rfl
      have o2 : FloatKind.f32.format.order b 1065353216 = some (if s then .lt else .gt) := by unfold Ieee.Format.order; rw [hr, hz2]; rfl
      cases s
      · simp [fcmp, ford, o2] at h2
      · simp [fcmp, ford, o1] at h1
    · refine ⟨s, m, i, hr, ?_, g2⟩
      have ho : FloatKind.f32.format.order b 0 = some (compare (Ieee.signed s m (i - -149).toNat) (Ieee.signed false 0 (-149 - -149 : Int).toNat)) := by
        unfold Ieee.Format.order; rw [hr, hz]; exact order_num s false m 0 i (-149) (-149) g2 (by omega)
      have ho2 : FloatKind.f32.format.order b 1065353216 = some (compare (Ieee.signed s m (i - -149).toNat) (Ieee.signed false (2 ^ 23) (-23 - -149 : Int).toNat)) := by
        unfold Ieee.Format.order; rw [hr, hz2]; exact order_num s false m (2 ^ 23) i (-23) (-149) g2 (by omega)
      have hge : (0 : Int) ≤ Ieee.signed s m (i - -149).toNat := by
        rcases Int.lt_or_le (Ieee.signed s m (i - -149).toNat) (Ieee.signed false 0 (-149 - -149 : Int).toNat) with h | h
        · exfalso; rw [compare_lt h] at ho; simp [fcmp, ford, ho] at h1
        · rw [signed_val false] at h; simpa using h
      have hle : Ieee.signed s m (i - -149).toNat ≤ Ieee.signed false (2 ^ 23) (-23 - -149 : Int).toNat := by
        rcases Int.lt_or_le (Ieee.signed false (2 ^ 23) (-23 - -149 : Int).toNat) (Ieee.signed s m (i - -149).toNat) with h | h
        · exfalso; rw [compare_gt h] at ho2; simp [fcmp, ford, ho2] at h2
        · exact h
      rw [signed_val s] at hge hle
      rw [signed_val false, show (-23 - -149 : Int).toNat = 126 from by decide] at hle
      unfold leP
      by_cases hm0 : m = 0
      · exact .inl hm0
      · right
        have hpos : 0 < m * 2 ^ (i - -149).toNat := Nat.mul_pos (by omega) (Nat.two_pow_pos _)
        cases s
        · simp only [Bool.false_eq_true, if_false] at hle
          have hle2 : m * 2 ^ (i - -149).toNat ≤ 2 ^ 149 := by
            have : m * 2 ^ (i - -149).toNat ≤ 2 ^ 23 * 2 ^ 126 := by omega
            rwa [← Nat.pow_add] at this
          have hi : i ≤ 0 := by
            rcases Int.lt_or_le 0 i with h | h
            · exfalso
              have h3 : 2 ^ 149 < 2 ^ (i - -149).toNat := Nat.pow_lt_pow_right (by omega) (by omega)
              have h4 : 1 * 2 ^ (i - -149).toNat ≤ m * 2 ^ (i - -149).toNat := Nat.mul_le_mul_right _ (by omega)
              generalize 2 ^ (i - -149).toNat = P at *
              generalize 2 ^ 149 = Q at *
              omega
            · exact h
          refine ⟨hi, ?_⟩
          refine Nat.le_of_mul_le_mul_right (c := 2 ^ (i - -149).toNat) ?_ (Nat.two_pow_pos _)
          rw [← Nat.pow_add, show (0 - i).toNat + (i - -149).toNat = 149 from by omega]
          exact hle2
        · exfalso
          simp only [if_true] at hge
          omega
theorem mul_keep_fin {x q n : Nat} {t : Bool} {j : Int} (hf : fin32 (cls .f32 x) = true) (hr : FloatKind.f32.format.read q = .number t n j) (hl : leP n j 0) (hj : -149 ≤ j) : ∃ r, fop .mul .f32 (cls .f32 x) (some q) = cls .f32 r ∧ fin32 (cls .f32 r) = true := by
  obtain ⟨hc, s, m, i, hx, h1, h2, h3⟩ := fin_read hf
  rw [hc]
  have hm : fop .mul .f32 (some x) (some q) = some (FloatKind.f32.format.nearest (s ^^ t) (m * n) (i + j)) := by
    show floatBits .mul .f32 x q = _
    simp only [floatBits, Ieee.Format.mul, hx, hr, Ieee.Datum.product]
    rfl
  rw [hm]
  have key : ∃ m' i', FloatKind.f32.format.read (FloatKind.f32.format.nearest (s ^^ t) (m * n) (i + j)) = .number (s ^^ t) m' i' := by
    rcases hl with rfl | ⟨g1, g2⟩
    · obtain ⟨m', i', k1, _⟩ := near32 (s ^^ t) (m * 0) (i + j) 0 (.inl (Nat.mul_zero _)) (by omega) (by omega)
      exact ⟨m', i', k1⟩
    · by_cases hp : -149 ≤ i + j
      · obtain ⟨m', i', k1, _⟩ := near_fin (s ^^ t) (m * n) m (i + j) i h1 h2 h3 hp (by
          have : m * n * 2 ^ (i + j + 149).toNat ≤ m * 2 ^ (0 - j).toNat * 2 ^ (i + j + 149).toNat := Nat.mul_le_mul_right _ (Nat.mul_le_mul_left _ g2)
          refine Nat.le_trans this ?_
          rw [Nat.mul_assoc, ← Nat.pow_add]
          refine Nat.mul_le_mul_left _ (Nat.pow_le_pow_right (by omega) (by omega)))
        exact ⟨m', i', k1⟩
      · obtain ⟨m', i', k1, _⟩ := near32 (s ^^ t) (m * n) (i + j) (i + 24) (.inr ⟨by omega, by
          have : m * n ≤ 2 ^ 24 * 2 ^ (0 - j).toNat := Nat.mul_le_mul (Nat.le_of_lt (by simpa using h1)) g2
          refine Nat.le_trans this ?_
          rw [← Nat.pow_add]
          exact Nat.pow_le_pow_right (by omega) (by omega)⟩) (by omega) (by omega)
        exact ⟨m', i', k1⟩
  obtain ⟨m', i', k1⟩ := key
  have hnn := cls_num (k := .f32) (r := FloatKind.f32.format.nearest (s ^^ t) (m * n) (i + j)) (by rw [← read_nan, k1]; rfl)
  exact ⟨_, hnn.symm, by rw [hnn]; exact fin_of_read k1⟩
def powC (K X : Option Nat) : Nat → Option Nat
  | 0 => X
  | t + 1 => fop .mul .f32 (powC K X t) K
def dampAt (K : Option Nat) (zs : List Nat) (k t j : Nat) : Option Nat := if j < k then powC K (cls .f32 (zs.getD j 0)) (j + 1) else if j = k then powC K (cls .f32 (zs.getD j 0)) t else cls .f32 (zs.getD j 0)
def dampL (K : Option Nat) (zs : List Nat) : List (Option Nat) := (List.range zs.length).map fun j => powC K (cls .f32 (zs.getD j 0)) (j + 1)
def dampQ (zs : List Nat) (g K : Option Nat) : QR := if predC (zs.map (cls .f32)) g && (fcmp .geq (ford .f32 K (some 0)) && fcmp .leq (ford .f32 K (some 1065353216))) then ⟨true, dampL K zs, g⟩ else zeroQ
theorem dampQ_len (zs : List Nat) (g K : Option Nat) : (dampQ zs g K).cs.length ≤ 16 := by
  unfold dampQ
  split
  · rename_i h
    simp only [Bool.and_eq_true] at h
    have := (pred_len h.1).2
    simpa [dampL] using this
  · exact Nat.zero_le _
theorem damp_done {zs us : List Nat} {K : Option Nat} {n : Nat} (hz : zs.length = n) (hn : us.length = n) (h : ∀ j, j < n → cls .f32 (us.getD j 0) = dampAt K zs n 0 j) : us.map (cls .f32) = dampL K zs := by
  unfold dampL
  apply List.ext_getElem
  · simp [hn, hz]
  · intro j h1 h2
    simp at h1
    have := h j (by omega)
    unfold dampAt at this
    rw [if_pos (by omega)] at this
    simpa [List.getD, h1, show j < zs.length by omega] using this
theorem damp_next (K : Option Nat) (zs : List Nat) (k j : Nat) : dampAt K zs k (k + 1) j = dampAt K zs (k + 1) 0 j := by
  unfold dampAt
  by_cases h : j < k
  · rw [if_pos h, if_pos (by omega)]
  · by_cases h2 : j = k
    · rw [if_neg h, if_pos h2, if_pos (by omega), h2]
    · rw [if_neg h, if_neg h2, if_neg (by omega)]
      split
      · rfl
      · rfl
theorem damp_step {zs us : List Nat} {K : Option Nat} {n k t r : Nat} (hn : us.length = n) (hk : k < n) (h : ∀ j, j < n → cls .f32 (us.getD j 0) = dampAt K zs k t j) (hr : cls .f32 r = fop .mul .f32 (cls .f32 (us.getD k 0)) K) :
    ∀ j, j < n → cls .f32 ((us.set k r).getD j 0) = dampAt K zs k (t + 1) j := by
  intro j hj
  rw [getD_set16 _ _ _ _ (by omega)]
  by_cases h2 : j = k
  · subst h2
    rw [if_pos rfl, hr, h j hj]
    unfold dampAt
    rw [if_neg (Nat.lt_irrefl _), if_pos rfl, if_neg (Nat.lt_irrefl _), if_pos rfl]
    rfl
  · rw [if_neg h2, h j hj]
    unfold dampAt
    rw [if_neg h2, if_neg h2]
theorem powC_fin {K : Nat} {n : Nat} {t : Bool} {j : Int} {z : Nat} (hX : fin32 (cls .f32 z) = true) (hr : FloatKind.f32.format.read K = .number t n j) (hl : leP n j 0) (hj : -149 ≤ j) : ∀ q, ∃ r, powC (some K) (cls .f32 z) q = cls .f32 r ∧ fin32 (cls .f32 r) = true
  | 0 => ⟨z, rfl, hX⟩
  | q + 1 => by
    obtain ⟨r, e, hf⟩ := powC_fin hX hr hl hj q
    obtain ⟨r2, e2, hf2⟩ := mul_keep_fin hf hr hl hj
    exact ⟨r2, by show fop .mul .f32 (powC (some K) (cls .f32 z) q) (some K) = _; rw [e, e2], hf2⟩

theorem damp_valid {zs : List Nat} {g : Option Nat} {x : Nat} (hV : predC (zs.map (cls .f32)) g = true) (g1 : fcmp .geq (ford .f32 (cls .f32 x) (some 0)) = true) (g2 : fcmp .leq (ford .f32 (cls .f32 x) (some 1065353216)) = true) : predC (dampL (cls .f32 x) zs) g = true := by
  obtain ⟨e, s, m, j, hr, hl, hj⟩ := keep_le g1 g2
  unfold predC at hV ⊢
  simp only [Bool.and_eq_true] at hV ⊢
  obtain ⟨h1, h2, h3, h4⟩ := hV
  refine ⟨by simpa [dampL] using h1, by simpa [dampL] using h2, ?_, h4⟩
  unfold finsC dampL at *
  rw [List.all_eq_true] at h3 ⊢
  intro X hX
  obtain ⟨q, hq, rfl⟩ := List.mem_map.1 hX
  have hq2 := List.mem_range.1 hq
  rw [e]
  obtain ⟨r, e3, hf⟩ := powC_fin (h3 _ (List.mem_map.2 ⟨zs.getD q 0, by simp [List.getD, hq2], rfl⟩)) hr hl hj (q + 1)
  rw [e3]
  exact hf

theorem l02Share_is10 (b : Nat) (V : Bool) (w : World) (h : shareC (cls .f32 b) = V) : Calls Try.prog 77 #[.float .f32 b] w fun e w' => e = .returned (.bool V) ∧ w = w' := by
  subst h; exact l02Share_any b w

set_option maxHeartbeats 8000000 in
set_option maxRecDepth 100000 in
theorem damp_any (a : Option Addr) (n c g x : Nat) (zs : List Nat) (R : QR) (w : World) (h : Holds .f32 w a n zs) (hn : n ≤ 1048576) (hR : dampQ zs (cls .f32 g) (cls .f32 x) = R) :
    Calls Try.prog 40 #[.agg #[.slice a n c, .float .f32 g], .float .f32 x] w fun e w' => ∃ v, e = .returned (.tuple #[v, .bool R.ok]) ∧ PredIs w' w.heap.size R v ∧ Ext w w' := by
  have H1 := hid h
  have HN := hid hn
  have HL := hid h.1
  have HR := hid hR
  clear h hn hR
  cases hV : predC (zs.map (cls .f32)) (cls .f32 g)
  · have e : R = zeroQ := by rw [← HR.out]; unfold dampQ; rw [hV]; rfl
    subst e
    go_enter Try.func40, Try.ntmps40
    go_wp2_with (first | (go_at_call 18; with_reducible refine (validP_drew a n c g zs _ _ (Holds.ext H1.out (by (repeat with_reducible (first | exact Ext.refl _ | exact ext_alloc _ _ | refine Ext.drewN ?_ _ | refine Ext.drew1 ?_ | refine Ext.set ?_ (by dsimp only; omega) _ | refine Ext.alloc ?_ _)))) HN.out hV).mono ?_; rintro e w' ⟨rfl, m1, rfl⟩))
    go_returns
    refine ⟨_, rfl, zeroQ_is _ _, ?_⟩
    (repeat with_reducible (first | exact Ext.refl _ | exact ext_alloc _ _ | refine Ext.drewN ?_ _ | refine Ext.drew1 ?_ | refine Ext.set ?_ (by dsimp only; omega) _ | refine Ext.alloc ?_ _))
  cases g1 : fcmp .geq (ford .f32 (cls .f32 x) (some 0))
  · have e : R = zeroQ := by rw [← HR.out]; unfold dampQ; rw [hV, g1]; rfl
    subst e
    go_enter Try.func40, Try.ntmps40
    go_wp2_with (first | (go_at_call 18; with_reducible refine (validP_drew a n c g zs _ _ (Holds.ext H1.out (by (repeat with_reducible (first | exact Ext.refl _ | exact ext_alloc _ _ | refine Ext.drewN ?_ _ | refine Ext.drew1 ?_ | refine Ext.set ?_ (by dsimp only; omega) _ | refine Ext.alloc ?_ _)))) HN.out hV).mono ?_; rintro e w' ⟨rfl, m1, rfl⟩) | (refine wpList_fcmp rfl rfl rfl rfl rfl (by first | exact is_const (by decide) | assumption | exact is_self _ _) (by first | exact is_const (by decide) | exact is_self _ _) ?_; first | rw [g1]))
    go_returns
    refine ⟨_, rfl, zeroQ_is _ _, ?_⟩
    (repeat with_reducible (first | exact Ext.refl _ | exact ext_alloc _ _ | refine Ext.drewN ?_ _ | refine Ext.drew1 ?_ | refine Ext.set ?_ (by dsimp only; omega) _ | refine Ext.alloc ?_ _))
  cases g2 : fcmp .leq (ford .f32 (cls .f32 x) (some 1065353216))
  · have e : R = zeroQ := by rw [← HR.out]; unfold dampQ; rw [hV, g1, g2]; rfl
    subst e
    go_enter Try.func40, Try.ntmps40
    go_wp2_with (first | (go_at_call 18; with_reducible refine (validP_drew a n c g zs _ _ (Holds.ext H1.out (by (repeat with_reducible (first | exact Ext.refl _ | exact ext_alloc _ _ | refine Ext.drewN ?_ _ | refine Ext.drew1 ?_ | refine Ext.set ?_ (by dsimp only; omega) _ | refine Ext.alloc ?_ _)))) HN.out hV).mono ?_; rintro e w' ⟨rfl, m1, rfl⟩) | (refine wpList_fcmp rfl rfl rfl rfl rfl (by first | exact is_const (by decide) | assumption | exact is_self _ _) (by first | exact is_const (by decide) | exact is_self _ _) ?_; first | rw [g1] | rw [g2]))
    go_returns
    refine ⟨_, rfl, zeroQ_is _ _, ?_⟩
    (repeat with_reducible (first | exact Ext.refl _ | exact ext_alloc _ _ | refine Ext.drewN ?_ _ | refine Ext.drew1 ?_ | refine Ext.set ?_ (by dsimp only; omega) _ | refine Ext.alloc ?_ _))
  have e : R = ⟨true, dampL (cls .f32 x) zs, cls .f32 g⟩ := by rw [← HR.out]; unfold dampQ; rw [hV, g1, g2]; rfl
  subst e
  have HP := hid (pred_len hV)
  have H16 := hid (show n ≤ 16 from by have := HP.out.2; simp at this; have := HL.out; omega)
  have H01 := hid (show 1 ≤ n from by have := HP.out.1; simp at this; have := HL.out; omega)
  clear HR HP
  go_enter Try.func40, Try.ntmps40
  go_wp2_with (first | (go_at_call 18; with_reducible refine (validP_drew a n c g zs _ _ (Holds.ext H1.out (by (repeat with_reducible (first | exact Ext.refl _ | exact ext_alloc _ _ | refine Ext.drewN ?_ _ | refine Ext.drew1 ?_ | refine Ext.set ?_ (by dsimp only; omega) _ | refine Ext.alloc ?_ _)))) HN.out hV).mono ?_; rintro e w' ⟨rfl, m1, rfl⟩) | (refine wpList_fcmp rfl rfl rfl rfl rfl (by first | exact is_const (by decide) | assumption | exact is_self _ _) (by first | exact is_const (by decide) | exact is_self _ _) ?_; first | rw [g1] | rw [g2]))
  obtain ⟨w0, hw0⟩ : ∃ u, u = (((w.alloc (.cells #[.slice a n c, .float .f32 g] 28)).alloc (.cells #[.slice none 0 0, .float .f32 0] 28)).alloc (.cells #[.slice a n c, .float .f32 g] 28)).drewN m1 := ⟨_, rfl⟩
  rw [← hw0]
  have EX := hid (show Ext w w0 from by rw [hw0]; (repeat with_reducible (first | exact Ext.refl _ | exact ext_alloc _ _ | refine Ext.drewN ?_ _ | refine Ext.drew1 ?_ | refine Ext.set ?_ (by dsimp only; omega) _ | refine Ext.alloc ?_ _)))
  have B0 : Hid (Box w0 w.heap.size #[.slice a n c, .float .f32 g]) := by rw [hw0]; exact hid (Box.drewN (Box.alloc (Box.alloc (box_new (w := w) #[.slice a n c, .float .f32 g] 28) _) _) _)
  have B1 : Hid (Box w0 (w.heap.size + 1) #[.slice none 0 0, .float .f32 0]) := by rw [hw0]; exact hid (Box.drewN (Box.alloc (Box.cast' (box_new (w := (w.alloc (.cells #[.slice a n c, .float .f32 g] 28))) #[.slice none 0 0, .float .f32 0] 28) (by simp)) _) _)
  have HZ := hid (show w.heap.size + 2 ≤ w0.heap.size from by rw [hw0]; simp)
  clear hw0
  obtain ⟨q0, q1, ql⟩ := Box.cells2 B0.out
  go_wp2_with fail
  refine (clone_any a n c zs _ (Holds.ext H1.out EX.out) H01.out HN.out).mono ?_
  rintro e w1 ⟨b, c', rfl, O1, E1⟩
  have hOW := hid O1
  have hEX := hid E1
  have HGE := hid (Own.block O1)
  clear O1 E1 q0 q1 ql
  go_wp2_with fail
  go_loopw [26] (fun v wr => ∃ (k : Nat) (ys : List Nat), k ≤ n ∧ v = .int .i64 k ∧ Hid (Own wr w0.heap.size n (.slice (some ⟨b, 0, none⟩) n c') ys) ∧ Hid (∀ j, j < n → cls .f32 (ys.getD j 0) = dampAt (cls .f32 x) zs k 0 j) ∧ Hid (Ext w0 wr)) (fun v _ => n - (intOf v).toNat)
  case atStart => exact ⟨0, zs, Nat.zero_le _, rfl, hOW, hid (fun j hj => by unfold dampAt; rw [if_neg (Nat.not_lt_zero _)]; split <;> rfl), hEX⟩
  case round =>
    obtain ⟨k, ys, hk, rfl, ho, hy, he⟩ := hrel
    have hn2 : n ≤ 16 := H16.out
    have hge : w0.heap.size ≤ b := (HGE.out b rfl).1
    by_cases hlt : k < n
    · have hi1 : (k : Int) < (n : Int) := by omega
      go_wp2_with fail
      obtain ⟨wo, rfl⟩ : ∃ wo : World, wo = wr := ⟨_, rfl⟩
      go_loopw [31] (fun v wr => ∃ (t : Nat) (us : List Nat), t ≤ k + 1 ∧ v = .int .i64 t ∧ Hid (Own wr w0.heap.size n (.slice (some ⟨b, 0, none⟩) n c') us) ∧ Hid (∀ j, j < n → cls .f32 (us.getD j 0) = dampAt (cls .f32 x) zs k t j) ∧ Hid (Ext w0 wr)) (fun v _ => k + 1 - (intOf v).toNat)
      case atStart => exact ⟨0, ys, Nat.zero_le _, rfl, ho, hy, he⟩
      case round =>
        obtain ⟨t, us, ht, rfl, ho2, hu, he2⟩ := hrel
        by_cases hlt2 : t < k + 1
        · have e1 := Own.cellAt ho2.out k hlt
          have hf := Own.frozenAt ho2.out k
          have HST := hid (fun r => damp_step (r := r) (Own.len ho2.out) hlt hu.out)
          generalize us.getD k 0 = q at e1 HST
          have HQ := is_self .f32 q
          have HX := is_self .f32 x
          have hi0 : (0 : Int) ≤ (k : Int) := by omega
          have hi2 : ((k : Int)).toNat = k := rfl
          have hi3 : (t : Int) < (k : Int) + 1 := by omega
          go_wp2_with (first | (refine wpList_fa rfl rfl rfl rfl rfl (by first | assumption | exact is_const (by decide) | exact is_int _ | exact is_self _ _) (by first | assumption | exact is_const (by decide) | exact is_int _ | exact is_self _ _) ?_; intro r1 mr1 hr1 hwr1))
          have HF := hid (HST.out r1 (Is.out hr1))
          go_roundw
          case rel => exact ⟨t + 1, us.set k r1, by omega, by go_num, hid (by first | exact (Own.stored (Own.drewN ho2.out _) k _).1 | exact (Own.stored (Own.drewN (Own.drewN ho2.out _) _) k _).1), HF, hid (by first | exact Ext.set (Ext.drewN he2.out _) (by dsimp only; omega) _ | exact Ext.set (Ext.drewN (Ext.drewN he2.out _) _) (by dsimp only; omega) _)⟩
          case measure => simp [intOf]; omega
        · have htk : t = k + 1 := by omega
          subst htk
          have hi3 : ¬ (((k + 1 : Nat) : Int) < (k : Int) + 1) := by omega
          have HY2 := hid (fun j hj => (hu.out j hj).trans (damp_next _ _ _ _))
          go_wp2_with fail
          go_roundw
          case rel => exact ⟨k + 1, us, by omega, by go_num, ho2, HY2, he2⟩
          case measure => simp [intOf]; omega
    · have hkn : k = n := by omega
      subst hkn
      obtain ⟨x0, x1, xl⟩ := Box.cells2 (Box.ext B0.out he.out)
      have HX := hid (Box.ext B1.out he.out)
      obtain ⟨y0, y1, yf0, yf1, yl⟩ := Box.all2 HX.out
      go_wp2_with fail
      clear x0 x1 xl y0 y1 yf0 yf1 yl
      refine bodyPost_ret (ret_cell2 Try.results40 rfl (box_set2 HX.out _ _) Try.underlying28 infoP) rfl ?_
      have hz := HZ.out
      have hd := damp_done HL.out (Own.len ho.out) hy.out
      exact ⟨_, rfl, predIs_of (Own.base (own_far2 ho.out (by omega) _ _) (by omega)) rfl hd, ext_set2 (Ext.trans EX.out he.out) (by omega) _ _⟩

set_option maxRecDepth 100000 in
set_option maxHeartbeats 1000000 in
theorem l04Own_any (bx : Nat) (a : Option Addr) (n c g0 : Nat) (zs : List Nat) (w : World) (hbx : Box w bx #[.slice a n c, .float .f32 g0]) (h : Holds .f32 w a n zs) (h1 : 1 ≤ n) (hn : n ≤ 1048576) :
    Calls Try.prog 78 #[.pointer (some ⟨bx, 0, none⟩)] w fun e w' => ∃ b c', e = .returned (.agg #[.slice (some ⟨b, 0, none⟩) n c', .float .f32 g0]) ∧ Own w' w.heap.size n (.slice (some ⟨b, 0, none⟩) n c') zs ∧ Ext w w' := by
  obtain ⟨hl, h0 | ⟨b, off, rfl, hb, hc⟩⟩ := h
  · omega
  obtain ⟨i0, hi, hz0, hz1, hz2⟩ := info_parts infoF
  have HI := hid (And.intro hi (And.intro hz0 (And.intro hz1 hz2)))
  have HB := hid hb
  have HC := hid hc
  have HL := hid hl
  have HN := hid hn
  have H1 := hid h1
  have BX := hid hbx
  clear hi hz0 hz1 hz2 hc hl hb hn h1
  obtain ⟨d0, d1, dl⟩ := Box.cells2 hbx
  clear hbx
  go_enter Try.func78, Try.ntmps78
  go_wp2_with fail
  go_region_held3 (fun w' => w'.cell? ⟨bx, 0, none⟩ = some (.slice (some ⟨b, off, none⟩) n c) ∧ w'.cell? ⟨bx, 1, none⟩ = some (.float .f32 g0))
    (first | exact cellsQ2 (Box.ext BX.out E1) | exact cellsQ2 (Box.far (Box.far (Box.ext BX.out E1) (by omega) _) (by omega) _) | go_keep)
    (first | (refine step_append_lies _ rfl _ _ 22 rfl (w.heap.size + 1) 23 i0 (.float .f32 0) 1 4 Try.underlying22 HI.out.1 HI.out.2.1 HI.out.2.2.1 HI.out.2.2.2 rfl (by decide) _ _ _ rfl (own_fresh (cs := #[]) (zs := []) (B := w.heap.size + 1) (hid rfl) rfl (by simp) (by simp) (Nat.zero_le _)) ⟨b, off, none⟩ n c (zs.map (Value.float .f32)) rfl (by have := HL.out; simp [this]) (news_ext (by (repeat with_reducible (first | exact Ext.refl _ | exact ext_alloc _ _ | refine Ext.drewN ?_ _ | refine Ext.drew1 ?_ | refine Ext.set ?_ (by dsimp only; omega) _ | refine Ext.alloc ?_ _))) HB.out HL.out HC.out) (news_one zs) (by have := H1.out; omega) (by have := HN.out; unfold maxLen; simp; omega) (by have := HN.out; simp; omega) (by simp <;> omega) _ rfl ?_; intro g cap w1 hown hgrow hat hlt; have E1 : Ext w w1 := But.below hgrow (by (repeat with_reducible (first | exact Ext.refl _ | exact ext_alloc _ _ | refine Ext.drewN ?_ _ | refine Ext.drew1 ?_ | refine Ext.set ?_ (by dsimp only; omega) _ | refine Ext.alloc ?_ _))) (fun k hk => by cases hk; simp); obtain ⟨r0, r1, rf0, rf1, rl⟩ := Box.all2 (But.box hgrow (Box.alloc (Box.ext (box_new (w := w) #[.slice none 0 0, .float .f32 0] 28) (ext_drew _)) (.cells #[] 23)) (by show some (w.heap.size + 1) ≠ some w.heap.size; simp))))
  have HO := hid hown
  have HE := hid E1
  have HX := hid (Box.ext (box_new (w := w) #[.slice none 0 0, .float .f32 0] 28) (ext_drew _))
  have HG := hid hgrow
  clear hown hgrow hat hlt E1
  have BF := box_set (j := 1) (box_set (j := 0) (But.box HG.out (Box.alloc HX.out (.cells #[] 23)) (by show some (w.heap.size + 1) ≠ some w.heap.size; simp)) (.slice (some ⟨g, 0, none⟩) n cap)) (.float .f32 g0)
  have HF := hid (Box.eqv BF (us := #[.slice (some ⟨g, 0, none⟩) n cap, .float .f32 g0]) (by rfl))
  have HO2 : Own w1 (w.heap.size + 1) n (.slice (some ⟨g, 0, none⟩) n cap) zs := by simpa [Own] using HO.out
  clear BF r0 r1 rf0 rf1 rl
  go_wp2_with fail
  refine bodyPost_ret (ret_cell1 Try.results78 rfl HF.out Try.underlying28 infoP) rfl ?_
  have hne : ∀ k, (Value.slice (some ⟨g, 0, none⟩) n cap).ownBlock = some k → w.heap.size + 1 ≤ k ∧ k < w1.heap.size := Own.block HO2
  have hn2 : (Value.slice (some ⟨g, 0, none⟩) n cap).ownBlock ≠ some w.heap.size := fun hk => by have := (hne _ hk).1; omega
  refine ⟨g, cap, rfl, Own.base (Own.far (Own.far HO2 hn2 _) hn2 _) (Nat.le_succ _), ?_⟩
  exact Ext.set (Ext.set HE.out (Nat.le_refl _) _) (Nat.le_refl _) _


set_option maxHeartbeats 8000000 in
set_option maxRecDepth 100000 in
theorem sDamp_any (a : Option Addr) (n c g x : Nat) (zs : List Nat) (R : QR) (w : World) (h : Holds .f32 w a n zs) (hn : n ≤ 1048576) (hR : dampQ zs (cls .f32 g) (cls .f32 x) = R) :
    Calls Try.prog 39 #[.agg #[.slice a n c, .float .f32 g], .float .f32 x] w fun e w' => ∃ v, e = .returned (.tuple #[v, .bool R.ok]) ∧ PredIs w' w.heap.size R v ∧ Ext w w' := by
  have H1 := hid h
  have HN := hid hn
  have HL := hid h.1
  have HR := hid hR
  clear h hn hR
  cases hV : predC (zs.map (cls .f32)) (cls .f32 g)
  · have e : R = zeroQ := by rw [← HR.out]; unfold dampQ; rw [hV]; rfl
    subst e
    go_enter Try.func39, Try.ntmps39
    go_wp2_with (first | (go_at_call 50; with_reducible refine (l04Is_drew a n c g zs _ _ _ (Box.ext (box_new (w := w) #[.slice a n c, .float .f32 g] 28) (by (repeat with_reducible (first | exact Ext.refl _ | exact ext_alloc _ _ | refine Ext.drewN ?_ _ | refine Ext.drew1 ?_ | refine Ext.set ?_ (by dsimp only; omega) _ | refine Ext.alloc ?_ _)))) (Holds.ext H1.out (by (repeat with_reducible (first | exact Ext.refl _ | exact ext_alloc _ _ | refine Ext.drewN ?_ _ | refine Ext.drew1 ?_ | refine Ext.set ?_ (by dsimp only; omega) _ | refine Ext.alloc ?_ _)))) HN.out hV).mono ?_; rintro e w' ⟨rfl, m1, rfl⟩))
    go_returns
    refine ⟨_, rfl, zeroQ_is _ _, ?_⟩
    (repeat with_reducible (first | exact Ext.refl _ | exact ext_alloc _ _ | refine Ext.drewN ?_ _ | refine Ext.drew1 ?_ | refine Ext.set ?_ (by dsimp only; omega) _ | refine Ext.alloc ?_ _))
  cases g1 : fcmp .geq (ford .f32 (cls .f32 x) (some 0))
  · have e : R = zeroQ := by rw [← HR.out]; unfold dampQ; rw [hV, g1]; rfl
    subst e
    have hSH : shareC (cls .f32 x) = false := by unfold shareC; rw [g1]; rfl
    go_enter Try.func39, Try.ntmps39
    go_wp2_with (first | (go_at_call 50; with_reducible refine (l04Is_drew a n c g zs _ _ _ (Box.ext (box_new (w := w) #[.slice a n c, .float .f32 g] 28) (by (repeat with_reducible (first | exact Ext.refl _ | exact ext_alloc _ _ | refine Ext.drewN ?_ _ | refine Ext.drew1 ?_ | refine Ext.set ?_ (by dsimp only; omega) _ | refine Ext.alloc ?_ _)))) (Holds.ext H1.out (by (repeat with_reducible (first | exact Ext.refl _ | exact ext_alloc _ _ | refine Ext.drewN ?_ _ | refine Ext.drew1 ?_ | refine Ext.set ?_ (by dsimp only; omega) _ | refine Ext.alloc ?_ _)))) HN.out hV).mono ?_; rintro e w' ⟨rfl, m1, rfl⟩) | (go_at_call 77; refine (l02Share_is10 _ _ _ hSH).mono ?_; rintro e w' ⟨rfl, rfl⟩))
    go_returns
    refine ⟨_, rfl, zeroQ_is _ _, ?_⟩
    (repeat with_reducible (first | exact Ext.refl _ | exact ext_alloc _ _ | refine Ext.drewN ?_ _ | refine Ext.drew1 ?_ | refine Ext.set ?_ (by dsimp only; omega) _ | refine Ext.alloc ?_ _))
  cases g2 : fcmp .leq (ford .f32 (cls .f32 x) (some 1065353216))
  · have e : R = zeroQ := by rw [← HR.out]; unfold dampQ; rw [hV, g1, g2]; rfl
    subst e
    have hSH : shareC (cls .f32 x) = false := by unfold shareC; rw [g1, g2]; rfl
    go_enter Try.func39, Try.ntmps39
    go_wp2_with (first | (go_at_call 50; with_reducible refine (l04Is_drew a n c g zs _ _ _ (Box.ext (box_new (w := w) #[.slice a n c, .float .f32 g] 28) (by (repeat with_reducible (first | exact Ext.refl _ | exact ext_alloc _ _ | refine Ext.drewN ?_ _ | refine Ext.drew1 ?_ | refine Ext.set ?_ (by dsimp only; omega) _ | refine Ext.alloc ?_ _)))) (Holds.ext H1.out (by (repeat with_reducible (first | exact Ext.refl _ | exact ext_alloc _ _ | refine Ext.drewN ?_ _ | refine Ext.drew1 ?_ | refine Ext.set ?_ (by dsimp only; omega) _ | refine Ext.alloc ?_ _)))) HN.out hV).mono ?_; rintro e w' ⟨rfl, m1, rfl⟩) | (go_at_call 77; refine (l02Share_is10 _ _ _ hSH).mono ?_; rintro e w' ⟨rfl, rfl⟩))
    go_returns
    refine ⟨_, rfl, zeroQ_is _ _, ?_⟩
    (repeat with_reducible (first | exact Ext.refl _ | exact ext_alloc _ _ | refine Ext.drewN ?_ _ | refine Ext.drew1 ?_ | refine Ext.set ?_ (by dsimp only; omega) _ | refine Ext.alloc ?_ _))
  have e : R = ⟨true, dampL (cls .f32 x) zs, cls .f32 g⟩ := by rw [← HR.out]; unfold dampQ; rw [hV, g1, g2]; rfl
  subst e
  have HP := hid (pred_len hV)
  have H16 := hid (show n ≤ 16 from by have := HP.out.2; simp at this; have := HL.out; omega)
  have H01 := hid (show 1 ≤ n from by have := HP.out.1; simp at this; have := HL.out; omega)
  clear HR HP
  have hSH : shareC (cls .f32 x) = true := by unfold shareC; rw [g1, g2]; rfl
  go_enter Try.func39, Try.ntmps39
  go_wp2_with (first | (go_at_call 50; with_reducible refine (l04Is_drew a n c g zs _ _ _ (Box.ext (box_new (w := w) #[.slice a n c, .float .f32 g] 28) (by (repeat with_reducible (first | exact Ext.refl _ | exact ext_alloc _ _ | refine Ext.drewN ?_ _ | refine Ext.drew1 ?_ | refine Ext.set ?_ (by dsimp only; omega) _ | refine Ext.alloc ?_ _)))) (Holds.ext H1.out (by (repeat with_reducible (first | exact Ext.refl _ | exact ext_alloc _ _ | refine Ext.drewN ?_ _ | refine Ext.drew1 ?_ | refine Ext.set ?_ (by dsimp only; omega) _ | refine Ext.alloc ?_ _)))) HN.out hV).mono ?_; rintro e w' ⟨rfl, m1, rfl⟩) | (go_at_call 77; refine (l02Share_is10 _ _ _ hSH).mono ?_; rintro e w' ⟨rfl, rfl⟩))
  obtain ⟨w0, hw0⟩ : ∃ u, u = ((w.alloc (.cells #[.slice a n c, .float .f32 g] 28)).alloc (.cells #[.slice none 0 0, .float .f32 0] 28)).drewN m1 := ⟨_, rfl⟩
  rw [← hw0]
  have EX := hid (show Ext w w0 from by rw [hw0]; (repeat with_reducible (first | exact Ext.refl _ | exact ext_alloc _ _ | refine Ext.drewN ?_ _ | refine Ext.drew1 ?_ | refine Ext.set ?_ (by dsimp only; omega) _ | refine Ext.alloc ?_ _)))
  have B0 : Hid (Box w0 w.heap.size #[.slice a n c, .float .f32 g]) := by rw [hw0]; exact hid (Box.drewN (Box.alloc (box_new (w := w) #[.slice a n c, .float .f32 g] 28) _) _)
  have B1 : Hid (Box w0 (w.heap.size + 1) #[.slice none 0 0, .float .f32 0]) := by rw [hw0]; exact hid (Box.drewN (Box.cast' (box_new (w := (w.alloc (.cells #[.slice a n c, .float .f32 g] 28))) #[.slice none 0 0, .float .f32 0] 28) (by simp)) _)
  have HZ := hid (show w.heap.size + 2 ≤ w0.heap.size from by rw [hw0]; simp)
  clear hw0
  go_wp2_with fail
  refine (l04Own_any _ a n c g zs _ B0.out (Holds.ext H1.out EX.out) H01.out HN.out).mono ?_
  rintro e w1 ⟨b, c', rfl, O1, E1⟩
  have B6 := hid (Box.drewN (box_new (w := w1) #[.slice (some ⟨b, 0, none⟩) n c', .float .f32 g] 28) 0)
  go_wp2_with fail
  obtain ⟨w2, hw2⟩ : ∃ u, u = w1.alloc (.cells #[.slice (some ⟨b, 0, none⟩) n c', .float .f32 g] 28) := ⟨_, rfl⟩
  try rw [← hw2]
  have B6 : Hid (Box w2 w1.heap.size #[.slice (some ⟨b, 0, none⟩) n c', .float .f32 g]) := by rw [hw2]; exact hid (box_new _ _)
  have hOW := hid (show Own w2 w0.heap.size n (.slice (some ⟨b, 0, none⟩) n c') zs from by rw [hw2]; exact Own.alloc O1 _)
  have HGE := hid (show w0.heap.size ≤ b ∧ b < w1.heap.size from Own.block O1 b rfl)
  have hEX := hid (show Ext w0 w2 from by rw [hw2]; exact Ext.alloc E1 _)
  have HZ2 := hid (show w1.heap.size < w2.heap.size from by rw [hw2]; simp)
  clear O1 E1 hw2
  obtain ⟨wa, hwa⟩ : ∃ wa : Nat, wa = w1.heap.size := ⟨_, rfl⟩
  rw [← hwa] at B6 HGE HZ2
  try rw [← hwa]
  clear hwa
  go_loopw [7] (fun v wr => ∃ (k : Nat) (ys : List Nat), k ≤ n ∧ v = .int .i64 k ∧ Hid (Own wr w0.heap.size n (.slice (some ⟨b, 0, none⟩) n c') ys) ∧ Hid (∀ j, j < n → cls .f32 (ys.getD j 0) = dampAt (cls .f32 x) zs k 0 j) ∧ Hid (Box wr wa #[.slice (some ⟨b, 0, none⟩) n c', .float .f32 g]) ∧ Hid (Ext w0 wr)) (fun v _ => n - (intOf v).toNat)
  case atStart => exact ⟨0, zs, Nat.zero_le _, rfl, hOW, hid (fun j hj => by unfold dampAt; rw [if_neg (Nat.not_lt_zero _)]; split <;> rfl), B6, hEX⟩
  case round =>
    obtain ⟨k, ys, hk, rfl, ho, hy, hb, he⟩ := hrel
    have hn2 : n ≤ 16 := H16.out
    have hge : w0.heap.size ≤ b ∧ b < wa := HGE.out
    obtain ⟨x0, x1, xl⟩ := Box.cells2 hb.out
    by_cases hlt : k < n
    · have hi1 : (k : Int) < (n : Int) := by omega
      go_wp2_with fail
      clear x0 x1 xl
      obtain ⟨wo, rfl⟩ : ∃ wo : World, wo = wr := ⟨_, rfl⟩
      go_loopw [8] (fun v wr => ∃ (t : Nat) (us : List Nat), t ≤ k + 1 ∧ v = .int .i64 t ∧ Hid (Own wr w0.heap.size n (.slice (some ⟨b, 0, none⟩) n c') us) ∧ Hid (∀ j, j < n → cls .f32 (us.getD j 0) = dampAt (cls .f32 x) zs k t j) ∧ Hid (Box wr wa #[.slice (some ⟨b, 0, none⟩) n c', .float .f32 g]) ∧ Hid (Ext w0 wr)) (fun v _ => k + 1 - (intOf v).toNat)
      case atStart => exact ⟨0, ys, Nat.zero_le _, rfl, ho, hy, hb, he⟩
      case round =>
        obtain ⟨t, us, ht, rfl, ho2, hu, hb2, he2⟩ := hrel
        obtain ⟨x0, x1, xl⟩ := Box.cells2 hb2.out
        by_cases hlt2 : t < k + 1
        · have e1 := Own.cellAt ho2.out k hlt
          have hf := Own.frozenAt ho2.out k
          have HST := hid (fun r => damp_step (r := r) (Own.len ho2.out) hlt hu.out)
          generalize us.getD k 0 = q at e1 HST
          have HQ := is_self .f32 q
          have HX := is_self .f32 x
          have hi0 : (0 : Int) ≤ (k : Int) := by omega
          have hi1 : (k : Int) < (n : Int) := by omega
          have hi2 : ((k : Int)).toNat = k := rfl
          have hi3 : (t : Int) ≤ (k : Int) := by omega
          go_wp2_with fail
          refine wp_region_tail 11 (by kernel_rfl) (by kernel_rfl) (by kernel_rfl) ?_
          simp only [List.take_succ_cons, List.take_zero, List.drop_succ_cons, List.drop_zero]
          repeat (with_reducible refine wpM_cons ?_; first
            | (refine wpM_fa rfl rfl rfl rfl rfl (by first | assumption | exact is_const (by decide) | exact is_int _ | exact is_self _ _) (by first | assumption | exact is_const (by decide) | exact is_int _ | exact is_self _ _) ?_; intro r hr hrw)
            | (refine wpM_quiet rfl (fun K hK => ?_); go_simp; refine hK _ ?_; clear hK K))
          with_reducible refine wpM_nil ?_
          intro w4 hw4
          obtain ⟨nq, hw4⟩ := hw4
          subst hw4
          go_wp2_with fail
          have HF := hid (HST.out r (Is.out hr))
          go_roundw
          case rel => exact ⟨t + 1, us.set k r, by omega, by go_num, hid (Own.stored (Own.drewN ho2.out _) k _).1, HF, hid (Box.far (Box.drewN hb2.out _) (by omega) _), hid (Ext.set (Ext.drewN he2.out _) (by dsimp only; omega) _)⟩
          case measure => simp [intOf]; omega
        · have htk : t = k + 1 := by omega
          subst htk
          have hi3 : ¬ (((k + 1 : Nat) : Int) ≤ (k : Int)) := by omega
          have HY2 := hid (fun j hj => (hu.out j hj).trans (damp_next _ _ _ _))
          go_wp2_with fail
          go_roundw
          case rel => exact ⟨k + 1, us, by omega, by go_num, ho2, HY2, hb2, he2⟩
          case measure => simp [intOf]; omega
    · have hkn : k = n := by omega
      subst hkn
      go_wp2_with fail
      have hd := hid (damp_done HL.out (Own.len ho.out) hy.out)
      have hq : giveQ (ys.map (cls .f32)) (cls .f32 g) = ⟨true, dampL (cls .f32 x) zs, cls .f32 g⟩ := by
        rw [hd.out]
        unfold giveQ
        rw [damp_valid hV g1 g2]
        rfl
      refine (l04Give_is _ k c' g w0.heap.size ys _ _ ho.out HN.out hq).mono ?_
      rintro e w3 ⟨v, rfl, ⟨ra, rc, rg, rz, rfl, rO, re, rg2⟩, E3⟩
      have HX := hid (Box.ext B1.out (Ext.trans he.out E3))
      obtain ⟨y0, y1, yf0, yf1, yl⟩ := Box.all2 HX.out
      have H9 := hid rO
      have H8 := hid (And.intro re rg2)
      have HE := hid (Ext.trans he.out E3)
      clear rO re rg2 E3 x0 x1 xl
      go_wp2_with fail
      clear y0 y1 yf0 yf1 yl
      refine bodyPost_ret (ret_cell2 Try.results39 rfl (box_set2 HX.out _ _) Try.underlying28 infoP) rfl ?_
      have hz := HZ.out
      exact ⟨_, rfl, ⟨ra, rc, rg, rz, rfl, Own.base (own_far2 H9.out (by omega) _ _) (by omega), H8.out.1, H8.out.2⟩, ext_set2 (Ext.trans EX.out HE.out) (by omega) _ _⟩

end Go.Proofs.Ytofhemganefhcaa
