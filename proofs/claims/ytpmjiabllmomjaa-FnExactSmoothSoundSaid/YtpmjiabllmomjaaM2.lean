/- Sounds with more and with less of their high parts. -/
import Derived.Test.YtpmjiabllmomjaaV17
namespace Go.Proofs.Ytpmjiabllmomjaa
open Go.RowKit Flt
set_option linter.unusedVariables false

theorem list_pts {ys : List Nat} {n : Nat} {C : Nat → Option Nat} (hn : ys.length = n) (h : ∀ j, j < n → cls .f32 (ys.getD j 0) = C j) : ys.map (cls .f32) = listK C n := by
  unfold listK
  apply List.ext_getElem
  · simp [hn]
  · intro j h1 h2
    simp at h1
    have := h j (by omega)
    simpa [List.getD, h1] using this
theorem set_pts {ys zs : List Nat} {n k r : Nat} {C : Nat → Option Nat} (hl : ys.length = n) (hk : k < n) (hy : ∀ j, j < n → cls .f32 (ys.getD j 0) = if j < k then C j else cls .f32 (zs.getD j 0)) (hr : cls .f32 r = C k) :
    ∀ j, j < n → cls .f32 ((ys.set k r).getD j 0) = if j < k + 1 then C j else cls .f32 (zs.getD j 0) := by
  intro j hj
  rw [getD_set16 _ _ _ _ (by rw [hl]; exact hk)]
  by_cases hjk : j = k
  · subst hjk
    rw [if_pos rfl, if_pos (Nat.lt_succ_self _), hr]
  · rw [if_neg hjk, hy j hj]
    by_cases h : j < k
    · rw [if_pos h, if_pos (by omega)]
    · rw [if_neg h, if_neg (by omega)]
def roughC (X : Option Nat) (zs : List Nat) : Nat → Option Nat
  | 0 => cls .f32 (zs.getD 0 0)
  | k + 1 => fop .sub .f32 (cls .f32 (zs.getD (k + 1) 0)) (fop .mul .f32 X (cls .f32 (zs.getD k 0)))
def smoothC (X : Option Nat) (zs : List Nat) : Nat → Option Nat
  | 0 => cls .f32 (zs.getD 0 0)
  | k + 1 => fop .add .f32 (cls .f32 (zs.getD (k + 1) 0)) (fop .mul .f32 X (smoothC X zs k))
def roughR (X : Option Nat) (zs : List Nat) : List (Option Nat) × Bool := if soundB (zs.map (cls .f32)) && fin32 X then soundR (roughC X zs) zs.length else ([], false)
def smoothR (X : Option Nat) (zs : List Nat) : List (Option Nat) × Bool := if soundB (zs.map (cls .f32)) && fin32 X then soundR (smoothC X zs) zs.length else ([], false)
theorem rough_len (X : Option Nat) (zs : List Nat) : (roughR X zs).1.length ≤ 256 := by
  unfold roughR
  split
  · rename_i h
    simp only [Bool.and_eq_true] at h
    have h1 := sound_len h.1
    have h2 := soundR_len (roughC X zs) zs.length
    simp at h1
    omega
  · exact Nat.zero_le _
theorem smooth_len (X : Option Nat) (zs : List Nat) : (smoothR X zs).1.length ≤ 256 := by
  unfold smoothR
  split
  · rename_i h
    simp only [Bool.and_eq_true] at h
    have h1 := sound_len h.1
    have h2 := soundR_len (smoothC X zs) zs.length
    simp at h1
    omega
  · exact Nat.zero_le _

set_option maxHeartbeats 8000000 in
set_option maxRecDepth 100000 in
theorem roughS_any (a : Option Addr) (n c x : Nat) (zs : List Nat) (R : List (Option Nat)) (O : Bool) (w : World) (h : Holds .f32 w a n zs) (hn : n ≤ 1048576) (hR : roughR (cls .f32 x) zs = (R, O)) :
    Calls Try.prog 26 #[.slice a n c, .float .f32 x] w fun e w' => ∃ v, e = .returned (.tuple #[v, .bool O]) ∧ ListIs w' w.heap.size R v ∧ Ext w w' := by
  have H1 := hid h
  have HN := hid hn
  have HL := hid h.1
  have HR := hid hR
  clear h hn hR
  cases hA : soundB (zs.map (cls .f32))
  · have e : O = false ∧ R = [] := by have := HR.out; unfold roughR at this; rw [hA] at this; simpa [eq_comm, and_comm] using this
    obtain ⟨rfl, rfl⟩ := e
    go_enter Try.func26, Try.ntmps26
    go_wp2_with (first | (go_at_call 55; with_reducible refine (isSound_drew a n c zs _ _ (Holds.ext H1.out (by (repeat with_reducible (first | exact Ext.refl _ | exact ext_alloc _ _ | refine Ext.drewN ?_ _ | refine Ext.drew1 ?_ | refine Ext.set ?_ (by dsimp only; omega) _ | refine Ext.alloc ?_ _)))) HN.out hA).mono ?_; rintro e w' ⟨rfl, m1, rfl⟩))
    go_returns
    refine ⟨_, rfl, nil_is _ _, ?_⟩
    (repeat with_reducible (first | exact Ext.refl _ | exact ext_alloc _ _ | refine Ext.drewN ?_ _ | refine Ext.drew1 ?_ | refine Ext.set ?_ (by dsimp only; omega) _ | refine Ext.alloc ?_ _))
  cases hx : fin32 (cls .f32 x)
  · have e : O = false ∧ R = [] := by have := HR.out; unfold roughR at this; rw [hA, hx] at this; simpa [eq_comm, and_comm] using this
    obtain ⟨rfl, rfl⟩ := e
    go_enter Try.func26, Try.ntmps26
    go_wp2_with (first | (go_at_call 55; with_reducible refine (isSound_drew a n c zs _ _ (Holds.ext H1.out (by (repeat with_reducible (first | exact Ext.refl _ | exact ext_alloc _ _ | refine Ext.drewN ?_ _ | refine Ext.drew1 ?_ | refine Ext.set ?_ (by dsimp only; omega) _ | refine Ext.alloc ?_ _)))) HN.out hA).mono ?_; rintro e w' ⟨rfl, m1, rfl⟩) | (go_at_call 58; with_reducible refine (isFinite_any x _).mono ?_; rintro e w' ⟨rfl, m2, rfl⟩; rw [hx]))
    go_returns
    refine ⟨_, rfl, nil_is _ _, ?_⟩
    (repeat with_reducible (first | exact Ext.refl _ | exact ext_alloc _ _ | refine Ext.drewN ?_ _ | refine Ext.drew1 ?_ | refine Ext.set ?_ (by dsimp only; omega) _ | refine Ext.alloc ?_ _))
  have HS := hid (show soundR (roughC (cls .f32 x) zs) n = (R, O) from by have := HR.out; unfold roughR at this; rw [hA, hx, HL.out] at this; simpa using this)
  have HX := is_self .f32 x
  clear HR
  by_cases h0 : n = 0
  · subst h0
    have hzs : zs = [] := List.eq_nil_of_length_eq_zero HL.out
    subst hzs
    go_enter Try.func26, Try.ntmps26
    go_wp2_with (first | (go_at_call 55; with_reducible refine (isSound_drew a 0 c [] _ _ (Holds.ext H1.out (by (repeat with_reducible (first | exact Ext.refl _ | exact ext_alloc _ _ | refine Ext.drewN ?_ _ | refine Ext.drew1 ?_ | refine Ext.set ?_ (by dsimp only; omega) _ | refine Ext.alloc ?_ _)))) HN.out hA).mono ?_; rintro e w' ⟨rfl, m1, rfl⟩) | (go_at_call 58; with_reducible refine (isFinite_any x _).mono ?_; rintro e w' ⟨rfl, m2, rfl⟩; rw [hx]))
    refine (clone_zero a c _).mono ?_
    rintro e w1 ⟨v, rfl, O1, E1⟩
    have hEX := hid (show Ext w w1 from Ext.trans (by (repeat with_reducible (first | exact Ext.refl _ | exact ext_alloc _ _ | refine Ext.drewN ?_ _ | refine Ext.drew1 ?_ | refine Ext.set ?_ (by dsimp only; omega) _ | refine Ext.alloc ?_ _))) E1)
    have hOW := hid (Own.base O1 (B' := w.heap.size) (by first | exact Nat.le_refl _ | (simp; done) | (simp; omega)))
    clear O1 E1
    obtain ⟨va, vc, rfl, _, _, _⟩ := Own.holds hOW.out
    go_wp2_with fail
    go_loopw [7] (fun v wr => v = .int .i64 (1 : Int) ∧ Hid (Own wr w.heap.size 0 (.slice va 0 vc) []) ∧ Hid (Ext w wr)) (fun _ _ => 0)
    case atStart => exact ⟨rfl, hOW, hEX⟩
    case round =>
      obtain ⟨rfl, ho2, he⟩ := hrel
      go_wp2_with fail
      refine (finiteList_is _ 0 w.heap.size [] R O _ ho2.out (Nat.zero_le _) HS.out).mono ?_
      rintro e w1 ⟨u, rfl, hu, E1⟩
      have hu1 := hid hu
      have hx1 := hid (Ext.trans he.out E1)
      clear hu E1
      go_wp2
      go_ret2
      exact ⟨_, rfl, hu1.out, hx1.out⟩
  have H2 := hid (show 1 ≤ n by omega)
  go_enter Try.func26, Try.ntmps26
  go_wp2_with (first | (go_at_call 55; with_reducible refine (isSound_drew a n c zs _ _ (Holds.ext H1.out (by (repeat with_reducible (first | exact Ext.refl _ | exact ext_alloc _ _ | refine Ext.drewN ?_ _ | refine Ext.drew1 ?_ | refine Ext.set ?_ (by dsimp only; omega) _ | refine Ext.alloc ?_ _)))) HN.out hA).mono ?_; rintro e w' ⟨rfl, m1, rfl⟩) | (go_at_call 58; with_reducible refine (isFinite_any x _).mono ?_; rintro e w' ⟨rfl, m2, rfl⟩; rw [hx]))
  refine (clone_any a n c zs _ (Holds.ext H1.out (by (repeat with_reducible (first | exact Ext.refl _ | exact ext_alloc _ _ | refine Ext.drewN ?_ _ | refine Ext.drew1 ?_ | refine Ext.set ?_ (by dsimp only; omega) _ | refine Ext.alloc ?_ _)))) H2.out HN.out).mono ?_
  rintro e w1 ⟨b, c', rfl, O1, E1⟩
  have hEX := hid (show Ext w w1 from Ext.trans (by (repeat with_reducible (first | exact Ext.refl _ | exact ext_alloc _ _ | refine Ext.drewN ?_ _ | refine Ext.drew1 ?_ | refine Ext.set ?_ (by dsimp only; omega) _ | refine Ext.alloc ?_ _))) E1)
  have hOW := hid (Own.base O1 (B' := w.heap.size) (by first | exact Nat.le_refl _ | (simp; done) | (simp; omega)))
  have HGE := hid (Own.block hOW.out)
  clear O1 E1
  go_wp2_with fail
  go_loopw [7] (fun v wr => ∃ (t : Nat) (ys : List Nat), t ≤ n - 1 ∧ v = .int .i64 ((t + 1 : Nat) : Int) ∧ Hid (Own wr w.heap.size n (.slice (some ⟨b, 0, none⟩) n c') ys) ∧ Hid (∀ j, j < n → cls .f32 (ys.getD j 0) = if j < t + 1 then roughC (cls .f32 x) zs j else cls .f32 (zs.getD j 0)) ∧ Hid (Ext w wr)) (fun v _ => n + 1 - (intOf v).toNat)
  case atStart => exact ⟨0, zs, Nat.zero_le _, rfl, hOW, hid (fun j hj => by by_cases h : j = 0 <;> simp [h, roughC]), hEX⟩
  case round =>
    obtain ⟨t, ys, ht, rfl, ho2, hy, he⟩ := hrel
    have hn2 : n ≤ 1048576 := HN.out
    have hyl := hid ho2.out.len
    by_cases hlt : t + 1 < n
    · have HST := hid (fun r => set_pts (r := r) hyl.out hlt hy.out)
      have HCC : Hid (roughC (cls .f32 x) zs (t + 1) = fop .sub .f32 (cls .f32 (zs.getD (t + 1) 0)) (fop .mul .f32 (cls .f32 x) (cls .f32 (zs.getD t 0)))) := rfl
      have e1 := Own.cellAt ho2.out (t + 1) hlt
      have hv := hy.out (t + 1) hlt
      rw [if_neg (Nat.lt_irrefl _)] at hv
      rw [← hv] at HCC
      generalize ys.getD (t + 1) 0 = u at e1 HCC
      clear hv
      obtain ⟨b2, off2, ha2, e2⟩ := cell_at H1.out he.out t (by omega)
      subst ha2
      generalize zs.getD t 0 = v at e2 HCC
      have hf := Own.frozenAt ho2.out (t + 1)
      have hge : w.heap.size ≤ b := (HGE.out b rfl).1
      have HU := is_self .f32 u
      have HV := is_self .f32 v
      have hi0 : (0 : Int) ≤ ((t + 1 : Nat) : Int) := by omega
      have hi1 : ((t + 1 : Nat) : Int) < (n : Int) := by omega
      have hi2 : ((t + 1 : Nat) : Int).toNat = t + 1 := rfl
      have hi3 : (0 : Int) ≤ (t : Int) := by omega
      have hi4 : (t : Int) < (n : Int) := by omega
      have hi5 : ((t + 1 : Nat) : Int) - 1 = (t : Int) := by omega
      generalize hk : t + 1 = k at *
      go_wp2_with fail
      refine wp_region_tail 13 (by kernel_rfl) (by kernel_rfl) (by kernel_rfl) ?_
      simp only [List.take_succ_cons, List.take_zero, List.drop_succ_cons, List.drop_zero]
      repeat (with_reducible refine wpM_cons ?_; first
        | (refine wpM_fa rfl rfl rfl rfl rfl (by assumption) (by assumption) ?_; intro r hr hrw)
        | (refine wpM_mult0 rfl rfl ?_; refine mult_isub (t : Int) rfl rfl rfl (by omega) (by omega) (by omega) ?_; simp only [Act.put, List.setIfInBounds_toArray, List.set_cons_zero, List.set_cons_succ])
        | (refine wpM_quiet rfl (fun K hK => ?_); go_simp; refine hK _ ?_; clear hK K))
      with_reducible refine wpM_nil ?_
      intro w4 hw4
      obtain ⟨nq, hw4⟩ := hw4
      subst hw4
      go_wp2_with fail
      have HF := hid (HST.out r (by rw [HCC.out]; exact Is.out hr))
      go_roundw
      case rel => exact ⟨t + 1, ys.set k r, by omega, by rw [hk]; go_num, hid (Own.stored (Own.drewN ho2.out _) k _).1, by rw [hk]; exact HF, hid (Ext.set (Ext.drewN he.out _) (by dsimp only; omega) _)⟩
      case measure => simp [intOf]; omega
    · have htn : t + 1 = n := by omega
      have hi1 : ¬ (((t + 1 : Nat) : Int) < (n : Int)) := by omega
      have hy2 := hid (list_pts hyl.out (C := roughC (cls .f32 x) zs) (fun j hj => by have := hy.out j hj; rwa [if_pos (by omega)] at this))
      go_wp2_with fail
      refine (finiteList_is _ _ w.heap.size ys R O _ ho2.out HN.out (by rw [hy2.out]; exact HS.out)).mono ?_
      rintro e w1 ⟨u, rfl, hu, E1⟩
      have hu1 := hid hu
      have hx1 := hid (Ext.trans he.out E1)
      clear hu E1
      go_wp2
      go_ret2
      exact ⟨_, rfl, hu1.out, hx1.out⟩

set_option maxHeartbeats 8000000 in
set_option maxRecDepth 100000 in
theorem sRough_any (a : Option Addr) (n c x : Nat) (zs : List Nat) (R : List (Option Nat)) (O : Bool) (w : World) (h : Holds .f32 w a n zs) (hn : n ≤ 1048576) (hR : roughR (cls .f32 x) zs = (R, O)) :
    Calls Try.prog 25 #[.slice a n c, .float .f32 x] w fun e w' => ∃ v, e = .returned (.tuple #[v, .bool O]) ∧ ListIs w' w.heap.size R v ∧ Ext w w' := by
  have H1 := hid h
  have HN := hid hn
  have HL := hid h.1
  have HR := hid hR
  clear h hn hR
  cases hA : soundB (zs.map (cls .f32))
  · have e : O = false ∧ R = [] := by have := HR.out; unfold roughR at this; rw [hA] at this; simpa [eq_comm, and_comm] using this
    obtain ⟨rfl, rfl⟩ := e
    go_enter Try.func25, Try.ntmps25
    go_wp2_with (first | (go_at_call 53; with_reducible refine (l03Sound_drew a n c zs _ _ (Holds.ext H1.out (by (repeat with_reducible (first | exact Ext.refl _ | exact ext_alloc _ _ | refine Ext.drewN ?_ _ | refine Ext.drew1 ?_ | refine Ext.set ?_ (by dsimp only; omega) _ | refine Ext.alloc ?_ _)))) HN.out hA).mono ?_; rintro e w' ⟨rfl, m1, rfl⟩))
    go_returns
    refine ⟨_, rfl, nil_is _ _, ?_⟩
    (repeat with_reducible (first | exact Ext.refl _ | exact ext_alloc _ _ | refine Ext.drewN ?_ _ | refine Ext.drew1 ?_ | refine Ext.set ?_ (by dsimp only; omega) _ | refine Ext.alloc ?_ _))
  cases hx : fin32 (cls .f32 x)
  · have e : O = false ∧ R = [] := by have := HR.out; unfold roughR at this; rw [hA, hx] at this; simpa [eq_comm, and_comm] using this
    obtain ⟨rfl, rfl⟩ := e
    go_enter Try.func25, Try.ntmps25
    go_wp2_with (first | (go_at_call 53; with_reducible refine (l03Sound_drew a n c zs _ _ (Holds.ext H1.out (by (repeat with_reducible (first | exact Ext.refl _ | exact ext_alloc _ _ | refine Ext.drewN ?_ _ | refine Ext.drew1 ?_ | refine Ext.set ?_ (by dsimp only; omega) _ | refine Ext.alloc ?_ _)))) HN.out hA).mono ?_; rintro e w' ⟨rfl, m1, rfl⟩) | (go_at_call 57; with_reducible refine (l01Finite_any x _).mono ?_; rintro e w' ⟨rfl, m2, rfl⟩; rw [hx]))
    go_returns
    refine ⟨_, rfl, nil_is _ _, ?_⟩
    (repeat with_reducible (first | exact Ext.refl _ | exact ext_alloc _ _ | refine Ext.drewN ?_ _ | refine Ext.drew1 ?_ | refine Ext.set ?_ (by dsimp only; omega) _ | refine Ext.alloc ?_ _))
  have HS := hid (show soundR (roughC (cls .f32 x) zs) n = (R, O) from by have := HR.out; unfold roughR at this; rw [hA, hx, HL.out] at this; simpa using this)
  have HX := is_self .f32 x
  clear HR
  obtain ⟨i0, hif, hz0, hz1, hz2⟩ := info_parts infoF
  have HI := hid (And.intro hif (And.intro hz0 (And.intro hz1 hz2)))
  clear hif hz0 hz1 hz2
  by_cases h0 : n = 0
  · subst h0
    have hzs : zs = [] := List.eq_nil_of_length_eq_zero HL.out
    subst hzs
    go_enter Try.func25, Try.ntmps25
    go_wp2_with (first | (go_at_call 53; with_reducible refine (l03Sound_drew a 0 c [] _ _ (Holds.ext H1.out (by (repeat with_reducible (first | exact Ext.refl _ | exact ext_alloc _ _ | refine Ext.drewN ?_ _ | refine Ext.drew1 ?_ | refine Ext.set ?_ (by dsimp only; omega) _ | refine Ext.alloc ?_ _)))) HN.out hA).mono ?_; rintro e w' ⟨rfl, m1, rfl⟩) | (go_at_call 57; with_reducible refine (l01Finite_any x _).mono ?_; rintro e w' ⟨rfl, m2, rfl⟩; rw [hx]) | (at_builtin; refine wpList_append_none _ rfl _ _ 22 rfl 33 i0 Try.underlying22 HI.out.1 _ _ rfl _ _ rfl ?_))
    go_loopw [7] (fun v wr => v = .int .i64 (1 : Int) ∧ Hid (Own wr w.heap.size 0 (.slice (some ⟨w.heap.size, 0, none⟩) 0 0) []) ∧ Hid (Ext w wr)) (fun _ _ => 0)
    case atStart => exact ⟨rfl, hid (own_fresh (cs := #[]) (zs := []) (hid rfl) rfl (by simp) (by simp) (Nat.zero_le _)), hid (by (repeat with_reducible (first | exact Ext.refl _ | exact ext_alloc _ _ | refine Ext.drewN ?_ _ | refine Ext.drew1 ?_ | refine Ext.set ?_ (by dsimp only; omega) _ | refine Ext.alloc ?_ _)))⟩
    case round =>
      obtain ⟨rfl, ho2, he⟩ := hrel
      go_wp2_with fail
      refine (l03List_is _ 0 w.heap.size [] R O _ ho2.out (Nat.zero_le _) HS.out).mono ?_
      rintro e w1 ⟨u, rfl, hu, E1⟩
      have hu1 := hid hu
      have hx1 := hid (Ext.trans he.out E1)
      clear hu E1
      go_wp2
      go_ret2
      exact ⟨_, rfl, hu1.out, hx1.out⟩
  have HH1 := H1
  rcases H1.out.2 with h1 | ⟨b, off, rfl, hb, hc⟩
  · exact absurd h1 h0
  have HB := hid hb
  have HC := hid hc
  have HP := hid (show 0 < n by omega)
  clear hb hc
  go_enter Try.func25, Try.ntmps25
  go_wp2_with (first | (go_at_call 53; with_reducible refine (l03Sound_drew _ n c zs _ _ (Holds.ext H1.out (by (repeat with_reducible (first | exact Ext.refl _ | exact ext_alloc _ _ | refine Ext.drewN ?_ _ | refine Ext.drew1 ?_ | refine Ext.set ?_ (by dsimp only; omega) _ | refine Ext.alloc ?_ _)))) HN.out hA).mono ?_; rintro e w' ⟨rfl, m1, rfl⟩) | (go_at_call 57; with_reducible refine (l01Finite_any x _).mono ?_; rintro e w' ⟨rfl, m2, rfl⟩; rw [hx]) | (at_builtin; refine wpList_append_lies _ rfl _ _ 22 rfl w.heap.size 33 i0 (.float .f32 0) 1 4 Try.underlying22 HI.out.1 HI.out.2.1 HI.out.2.2.1 HI.out.2.2.2 rfl (by decide) _ _ _ rfl (own_fresh (cs := #[]) (zs := []) (B := w.heap.size) (hid rfl) rfl (by simp) (by simp) (Nat.zero_le _)) ⟨b, off, none⟩ n c (zs.map (Value.float .f32)) rfl (by have := HL.out; simp [this]) (news_ext (by (repeat with_reducible (first | exact Ext.refl _ | exact ext_alloc _ _ | refine Ext.drewN ?_ _ | refine Ext.drew1 ?_ | refine Ext.set ?_ (by dsimp only; omega) _ | refine Ext.alloc ?_ _))) HB.out HL.out HC.out) (news_one zs) HP.out (by have := HN.out; unfold maxLen; omega) (by have := HN.out; omega) (by simp) _ rfl ?_; intro g cap w1 hown hgrow hat hlt))
  have hOW := hid (show Own w1 w.heap.size n (.slice (some ⟨g, 0, none⟩) n cap) zs from by simpa [Own] using hown)
  have hEX := hid (show Ext w w1 from But.below hgrow (by (repeat with_reducible (first | exact Ext.refl _ | exact ext_alloc _ _ | refine Ext.drewN ?_ _ | refine Ext.drew1 ?_ | refine Ext.set ?_ (by dsimp only; omega) _ | refine Ext.alloc ?_ _))) (fun k hk => by cases hk; simp))
  clear hown hgrow hat hlt
  try simp only [Nat.zero_add]
  have HGE := hid (Own.block hOW.out)
  go_wp2_with fail
  go_loopw [7] (fun v wr => ∃ (t : Nat) (ys : List Nat), t ≤ n - 1 ∧ v = .int .i64 ((t + 1 : Nat) : Int) ∧ Hid (Own wr w.heap.size n (.slice (some ⟨g, 0, none⟩) n cap) ys) ∧ Hid (∀ j, j < n → cls .f32 (ys.getD j 0) = if j < t + 1 then roughC (cls .f32 x) zs j else cls .f32 (zs.getD j 0)) ∧ Hid (Ext w wr)) (fun v _ => n + 1 - (intOf v).toNat)
  case atStart => exact ⟨0, zs, Nat.zero_le _, rfl, hOW, hid (fun j hj => by by_cases h : j = 0 <;> simp [h, roughC]), hEX⟩
  case round =>
    obtain ⟨t, ys, ht, rfl, ho2, hy, he⟩ := hrel
    have hn2 : n ≤ 1048576 := HN.out
    have hyl := hid ho2.out.len
    by_cases hlt : t + 1 < n
    · have HST := hid (fun r => set_pts (r := r) hyl.out hlt hy.out)
      have HCC : Hid (roughC (cls .f32 x) zs (t + 1) = fop .sub .f32 (cls .f32 (zs.getD (t + 1) 0)) (fop .mul .f32 (cls .f32 x) (cls .f32 (zs.getD t 0)))) := rfl
      obtain ⟨b1, off1, ha1, e1⟩ := cell_at HH1.out he.out (t + 1) hlt
      obtain ⟨rfl, rfl⟩ : b = b1 ∧ off = off1 := by simpa [eq_comm] using ha1
      generalize zs.getD (t + 1) 0 = u at e1 HCC
      have e9 := Own.cellAt ho2.out (t + 1) hlt
      generalize ys.getD (t + 1) 0 = u9 at e9
      obtain ⟨b2, off2, ha2, e2⟩ := cell_at HH1.out he.out t (by omega)
      obtain ⟨rfl, rfl⟩ : b = b2 ∧ off = off2 := by simpa [eq_comm] using ha2
      generalize zs.getD t 0 = v at e2 HCC
      have hf := Own.frozenAt ho2.out (t + 1)
      have hge : w.heap.size ≤ g := (HGE.out g rfl).1
      have HU := is_self .f32 u
      have HV := is_self .f32 v
      have hi0 : (0 : Int) ≤ ((t + 1 : Nat) : Int) := by omega
      have hi1 : ((t + 1 : Nat) : Int) < (n : Int) := by omega
      have hi2 : ((t + 1 : Nat) : Int).toNat = t + 1 := rfl
      have hi3 : (0 : Int) ≤ (t : Int) := by omega
      have hi4 : (t : Int) < (n : Int) := by omega
      have hi5 : ((t + 1 : Nat) : Int) - 1 = (t : Int) := by omega
      generalize hk : t + 1 = k at *
      go_wp2_with fail
      refine wp_region_tail 15 (by kernel_rfl) (by kernel_rfl) (by kernel_rfl) ?_
      simp only [List.take_succ_cons, List.take_zero, List.drop_succ_cons, List.drop_zero]
      repeat (with_reducible refine wpM_cons ?_; first
        | (refine wpM_fa rfl rfl rfl rfl rfl (by assumption) (by assumption) ?_; intro r hr hrw)
        | (refine wpM_mult0 rfl rfl ?_; refine mult_isub (t : Int) rfl rfl rfl (by omega) (by omega) (by omega) ?_; simp only [Act.put, List.setIfInBounds_toArray, List.set_cons_zero, List.set_cons_succ])
        | (refine wpM_quiet rfl (fun K hK => ?_); go_simp; refine hK _ ?_; clear hK K))
      with_reducible refine wpM_nil ?_
      intro w4 hw4
      obtain ⟨nq, hw4⟩ := hw4
      subst hw4
      go_wp2_with fail
      have HF := hid (HST.out r (by rw [HCC.out]; exact Is.out hr))
      go_roundw
      case rel => exact ⟨t + 1, ys.set k r, by omega, by rw [hk]; go_num, hid (Own.stored (Own.drewN ho2.out _) k _).1, by rw [hk]; exact HF, hid (Ext.set (Ext.drewN he.out _) (by dsimp only; omega) _)⟩
      case measure => simp [intOf]; omega
    · have htn : t + 1 = n := by omega
      have hi1 : ¬ (((t + 1 : Nat) : Int) < (n : Int)) := by omega
      have hy2 := hid (list_pts hyl.out (C := roughC (cls .f32 x) zs) (fun j hj => by have := hy.out j hj; rwa [if_pos (by omega)] at this))
      go_wp2_with fail
      refine (l03List_is _ _ w.heap.size ys R O _ ho2.out HN.out (by rw [hy2.out]; exact HS.out)).mono ?_
      rintro e w1 ⟨u, rfl, hu, E1⟩
      have hu1 := hid hu
      have hx1 := hid (Ext.trans he.out E1)
      clear hu E1
      go_wp2
      go_ret2
      exact ⟨_, rfl, hu1.out, hx1.out⟩

set_option maxHeartbeats 8000000 in
set_option maxRecDepth 100000 in
theorem smoothS_any (a : Option Addr) (n c x : Nat) (zs : List Nat) (R : List (Option Nat)) (O : Bool) (w : World) (h : Holds .f32 w a n zs) (hn : n ≤ 1048576) (hR : smoothR (cls .f32 x) zs = (R, O)) :
    Calls Try.prog 28 #[.slice a n c, .float .f32 x] w fun e w' => ∃ v, e = .returned (.tuple #[v, .bool O]) ∧ ListIs w' w.heap.size R v ∧ Ext w w' := by
  have H1 := hid h
  have HN := hid hn
  have HL := hid h.1
  have HR := hid hR
  clear h hn hR
  cases hA : soundB (zs.map (cls .f32))
  · have e : O = false ∧ R = [] := by have := HR.out; unfold smoothR at this; rw [hA] at this; simpa [eq_comm, and_comm] using this
    obtain ⟨rfl, rfl⟩ := e
    go_enter Try.func28, Try.ntmps28
    go_wp2_with (first | (go_at_call 55; with_reducible refine (isSound_drew a n c zs _ _ (Holds.ext H1.out (by (repeat with_reducible (first | exact Ext.refl _ | exact ext_alloc _ _ | refine Ext.drewN ?_ _ | refine Ext.drew1 ?_ | refine Ext.set ?_ (by dsimp only; omega) _ | refine Ext.alloc ?_ _)))) HN.out hA).mono ?_; rintro e w' ⟨rfl, m1, rfl⟩))
    go_returns
    refine ⟨_, rfl, nil_is _ _, ?_⟩
    (repeat with_reducible (first | exact Ext.refl _ | exact ext_alloc _ _ | refine Ext.drewN ?_ _ | refine Ext.drew1 ?_ | refine Ext.set ?_ (by dsimp only; omega) _ | refine Ext.alloc ?_ _))
  cases hx : fin32 (cls .f32 x)
  · have e : O = false ∧ R = [] := by have := HR.out; unfold smoothR at this; rw [hA, hx] at this; simpa [eq_comm, and_comm] using this
    obtain ⟨rfl, rfl⟩ := e
    go_enter Try.func28, Try.ntmps28
    go_wp2_with (first | (go_at_call 55; with_reducible refine (isSound_drew a n c zs _ _ (Holds.ext H1.out (by (repeat with_reducible (first | exact Ext.refl _ | exact ext_alloc _ _ | refine Ext.drewN ?_ _ | refine Ext.drew1 ?_ | refine Ext.set ?_ (by dsimp only; omega) _ | refine Ext.alloc ?_ _)))) HN.out hA).mono ?_; rintro e w' ⟨rfl, m1, rfl⟩) | (go_at_call 58; with_reducible refine (isFinite_any x _).mono ?_; rintro e w' ⟨rfl, m2, rfl⟩; rw [hx]))
    go_returns
    refine ⟨_, rfl, nil_is _ _, ?_⟩
    (repeat with_reducible (first | exact Ext.refl _ | exact ext_alloc _ _ | refine Ext.drewN ?_ _ | refine Ext.drew1 ?_ | refine Ext.set ?_ (by dsimp only; omega) _ | refine Ext.alloc ?_ _))
  have HS := hid (show soundR (smoothC (cls .f32 x) zs) n = (R, O) from by have := HR.out; unfold smoothR at this; rw [hA, hx, HL.out] at this; simpa using this)
  have HX := is_self .f32 x
  clear HR
  by_cases h0 : n = 0
  · subst h0
    have hzs : zs = [] := List.eq_nil_of_length_eq_zero HL.out
    subst hzs
    go_enter Try.func28, Try.ntmps28
    go_wp2_with (first | (go_at_call 55; with_reducible refine (isSound_drew a 0 c [] _ _ (Holds.ext H1.out (by (repeat with_reducible (first | exact Ext.refl _ | exact ext_alloc _ _ | refine Ext.drewN ?_ _ | refine Ext.drew1 ?_ | refine Ext.set ?_ (by dsimp only; omega) _ | refine Ext.alloc ?_ _)))) HN.out hA).mono ?_; rintro e w' ⟨rfl, m1, rfl⟩) | (go_at_call 58; with_reducible refine (isFinite_any x _).mono ?_; rintro e w' ⟨rfl, m2, rfl⟩; rw [hx]))
    refine (clone_zero a c _).mono ?_
    rintro e w1 ⟨v, rfl, O1, E1⟩
    have hEX := hid (show Ext w w1 from Ext.trans (by (repeat with_reducible (first | exact Ext.refl _ | exact ext_alloc _ _ | refine Ext.drewN ?_ _ | refine Ext.drew1 ?_ | refine Ext.set ?_ (by dsimp only; omega) _ | refine Ext.alloc ?_ _))) E1)
    have hOW := hid (Own.base O1 (B' := w.heap.size) (by first | exact Nat.le_refl _ | (simp; done) | (simp; omega)))
    clear O1 E1
    obtain ⟨va, vc, rfl, _, _, _⟩ := Own.holds hOW.out
    go_wp2_with fail
    go_loopw [7] (fun v wr => v = .int .i64 (1 : Int) ∧ Hid (Own wr w.heap.size 0 (.slice va 0 vc) []) ∧ Hid (Ext w wr)) (fun _ _ => 0)
    case atStart => exact ⟨rfl, hOW, hEX⟩
    case round =>
      obtain ⟨rfl, ho2, he⟩ := hrel
      go_wp2_with fail
      refine (finiteList_is _ 0 w.heap.size [] R O _ ho2.out (Nat.zero_le _) HS.out).mono ?_
      rintro e w1 ⟨u, rfl, hu, E1⟩
      have hu1 := hid hu
      have hx1 := hid (Ext.trans he.out E1)
      clear hu E1
      go_wp2
      go_ret2
      exact ⟨_, rfl, hu1.out, hx1.out⟩
  have H2 := hid (show 1 ≤ n by omega)
  go_enter Try.func28, Try.ntmps28
  go_wp2_with (first | (go_at_call 55; with_reducible refine (isSound_drew a n c zs _ _ (Holds.ext H1.out (by (repeat with_reducible (first | exact Ext.refl _ | exact ext_alloc _ _ | refine Ext.drewN ?_ _ | refine Ext.drew1 ?_ | refine Ext.set ?_ (by dsimp only; omega) _ | refine Ext.alloc ?_ _)))) HN.out hA).mono ?_; rintro e w' ⟨rfl, m1, rfl⟩) | (go_at_call 58; with_reducible refine (isFinite_any x _).mono ?_; rintro e w' ⟨rfl, m2, rfl⟩; rw [hx]))
  refine (clone_any a n c zs _ (Holds.ext H1.out (by (repeat with_reducible (first | exact Ext.refl _ | exact ext_alloc _ _ | refine Ext.drewN ?_ _ | refine Ext.drew1 ?_ | refine Ext.set ?_ (by dsimp only; omega) _ | refine Ext.alloc ?_ _)))) H2.out HN.out).mono ?_
  rintro e w1 ⟨b, c', rfl, O1, E1⟩
  have hEX := hid (show Ext w w1 from Ext.trans (by (repeat with_reducible (first | exact Ext.refl _ | exact ext_alloc _ _ | refine Ext.drewN ?_ _ | refine Ext.drew1 ?_ | refine Ext.set ?_ (by dsimp only; omega) _ | refine Ext.alloc ?_ _))) E1)
  have hOW := hid (Own.base O1 (B' := w.heap.size) (by first | exact Nat.le_refl _ | (simp; done) | (simp; omega)))
  have HGE := hid (Own.block hOW.out)
  clear O1 E1
  go_wp2_with fail
  go_loopw [7] (fun v wr => ∃ (t : Nat) (ys : List Nat), t ≤ n - 1 ∧ v = .int .i64 ((t + 1 : Nat) : Int) ∧ Hid (Own wr w.heap.size n (.slice (some ⟨b, 0, none⟩) n c') ys) ∧ Hid (∀ j, j < n → cls .f32 (ys.getD j 0) = if j < t + 1 then smoothC (cls .f32 x) zs j else cls .f32 (zs.getD j 0)) ∧ Hid (Ext w wr)) (fun v _ => n + 1 - (intOf v).toNat)
  case atStart => exact ⟨0, zs, Nat.zero_le _, rfl, hOW, hid (fun j hj => by by_cases h : j = 0 <;> simp [h, smoothC]), hEX⟩
  case round =>
    obtain ⟨t, ys, ht, rfl, ho2, hy, he⟩ := hrel
    have hn2 : n ≤ 1048576 := HN.out
    have hyl := hid ho2.out.len
    by_cases hlt : t + 1 < n
    · have HST := hid (fun r => set_pts (r := r) hyl.out hlt hy.out)
      have HCC : Hid (smoothC (cls .f32 x) zs (t + 1) = fop .add .f32 (cls .f32 (zs.getD (t + 1) 0)) (fop .mul .f32 (cls .f32 x) (smoothC (cls .f32 x) zs t))) := rfl
      have e1 := Own.cellAt ho2.out (t + 1) hlt
      have hv := hy.out (t + 1) hlt
      rw [if_neg (Nat.lt_irrefl _)] at hv
      rw [← hv] at HCC
      generalize ys.getD (t + 1) 0 = u at e1 HCC
      clear hv
      have e2 := Own.cellAt ho2.out t (by omega)
      have hv2 := hy.out t (by omega)
      rw [if_pos (Nat.lt_succ_self _)] at hv2
      rw [← hv2] at HCC
      generalize ys.getD t 0 = v at e2 HCC
      clear hv2
      have hf := Own.frozenAt ho2.out (t + 1)
      have hge : w.heap.size ≤ b := (HGE.out b rfl).1
      have HU := is_self .f32 u
      have HV := is_self .f32 v
      have hi0 : (0 : Int) ≤ ((t + 1 : Nat) : Int) := by omega
      have hi1 : ((t + 1 : Nat) : Int) < (n : Int) := by omega
      have hi2 : ((t + 1 : Nat) : Int).toNat = t + 1 := rfl
      have hi3 : (0 : Int) ≤ (t : Int) := by omega
      have hi4 : (t : Int) < (n : Int) := by omega
      have hi5 : ((t + 1 : Nat) : Int) - 1 = (t : Int) := by omega
      generalize hk : t + 1 = k at *
      go_wp2_with fail
      refine wp_region_tail 13 (by kernel_rfl) (by kernel_rfl) (by kernel_rfl) ?_
      simp only [List.take_succ_cons, List.take_zero, List.drop_succ_cons, List.drop_zero]
      repeat (with_reducible refine wpM_cons ?_; first
        | (refine wpM_fa rfl rfl rfl rfl rfl (by assumption) (by assumption) ?_; intro r hr hrw)
        | (refine wpM_mult0 rfl rfl ?_; refine mult_isub (t : Int) rfl rfl rfl (by omega) (by omega) (by omega) ?_; simp only [Act.put, List.setIfInBounds_toArray, List.set_cons_zero, List.set_cons_succ])
        | (refine wpM_quiet rfl (fun K hK => ?_); go_simp; refine hK _ ?_; clear hK K))
      with_reducible refine wpM_nil ?_
      intro w4 hw4
      obtain ⟨nq, hw4⟩ := hw4
      subst hw4
      go_wp2_with fail
      have HF := hid (HST.out r (by rw [HCC.out]; exact Is.out hr))
      go_roundw
      case rel => exact ⟨t + 1, ys.set k r, by omega, by rw [hk]; go_num, hid (Own.stored (Own.drewN ho2.out _) k _).1, by rw [hk]; exact HF, hid (Ext.set (Ext.drewN he.out _) (by dsimp only; omega) _)⟩
      case measure => simp [intOf]; omega
    · have htn : t + 1 = n := by omega
      have hi1 : ¬ (((t + 1 : Nat) : Int) < (n : Int)) := by omega
      have hy2 := hid (list_pts hyl.out (C := smoothC (cls .f32 x) zs) (fun j hj => by have := hy.out j hj; rwa [if_pos (by omega)] at this))
      go_wp2_with fail
      refine (finiteList_is _ _ w.heap.size ys R O _ ho2.out HN.out (by rw [hy2.out]; exact HS.out)).mono ?_
      rintro e w1 ⟨u, rfl, hu, E1⟩
      have hu1 := hid hu
      have hx1 := hid (Ext.trans he.out E1)
      clear hu E1
      go_wp2
      go_ret2
      exact ⟨_, rfl, hu1.out, hx1.out⟩

set_option maxHeartbeats 8000000 in
set_option maxRecDepth 100000 in
theorem sSmooth_any (a : Option Addr) (n c x : Nat) (zs : List Nat) (R : List (Option Nat)) (O : Bool) (w : World) (h : Holds .f32 w a n zs) (hn : n ≤ 1048576) (hR : smoothR (cls .f32 x) zs = (R, O)) :
    Calls Try.prog 27 #[.slice a n c, .float .f32 x] w fun e w' => ∃ v, e = .returned (.tuple #[v, .bool O]) ∧ ListIs w' w.heap.size R v ∧ Ext w w' := by
  have H1 := hid h
  have HN := hid hn
  have HL := hid h.1
  have HR := hid hR
  clear h hn hR
  cases hA : soundB (zs.map (cls .f32))
  · have e : O = false ∧ R = [] := by have := HR.out; unfold smoothR at this; rw [hA] at this; simpa [eq_comm, and_comm] using this
    obtain ⟨rfl, rfl⟩ := e
    go_enter Try.func27, Try.ntmps27
    go_wp2_with (first | (go_at_call 53; with_reducible refine (l03Sound_drew a n c zs _ _ (Holds.ext H1.out (by (repeat with_reducible (first | exact Ext.refl _ | exact ext_alloc _ _ | refine Ext.drewN ?_ _ | refine Ext.drew1 ?_ | refine Ext.set ?_ (by dsimp only; omega) _ | refine Ext.alloc ?_ _)))) HN.out hA).mono ?_; rintro e w' ⟨rfl, m1, rfl⟩))
    go_returns
    refine ⟨_, rfl, nil_is _ _, ?_⟩
    (repeat with_reducible (first | exact Ext.refl _ | exact ext_alloc _ _ | refine Ext.drewN ?_ _ | refine Ext.drew1 ?_ | refine Ext.set ?_ (by dsimp only; omega) _ | refine Ext.alloc ?_ _))
  cases hx : fin32 (cls .f32 x)
  · have e : O = false ∧ R = [] := by have := HR.out; unfold smoothR at this; rw [hA, hx] at this; simpa [eq_comm, and_comm] using this
    obtain ⟨rfl, rfl⟩ := e
    go_enter Try.func27, Try.ntmps27
    go_wp2_with (first | (go_at_call 53; with_reducible refine (l03Sound_drew a n c zs _ _ (Holds.ext H1.out (by (repeat with_reducible (first | exact Ext.refl _ | exact ext_alloc _ _ | refine Ext.drewN ?_ _ | refine Ext.drew1 ?_ | refine Ext.set ?_ (by dsimp only; omega) _ | refine Ext.alloc ?_ _)))) HN.out hA).mono ?_; rintro e w' ⟨rfl, m1, rfl⟩) | (go_at_call 57; with_reducible refine (l01Finite_any x _).mono ?_; rintro e w' ⟨rfl, m2, rfl⟩; rw [hx]))
    go_returns
    refine ⟨_, rfl, nil_is _ _, ?_⟩
    (repeat with_reducible (first | exact Ext.refl _ | exact ext_alloc _ _ | refine Ext.drewN ?_ _ | refine Ext.drew1 ?_ | refine Ext.set ?_ (by dsimp only; omega) _ | refine Ext.alloc ?_ _))
  have HS := hid (show soundR (smoothC (cls .f32 x) zs) n = (R, O) from by have := HR.out; unfold smoothR at this; rw [hA, hx, HL.out] at this; simpa using this)
  have HX := is_self .f32 x
  clear HR
  obtain ⟨i0, hif, hz0, hz1, hz2⟩ := info_parts infoF
  have HI := hid (And.intro hif (And.intro hz0 (And.intro hz1 hz2)))
  clear hif hz0 hz1 hz2
  by_cases h0 : n = 0
  · subst h0
    have hzs : zs = [] := List.eq_nil_of_length_eq_zero HL.out
    subst hzs
    go_enter Try.func27, Try.ntmps27
    go_wp2_with (first | (go_at_call 53; with_reducible refine (l03Sound_drew a 0 c [] _ _ (Holds.ext H1.out (by (repeat with_reducible (first | exact Ext.refl _ | exact ext_alloc _ _ | refine Ext.drewN ?_ _ | refine Ext.drew1 ?_ | refine Ext.set ?_ (by dsimp only; omega) _ | refine Ext.alloc ?_ _)))) HN.out hA).mono ?_; rintro e w' ⟨rfl, m1, rfl⟩) | (go_at_call 57; with_reducible refine (l01Finite_any x _).mono ?_; rintro e w' ⟨rfl, m2, rfl⟩; rw [hx]) | (at_builtin; refine wpList_append_none _ rfl _ _ 22 rfl 33 i0 Try.underlying22 HI.out.1 _ _ rfl _ _ rfl ?_))
    go_loopw [7] (fun v wr => v = .int .i64 (1 : Int) ∧ Hid (Own wr w.heap.size 0 (.slice (some ⟨w.heap.size, 0, none⟩) 0 0) []) ∧ Hid (Ext w wr)) (fun _ _ => 0)
    case atStart => exact ⟨rfl, hid (own_fresh (cs := #[]) (zs := []) (hid rfl) rfl (by simp) (by simp) (Nat.zero_le _)), hid (by (repeat with_reducible (first | exact Ext.refl _ | exact ext_alloc _ _ | refine Ext.drewN ?_ _ | refine Ext.drew1 ?_ | refine Ext.set ?_ (by dsimp only; omega) _ | refine Ext.alloc ?_ _)))⟩
    case round =>
      obtain ⟨rfl, ho2, he⟩ := hrel
      go_wp2_with fail
      refine (l03List_is _ 0 w.heap.size [] R O _ ho2.out (Nat.zero_le _) HS.out).mono ?_
      rintro e w1 ⟨u, rfl, hu, E1⟩
      have hu1 := hid hu
      have hx1 := hid (Ext.trans he.out E1)
      clear hu E1
      go_wp2
      go_ret2
      exact ⟨_, rfl, hu1.out, hx1.out⟩
  have HH1 := H1
  rcases H1.out.2 with h1 | ⟨b, off, rfl, hb, hc⟩
  · exact absurd h1 h0
  have HB := hid hb
  have HC := hid hc
  have HP := hid (show 0 < n by omega)
  clear hb hc
  go_enter Try.func27, Try.ntmps27
  go_wp2_with (first | (go_at_call 53; with_reducible refine (l03Sound_drew _ n c zs _ _ (Holds.ext H1.out (by (repeat with_reducible (first | exact Ext.refl _ | exact ext_alloc _ _ | refine Ext.drewN ?_ _ | refine Ext.drew1 ?_ | refine Ext.set ?_ (by dsimp only; omega) _ | refine Ext.alloc ?_ _)))) HN.out hA).mono ?_; rintro e w' ⟨rfl, m1, rfl⟩) | (go_at_call 57; with_reducible refine (l01Finite_any x _).mono ?_; rintro e w' ⟨rfl, m2, rfl⟩; rw [hx]) | (at_builtin; refine wpList_append_lies _ rfl _ _ 22 rfl w.heap.size 33 i0 (.float .f32 0) 1 4 Try.underlying22 HI.out.1 HI.out.2.1 HI.out.2.2.1 HI.out.2.2.2 rfl (by decide) _ _ _ rfl (own_fresh (cs := #[]) (zs := []) (B := w.heap.size) (hid rfl) rfl (by simp) (by simp) (Nat.zero_le _)) ⟨b, off, none⟩ n c (zs.map (Value.float .f32)) rfl (by have := HL.out; simp [this]) (news_ext (by (repeat with_reducible (first | exact Ext.refl _ | exact ext_alloc _ _ | refine Ext.drewN ?_ _ | refine Ext.drew1 ?_ | refine Ext.set ?_ (by dsimp only; omega) _ | refine Ext.alloc ?_ _))) HB.out HL.out HC.out) (news_one zs) HP.out (by have := HN.out; unfold maxLen; omega) (by have := HN.out; omega) (by simp) _ rfl ?_; intro g cap w1 hown hgrow hat hlt))
  have hOW := hid (show Own w1 w.heap.size n (.slice (some ⟨g, 0, none⟩) n cap) zs from by simpa [Own] using hown)
  have hEX := hid (show Ext w w1 from But.below hgrow (by (repeat with_reducible (first | exact Ext.refl _ | exact ext_alloc _ _ | refine Ext.drewN ?_ _ | refine Ext.drew1 ?_ | refine Ext.set ?_ (by dsimp only; omega) _ | refine Ext.alloc ?_ _))) (fun k hk => by cases hk; simp))
  clear hown hgrow hat hlt
  try simp only [Nat.zero_add]
  have HGE := hid (Own.block hOW.out)
  go_wp2_with fail
  go_loopw [7] (fun v wr => ∃ (t : Nat) (ys : List Nat), t ≤ n - 1 ∧ v = .int .i64 ((t + 1 : Nat) : Int) ∧ Hid (Own wr w.heap.size n (.slice (some ⟨g, 0, none⟩) n cap) ys) ∧ Hid (∀ j, j < n → cls .f32 (ys.getD j 0) = if j < t + 1 then smoothC (cls .f32 x) zs j else cls .f32 (zs.getD j 0)) ∧ Hid (Ext w wr)) (fun v _ => n + 1 - (intOf v).toNat)
  case atStart => exact ⟨0, zs, Nat.zero_le _, rfl, hOW, hid (fun j hj => by by_cases h : j = 0 <;> simp [h, smoothC]), hEX⟩
  case round =>
    obtain ⟨t, ys, ht, rfl, ho2, hy, he⟩ := hrel
    have hn2 : n ≤ 1048576 := HN.out
    have hyl := hid ho2.out.len
    by_cases hlt : t + 1 < n
    · have HST := hid (fun r => set_pts (r := r) hyl.out hlt hy.out)
      have HCC : Hid (smoothC (cls .f32 x) zs (t + 1) = fop .add .f32 (cls .f32 (zs.getD (t + 1) 0)) (fop .mul .f32 (cls .f32 x) (smoothC (cls .f32 x) zs t))) := rfl
      have e2 := Own.cellAt ho2.out t (by omega)
      have hv2 := hy.out t (by omega)
      rw [if_pos (Nat.lt_succ_self _)] at hv2
      rw [← hv2] at HCC
      generalize ys.getD t 0 = v at e2 HCC
      clear hv2
      obtain ⟨b1, off1, ha1, e1⟩ := cell_at HH1.out he.out (t + 1) hlt
      obtain ⟨rfl, rfl⟩ : b = b1 ∧ off = off1 := by simpa [eq_comm] using ha1
      generalize zs.getD (t + 1) 0 = u at e1 HCC
      have e9 := Own.cellAt ho2.out (t + 1) hlt
      generalize ys.getD (t + 1) 0 = u9 at e9
      have hf := Own.frozenAt ho2.out (t + 1)
      have hge : w.heap.size ≤ g := (HGE.out g rfl).1
      have HU := is_self .f32 u
      have HV := is_self .f32 v
      have hi0 : (0 : Int) ≤ ((t + 1 : Nat) : Int) := by omega
      have hi1 : ((t + 1 : Nat) : Int) < (n : Int) := by omega
      have hi2 : ((t + 1 : Nat) : Int).toNat = t + 1 := rfl
      have hi3 : (0 : Int) ≤ (t : Int) := by omega
      have hi4 : (t : Int) < (n : Int) := by omega
      have hi5 : ((t + 1 : Nat) : Int) - 1 = (t : Int) := by omega
      generalize hk : t + 1 = k at *
      go_wp2_with fail
      refine wp_region_tail 15 (by kernel_rfl) (by kernel_rfl) (by kernel_rfl) ?_
      simp only [List.take_succ_cons, List.take_zero, List.drop_succ_cons, List.drop_zero]
      repeat (with_reducible refine wpM_cons ?_; first
        | (refine wpM_fa rfl rfl rfl rfl rfl (by assumption) (by assumption) ?_; intro r hr hrw)
        | (refine wpM_mult0 rfl rfl ?_; refine mult_isub (t : Int) rfl rfl rfl (by omega) (by omega) (by omega) ?_; simp only [Act.put, List.setIfInBounds_toArray, List.set_cons_zero, List.set_cons_succ])
        | (refine wpM_quiet rfl (fun K hK => ?_); go_simp; refine hK _ ?_; clear hK K))
      with_reducible refine wpM_nil ?_
      intro w4 hw4
      obtain ⟨nq, hw4⟩ := hw4
      subst hw4
      go_wp2_with fail
      have HF := hid (HST.out r (by rw [HCC.out]; exact Is.out hr))
      go_roundw
      case rel => exact ⟨t + 1, ys.set k r, by omega, by rw [hk]; go_num, hid (Own.stored (Own.drewN ho2.out _) k _).1, by rw [hk]; exact HF, hid (Ext.set (Ext.drewN he.out _) (by dsimp only; omega) _)⟩
      case measure => simp [intOf]; omega
    · have htn : t + 1 = n := by omega
      have hi1 : ¬ (((t + 1 : Nat) : Int) < (n : Int)) := by omega
      have hy2 := hid (list_pts hyl.out (C := smoothC (cls .f32 x) zs) (fun j hj => by have := hy.out j hj; rwa [if_pos (by omega)] at this))
      go_wp2_with fail
      refine (l03List_is _ _ w.heap.size ys R O _ ho2.out HN.out (by rw [hy2.out]; exact HS.out)).mono ?_
      rintro e w1 ⟨u, rfl, hu, E1⟩
      have hu1 := hid hu
      have hx1 := hid (Ext.trans he.out E1)
      clear hu E1
      go_wp2
      go_ret2
      exact ⟨_, rfl, hu1.out, hx1.out⟩

end Go.Proofs.Ytpmjiabllmomjaa
