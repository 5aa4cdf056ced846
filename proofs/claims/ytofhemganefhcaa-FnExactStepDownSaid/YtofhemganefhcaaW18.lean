/- Steps of ladders. -/
import Derived.Test.YtofhemganefhcaaW7
import Derived.Test.YtofhemganefhcaaW10
import Derived.Test.YtofhemganefhcaaV17
import Derived.Test.YtofhemganefhcaaArr
import Derived.Test.YtofhemganefhcaaFinOp
namespace Go.Proofs.Ytofhemganefhcaa
open Go.RowKit Flt
set_option linter.unusedVariables false

def upF (x : Option Nat) (cs : List (Option Nat)) (j : Nat) : Option Nat := fop .sub .f32 (cs.getD j none) (fop .mul .f32 x (cs.getD (cs.length - 1 - j) none))
/-- the steps behind a further rung -/
def upC (cs : List (Option Nat)) (x : Option Nat) : List (Option Nat) := listK (upF x cs) cs.length ++ [x]
def upsC (us : List Nat) : Nat → List (Option Nat)
  | 0 => []
  | k + 1 => upC (upsC us k) (cls .f32 (us.getD k 0))
theorem ups_len (us : List Nat) : ∀ k, (upsC us k).length = k
  | 0 => rfl
  | k + 1 => by show (upC (upsC us k) _).length = _; simp [upC, listK_len, ups_len us k]
def stepUpR (us : List Nat) (g : Option Nat) : QR := if ladderC (us.map (cls .f32)) then giveQ (upsC us us.length) g else zeroQ
theorem stepUp_len (us : List Nat) (g : Option Nat) : (stepUpR us g).cs.length ≤ 16 := by
  unfold stepUpR
  split
  · exact giveQ_len _ _
  · exact Nat.zero_le _
theorem zeros_row : rowA zeros16 = #[.float .f32 0, .float .f32 0, .float .f32 0, .float .f32 0, .float .f32 0, .float .f32 0, .float .f32 0, .float .f32 0, .float .f32 0, .float .f32 0, .float .f32 0, .float .f32 0, .float .f32 0, .float .f32 0, .float .f32 0, .float .f32 0] := rfl
theorem take_getD {zs : List Nat} {k j : Nat} (hk : k ≤ zs.length) (hj : j < k) : ((zs.take k).map (cls .f32)).getD j none = cls .f32 (zs.getD j 0) := by
  simp [List.getD, hj, show j < zs.length by omega]

theorem infoA : (Try.prog.info? 83).map (·.size) = some 16 := by kernel_rfl
set_option maxHeartbeats 4000000 in
set_option maxRecDepth 100000 in
theorem withRung_any (zs : List Nat) (k x : Nat) (w : World) (hl : zs.length = 16) (hk : k < 16) :
    Calls Try.prog 85 #[.agg (rowA zs), .int .i64 ((k : Int) + 1), .float .f32 x] w fun e w' => ∃ ys, e = .returned (.agg (rowA ys)) ∧ ys.length = 16 ∧ (ys.take (k + 1)).map (cls .f32) = upC ((zs.take k).map (cls .f32)) (cls .f32 x) ∧ Ext w w' := by
  have HL := hid hl
  have HK := hid hk
  obtain ⟨w2, hw2⟩ : ∃ u, u = (w.alloc (.cells (rowA zs) 83)).alloc (.cells #[.float .f32 0, .float .f32 0, .float .f32 0, .float .f32 0, .float .f32 0, .float .f32 0, .float .f32 0, .float .f32 0, .float .f32 0, .float .f32 0, .float .f32 0, .float .f32 0, .float .f32 0, .float .f32 0, .float .f32 0, .float .f32 0] 83) := ⟨_, rfl⟩
  have A3 : Hid (Arr w2 w.heap.size zs) := by rw [hw2]; exact hid (Arr.alloc (arr_new (w := w) 83 hl) _)
  have A6 : Hid (Arr w2 (w.heap.size + 1) zeros16) := by rw [hw2, ← zeros_row]; exact hid (arr_cast (arr_new (w := w.alloc (.cells (rowA zs) 83)) 83 rfl) (by simp))
  have EX := hid (show Ext w w2 from by rw [hw2]; (repeat with_reducible (first | exact Ext.refl _ | exact ext_alloc _ _ | refine Ext.drewN ?_ _ | refine Ext.drew1 ?_ | refine Ext.set ?_ (by dsimp only; omega) _ | refine Ext.alloc ?_ _)))
  have HZ := hid (show w2.heap.size = w.heap.size + 2 from by rw [hw2]; simp)
  go_enter Try.func85, Try.ntmps85
  go_wp2_with (first | (refine wpList_loadA rfl rfl rfl Try.underlying83 infoA (by rw [← hw2]; exact A3.out) ?_) | (refine wpList_storeA rfl rfl rfl rfl infoA (by rw [← hw2, ← zeros_row]; exact arr_cast (arr_new (w := w2) 83 rfl) (by have := HZ.out; omega)) (HL.out) ?_; intro w4 A7 hb))
  have hE := hid (show Ext w w4 from But.below hb (by (repeat with_reducible (first | exact Ext.refl _ | exact ext_alloc _ _ | refine Ext.drewN ?_ _ | refine Ext.drew1 ?_ | refine Ext.set ?_ (by dsimp only; omega) _ | refine Ext.alloc ?_ _))) (fun k hk => by cases hk; omega))
  have A7h := hid A7
  have A3h : Hid (Arr w4 w.heap.size zs) := by
    rw [← hw2] at hb
    exact hid (Arr.but hb (Arr.alloc A3.out _) (by simp; omega))
  have A6h : Hid (Arr w4 (w.heap.size + 1) zeros16) := by
    rw [← hw2] at hb
    exact hid (Arr.but hb (Arr.alloc A6.out _) (by simp))
  clear A7 hb A3 A6 hw2
  have HCC := hid (fun j (hj : j < k) => show upF (cls .f32 x) ((zs.take k).map (cls .f32)) j = fop .sub .f32 (cls .f32 (zs.getD j 0)) (fop .mul .f32 (cls .f32 x) (cls .f32 (zs.getD (k - 1 - j) 0))) from by
    have h1 := HL.out
    have h2 := HK.out
    unfold upF
    rw [take_getD (by omega) hj, List.length_map, List.length_take, show min k zs.length - 1 - j = k - 1 - j from by omega, take_getD (by omega) (by omega)])
  have hk2 : k < 16 := HK.out
  go_wp2_with fail
  go_loopw [12] (fun v wr => ∃ (t : Nat) (us : List Nat), t ≤ k ∧ v = .int .i64 t ∧ Hid (Arr wr w.heap.size zs) ∧ Hid (Arr wr (w.heap.size + 1) zeros16) ∧ Hid (Arr wr (w.heap.size + 1 + 1) us) ∧ Hid (∀ j, j < 16 → cls .f32 (us.getD j 0) = if j < t then upF (cls .f32 x) ((zs.take k).map (cls .f32)) j else cls .f32 (zs.getD j 0)) ∧ Hid (Ext w wr)) (fun v _ => k - (intOf v).toNat)
  case atStart => exact ⟨0, zs, Nat.zero_le _, rfl, A3h, A6h, A7h, hid (fun j hj => by simp), hE⟩
  case round =>
    obtain ⟨t, us, ht, rfl, h3, h6, h7, hu, he⟩ := hrel
    by_cases hlt : t < k
    · have e1 := Arr.cellAt h3.out t (by omega)
      have e2 := Arr.cellAt h3.out (k - 1 - t) (by omega)
      have e3 := Arr.cellAt h7.out t (by omega)
      have hf := Arr.frozenAt h7.out t
      have HC2 := hid (HCC.out t hlt)
      have HUL := hid h7.out.2
      have HST : Hid (∀ r, cls .f32 r = upF (cls .f32 x) ((zs.take k).map (cls .f32)) t → ∀ j, j < 16 → cls .f32 ((us.set t r).getD j 0) = if j < t + 1 then upF (cls .f32 x) ((zs.take k).map (cls .f32)) j else cls .f32 (zs.getD j 0)) := by
        intro r hr j hj
        rw [getD_set16 _ _ _ _ (by rw [HUL.out]; omega)]
        by_cases hjt : j = t
        · subst hjt; rw [if_pos rfl, if_pos (Nat.lt_succ_self _), hr]
        · rw [if_neg hjt, hu.out j hj]
          by_cases h : j < t
          · rw [if_pos h, if_pos (by omega)]
          · rw [if_neg h, if_neg (by omega)]
      generalize zs.getD t 0 = u at e1 HC2
      generalize zs.getD (k - 1 - t) 0 = v at e2 HC2
      have hi0 : (0 : Int) ≤ (t : Int) := by omega
      have hi1 : (t : Int) < (k : Int) := by omega
      have hi2 : (t : Int) < 16 := by omega
      have hi3 : (0 : Int) ≤ ((k - 1 - t : Nat) : Int) := by omega
      have hi4 : ((k - 1 - t : Nat) : Int) < 16 := by omega
      have hi5 : ((k - 1 - t : Nat) : Int).toNat = k - 1 - t := rfl
      have hi6 : (k : Int) + 1 - 2 = (k : Int) - 1 := by omega
      have hi7 : (k : Int) - 1 - (t : Int) = ((k - 1 - t : Nat) : Int) := by omega
      have hi8 : k - 1 - t < 16 := by omega
      generalize hp : k - 1 - t = p at *
      go_wp2_with fail
      refine wp_region_tail 14 (by kernel_rfl) (by kernel_rfl) (by kernel_rfl) ?_
      simp only [List.take_succ_cons, List.take_zero, List.drop_succ_cons, List.drop_zero]
      repeat (with_reducible refine wpM_cons ?_; first
        | (refine wpM_fa rfl rfl rfl rfl rfl (by first | assumption | exact is_self _ _ | exact is_const (by decide)) (by first | assumption | exact is_self _ _ | exact is_const (by decide)) ?_; intro r hr hrw)
        | (refine wpM_mult0 rfl rfl ?_; refine mult_isub ((k : Int) - 1 : Int) rfl rfl rfl (by omega) (by omega) (by omega) ?_; simp only [Act.put, List.setIfInBounds_toArray, List.set_cons_zero, List.set_cons_succ])
        | (refine wpM_mult0 rfl rfl ?_; refine mult_isub ((p : Int) : Int) rfl rfl rfl (by omega) (by omega) (by omega) ?_; simp only [Act.put, List.setIfInBounds_toArray, List.set_cons_zero, List.set_cons_succ])
        | (refine wpM_quiet rfl (fun K hK => ?_); go_simp; refine hK _ ?_; clear hK K))
      with_reducible refine wpM_nil ?_
      intro w5 hw5
      obtain ⟨nq, hw5⟩ := hw5
      subst hw5
      go_wp2_with fail
      have HF := hid (HST.out r (by rw [HC2.out]; exact Is.out hr))
      go_roundw
      case rel => exact ⟨t + 1, us.set t r, by omega, by go_num, hid (Arr.far (Arr.drewN h3.out _) (by omega) _), hid (Arr.far (Arr.drewN h6.out _) (by omega) _), hid (Arr.stored (Arr.drewN h7.out _) t r), HF, hid (Ext.set (Ext.drewN he.out _) (by dsimp only; omega) _)⟩
      case measure => simp [intOf]; omega
    · have htk : t = k := by omega
      subst htk
      have e3 := Arr.cellAt h7.out t (by omega)
      have hf := Arr.frozenAt h7.out t
      have hi0 : (0 : Int) ≤ (t : Int) := by omega
      have hi2 : (t : Int) < 16 := by omega
      have hi9 : ((t : Int)).toNat = t := rfl
      generalize us.getD t 0 = v at e3
      go_wp2_with (first | (refine wpList_loadA rfl rfl rfl Try.underlying83 infoA (Arr.stored h7.out t x) ?_) | (refine wpList_storeA rfl rfl rfl rfl infoA (Arr.far h6.out (by omega) _) (by rw [List.length_set]; exact h7.out.2) ?_; intro w9 A9 hb9))
      have A9h := hid A9
      have hE9 := hid (show Ext w w9 from But.below hb9 (Ext.set he.out (by dsimp only; omega) _) (fun k hk => by cases hk; omega))
      clear A9 hb9
      refine bodyPost_ret (ret_arr1 Try.results85 rfl A9h.out Try.underlying83 infoA) rfl ?_
      refine ⟨us.set t x, rfl, by rw [List.length_set]; exact h7.out.2, ?_, hE9.out⟩
      have hul := h7.out.2
      have hzl := HL.out
      unfold upC listK
      apply List.ext_getElem
      · simp; omega
      · intro j h1 h2
        simp at h1
        have e8 : ((us.set t x).take (t + 1)).map (cls .f32) = ((us.set t x).take (t + 1)).map (cls .f32) := rfl
        have e9 : (((us.set t x).take (t + 1)).map (cls .f32))[j] = cls .f32 ((us.set t x).getD j 0) := by
          rw [List.getElem_map, List.getElem_take]
          simp only [List.getD, List.getElem?_eq_getElem (show j < (us.set t x).length by rw [List.length_set]; omega), Option.getD_some]
        rw [e9, getD_set16 _ _ _ _ (by omega)]
        by_cases hjt : j = t
        · subst hjt
          simp [show min j zs.length = j by omega]
        · rw [if_neg hjt, hu.out j (by omega), if_pos (by omega), List.getElem_append_left (by simp; omega)]
          simp

theorem up_fin {cs : List (Option Nat)} {x : Option Nat} (hc : ∀ X ∈ cs, ∀ b, X = some b → nanW .f32 b = false) (h : finsC (upC cs x) = true) : finsC cs = true := by
  unfold finsC upC listK at *
  rw [List.all_append] at h
  simp only [Bool.and_eq_true] at h
  rw [List.all_eq_true] at h ⊢
  intro X hX
  obtain ⟨j, hj, rfl⟩ := List.mem_iff_getElem.1 hX
  have h1 := h.1 (upF x cs j) (List.mem_map.2 ⟨j, List.mem_range.2 hj, rfl⟩)
  unfold upF at h1
  have e : cs.getD j none = cs[j] := by simp [List.getD, hj]
  rw [e] at h1
  exact (fin_sub (hc _ hX) num_of_fop h1).1
theorem up_num (us : List Nat) : ∀ k, ∀ X ∈ upsC us k, ∀ b, X = some b → nanW .f32 b = false
  | 0, X, h, b, hb => by cases h
  | k + 1, X, h, b, hb => by
    have h' : X ∈ listK (upF (cls .f32 (us.getD k 0)) (upsC us k)) (upsC us k).length ++ [cls .f32 (us.getD k 0)] := h
    rcases List.mem_append.1 h' with h1 | h1
    · unfold listK at h1
      obtain ⟨j, _, rfl⟩ := List.mem_map.1 h1
      exact num_of_fop b hb
    · simp only [List.mem_singleton] at h1
      subst h1
      exact num_of_cls _ b hb
theorem ups_bad (us : List Nat) {k : Nat} (h : finsC (upsC us k) = false) : ∀ d, finsC (upsC us (k + d)) = false
  | 0 => h
  | d + 1 => by
    have ih := ups_bad us h d
    cases hc : finsC (upsC us (k + (d + 1)))
    · rfl
    · exfalso
      have := up_fin (up_num us (k + d)) (show finsC (upC (upsC us (k + d)) (cls .f32 (us.getD (k + d) 0))) = true from hc)
      rw [ih] at this; cases this
theorem hold_cells18 {w : World} {b off n : Nat} {zs : List Nat} (h : Holds .f32 w (some ⟨b, off, none⟩) n zs) : ∀ i, i < n → w.cell? ⟨b, off + i, none⟩ = some (.float .f32 (zs.getD i 0)) := by
  intro i hi
  rcases h.2 with h0 | ⟨b', off', e, _, hc⟩
  · omega
  · simp only [Option.some.injEq, Addr.mk.injEq] at e
    obtain ⟨rfl, rfl, _⟩ := e
    exact hc i hi

set_option maxHeartbeats 4000000 in
set_option maxRecDepth 100000 in
theorem stepUp_any (a : Option Addr) (n c g : Nat) (us : List Nat) (R : QR) (w : World) (h : Holds .f32 w a n us) (hn : n ≤ 1048576) (hR : stepUpR us (cls .f32 g) = R) :
    Calls Try.prog 46 #[.slice a n c, .float .f32 g] w fun e w' => ∃ v, e = .returned (.tuple #[v, .bool R.ok]) ∧ PredIs w' w.heap.size R v ∧ Ext w w' := by
  have H1 := hid h
  have HN := hid hn
  have HL := hid h.1
  have HR := hid hR
  clear h hn hR
  cases hA : ladderC (us.map (cls .f32))
  · have e : R = zeroQ := by rw [← HR.out]; unfold stepUpR; rw [hA]; rfl
    subst e
    go_enter Try.func46, Try.ntmps46
    go_wp2_with (first | (go_at_call 82; with_reducible refine (isLadder_drew a n c us _ _ (Holds.ext H1.out (by (repeat with_reducible (first | exact Ext.refl _ | exact ext_alloc _ _ | refine Ext.drewN ?_ _ | refine Ext.drew1 ?_ | refine Ext.set ?_ (by dsimp only; omega) _ | refine Ext.alloc ?_ _)))) HN.out hA).mono ?_; rintro e w' ⟨rfl, m1, rfl⟩))
    go_returns
    refine ⟨_, rfl, zeroQ_is _ _, ?_⟩
    (repeat with_reducible (first | exact Ext.refl _ | exact ext_alloc _ _ | refine Ext.drewN ?_ _ | refine Ext.drew1 ?_ | refine Ext.set ?_ (by dsimp only; omega) _ | refine Ext.alloc ?_ _))
  have HQ := hid (show giveQ (upsC us n) (cls .f32 g) = R from by rw [← HR.out]; unfold stepUpR; rw [hA, HL.out]; rfl)
  have HP := hid (ladder_len hA)
  have H16 := hid (show n ≤ 16 from by have := HP.out.2; simp at this; have := HL.out; omega)
  have H01 := hid (show 1 ≤ n from by have := HP.out.1; simp at this; have := HL.out; omega)
  clear HR HP
  go_enter Try.func46, Try.ntmps46
  go_wp2_with (first | (go_at_call 82; with_reducible refine (isLadder_drew a n c us _ _ (Holds.ext H1.out (by (repeat with_reducible (first | exact Ext.refl _ | exact ext_alloc _ _ | refine Ext.drewN ?_ _ | refine Ext.drew1 ?_ | refine Ext.set ?_ (by dsimp only; omega) _ | refine Ext.alloc ?_ _)))) HN.out hA).mono ?_; rintro e w' ⟨rfl, m1, rfl⟩))
  obtain ⟨w0, hw0⟩ : ∃ u, u = ((w.alloc (.cells #[.slice none 0 0, .float .f32 0] 28)).drewN m1).alloc (.cells #[.float .f32 0, .float .f32 0, .float .f32 0, .float .f32 0, .float .f32 0, .float .f32 0, .float .f32 0, .float .f32 0, .float .f32 0, .float .f32 0, .float .f32 0, .float .f32 0, .float .f32 0, .float .f32 0, .float .f32 0, .float .f32 0] 83) := ⟨_, rfl⟩
  have EX := hid (show Ext w w0 from by rw [hw0]; (repeat with_reducible (first | exact Ext.refl _ | exact ext_alloc _ _ | refine Ext.drewN ?_ _ | refine Ext.drew1 ?_ | refine Ext.set ?_ (by dsimp only; omega) _ | refine Ext.alloc ?_ _)))
  have B4 : Hid (Box w0 w.heap.size #[.slice none 0 0, .float .f32 0]) := by rw [hw0]; exact hid (Box.alloc (Box.drewN (box_new (w := w) #[.slice none 0 0, .float .f32 0] 28) _) _)
  have A6 : Hid (Arr w0 (w.heap.size + 1) zeros16) := by rw [hw0, ← zeros_row]; exact hid (arr_cast (arr_new (w := (w.alloc (.cells #[.slice none 0 0, .float .f32 0] 28)).drewN m1) 83 rfl) (by simp))
  have HZ := hid (show w0.heap.size = w.heap.size + 2 from by rw [hw0]; simp)
  go_loopw [15] (fun v wr => ∃ (k : Nat) (zs : List Nat), k ≤ n ∧ v = .int .i64 k ∧ Hid (Arr wr (w.heap.size + 1) zs) ∧ Hid ((zs.take k).map (cls .f32) = upsC us k) ∧ Hid (But (some (w.heap.size + 1)) w0 wr)) (fun v _ => n - (intOf v).toNat)
  case atStart =>
    have h9 := A6.out
    have hb := But.refl (some (w.heap.size + 1)) w0
    rw [hw0] at h9 hb ⊢
    exact ⟨0, zeros16, Nat.zero_le _, rfl, hid h9, hid rfl, hid hb⟩
  case round =>
    clear hw0
    obtain ⟨k, zs, hk, rfl, ha, hz, hb⟩ := hrel
    have hn2 : n ≤ 16 := H16.out
    have EW := hid (show Ext w wr from But.below hb.out EX.out (fun q hq => by cases hq; omega))
    by_cases hlt : k < n
    · have hi0 : (0 : Int) ≤ (k : Int) := by omega
      have hi1 : (k : Int) < (n : Int) := by omega
      obtain ⟨b, off, rfl, e1⟩ := cell_at H1.out EW.out k hlt
      have HUP : Hid (upsC us (k + 1) = upC (upsC us k) (cls .f32 (us.getD k 0))) := rfl
      generalize us.getD k 0 = x at e1 HUP
      go_wp2_with (first | (refine wpList_loadA rfl rfl rfl Try.underlying83 infoA (ha.out) ?_))
      refine (withRung_any zs k x _ ha.out.2 (by omega)).mono ?_
      rintro e w1 ⟨ys, rfl, hyl, hyc, E1⟩
      have HYL := hid hyl
      have HYC := hid hyc
      have ha1 := hid (Arr.ext ha.out E1)
      have hb1 := hid (But.trans hb.out (Ext.but E1 _))
      clear hyl hyc E1
      go_wp2_with (first | (refine wpList_storeA rfl rfl rfl rfl infoA (ha1.out) (HYL.out) ?_; intro w2 A2 hb2))
      have ha2 := hid A2
      have hb3 := hid (But.trans hb1.out hb2)
      clear A2 hb2
      go_wp2
      go_roundw
      case rel => exact ⟨k + 1, ys, by omega, by go_num, ha2, hid (by rw [HYC.out, hz.out, HUP.out]), hb3⟩
      case measure => simp [intOf]; omega
    · have hkn : k = n := by omega
      subst hkn
      have hi0 : (0 : Int) ≤ (k : Int) := by omega
      have hi2 : (k : Int) ≤ 16 := by omega
      go_wp2_with fail
      refine (clone_any (some ⟨w.heap.size + 1, 0, none⟩) k 16 (zs.take k) _ (Arr.holds ha.out (by omega)) H01.out HN.out).mono ?_
      rintro e w1 ⟨b, c', rfl, O1, E1⟩
      have hO := hid O1
      have hB4 := hid (Box.ext (But.box hb.out B4.out (by simp)) E1)
      have hE := hid (Ext.trans EW.out E1)
      have hS := hid (Ext.size EW.out)
      clear O1 E1
      go_wp2_with fail
      refine (validPOnly_is _ k c' g wr.heap.size (zs.take k) R _ hO.out HN.out (by rw [hz.out]; exact HQ.out)).mono ?_
      rintro e w9 ⟨v, rfl, ⟨ra, rc, rg, rz, rfl, rO, re, rg2⟩, E9⟩
      have HX := hid (Box.ext hB4.out E9)
      obtain ⟨y0, y1, yf0, yf1, yl⟩ := Box.all2 HX.out
      have H9 := hid rO
      have H8 := hid (And.intro re rg2)
      have HE := hid (Ext.trans hE.out E9)
      have HW2 := hid (show w.heap.size < wr.heap.size from by have := Arr.lt ha.out; omega)
      clear rO re rg2 E9
      go_wp2_with fail
      clear y0 y1 yf0 yf1 yl
      refine bodyPost_ret (ret_cell2 Try.results46 rfl (box_set2 HX.out _ _) Try.underlying28 infoP) rfl ?_
      have hz := HW2.out
      exact ⟨_, rfl, ⟨ra, rc, rg, rz, rfl, Own.base (own_far2 H9.out (by omega) _ _) (by omega), H8.out.1, H8.out.2⟩, ext_set2 HE.out (by omega) _ _⟩

set_option maxHeartbeats 4000000 in
set_option maxRecDepth 100000 in
theorem sStepUp_any (a : Option Addr) (n c g : Nat) (us : List Nat) (R : QR) (w : World) (h : Holds .f32 w a n us) (hn : n ≤ 1048576) (hR : stepUpR us (cls .f32 g) = R) :
    Calls Try.prog 45 #[.slice a n c, .float .f32 g] w fun e w' => ∃ v, e = .returned (.tuple #[v, .bool R.ok]) ∧ PredIs w' w.heap.size R v ∧ Ext w w' := by
  have H1 := hid h
  have HN := hid hn
  have HL := hid h.1
  have HR := hid hR
  clear h hn hR
  cases hA : ladderC (us.map (cls .f32))
  · have e : R = zeroQ := by rw [← HR.out]; unfold stepUpR; rw [hA]; rfl
    subst e
    go_enter Try.func45, Try.ntmps45
    go_wp2_with (first | (go_at_call 80; with_reducible refine (l04Ladder_drew a n c us _ _ (Holds.ext H1.out (by (repeat with_reducible (first | exact Ext.refl _ | exact ext_alloc _ _ | refine Ext.drewN ?_ _ | refine Ext.drew1 ?_ | refine Ext.set ?_ (by dsimp only; omega) _ | refine Ext.alloc ?_ _)))) HN.out hA).mono ?_; rintro e w' ⟨rfl, m1, rfl⟩))
    go_returns
    refine ⟨_, rfl, zeroQ_is _ _, ?_⟩
    (repeat with_reducible (first | exact Ext.refl _ | exact ext_alloc _ _ | refine Ext.drewN ?_ _ | refine Ext.drew1 ?_ | refine Ext.set ?_ (by dsimp only; omega) _ | refine Ext.alloc ?_ _))
  have HQ := hid (show giveQ (upsC us n) (cls .f32 g) = R from by rw [← HR.out]; unfold stepUpR; rw [hA, HL.out]; rfl)
  have HP := hid (ladder_len hA)
  have H16 := hid (show n ≤ 16 from by have := HP.out.2; simp at this; have := HL.out; omega)
  have H01 := hid (show 1 ≤ n from by have := HP.out.1; simp at this; have := HL.out; omega)
  clear HR HP
  obtain ⟨i0, hif, hz0, hz1, hz2⟩ := info_parts infoF
  have HI := hid (And.intro hif (And.intro hz0 (And.intro hz1 hz2)))
  clear hif hz0 hz1 hz2
  go_enter Try.func45, Try.ntmps45
  go_wp2_with (first | (go_at_call 80; with_reducible refine (l04Ladder_drew a n c us _ _ (Holds.ext H1.out (by (repeat with_reducible (first | exact Ext.refl _ | exact ext_alloc _ _ | refine Ext.drewN ?_ _ | refine Ext.drew1 ?_ | refine Ext.set ?_ (by dsimp only; omega) _ | refine Ext.alloc ?_ _)))) HN.out hA).mono ?_; rintro e w' ⟨rfl, m1, rfl⟩))
  obtain ⟨w0, hw0⟩ : ∃ u, u = (w.alloc (.cells #[.slice none 0 0, .float .f32 0] 28)).drewN m1 := ⟨_, rfl⟩
  have EX := hid (show Ext w w0 from by rw [hw0]; (repeat with_reducible (first | exact Ext.refl _ | exact ext_alloc _ _ | refine Ext.drewN ?_ _ | refine Ext.drew1 ?_ | refine Ext.set ?_ (by dsimp only; omega) _ | refine Ext.alloc ?_ _)))
  have B4 : Hid (Box w0 w.heap.size #[.slice none 0 0, .float .f32 0]) := by rw [hw0]; exact hid (Box.drewN (box_new (w := w) #[.slice none 0 0, .float .f32 0] 28) _)
  have HZ := hid (show w0.heap.size = w.heap.size + 1 from by rw [hw0]; simp)
  go_loopw [6, 7] (fun v i wr => ∃ (k : Nat) (zs : List Nat), k ≤ n ∧ i = .int .i64 k ∧ Hid (Own wr w0.heap.size k v zs) ∧ Hid (zs.map (cls .f32) = upsC us k) ∧ Hid (Ext w0 wr)) (fun _ i _ => n - (intOf i).toNat)
  case atStart =>
    rw [hw0]
    exact ⟨0, [], Nat.zero_le _, rfl, hid (own_fresh (cs := #[]) (zs := []) (hid rfl) rfl (by simp) (by simp) (Nat.zero_le _)), hid rfl, hid (by (repeat with_reducible (first | exact Ext.refl _ | exact ext_alloc _ _ | refine Ext.drewN ?_ _ | refine Ext.drew1 ?_ | refine Ext.set ?_ (by dsimp only; omega) _ | refine Ext.alloc ?_ _)))⟩
  case round =>
    clear hw0
    obtain ⟨k, zs, hk, rfl, ho, hz, he⟩ := hrel
    have hn2 : n ≤ 16 := H16.out
    have EW := hid (Ext.trans EX.out he.out)
    by_cases hlt : k < n
    · have hi0 : (0 : Int) ≤ (k : Int) := by omega
      have hi1 : (k : Int) < (n : Int) := by omega
      obtain ⟨b, off, rfl, e1⟩ := cell_at H1.out EW.out k hlt
      have HUP : Hid (upsC us (k + 1) = upC (upsC us k) (cls .f32 (us.getD k 0))) := rfl
      generalize us.getD k 0 = x at e1 HUP
      have HSZ := hid (Ext.size he.out)
      go_wp2_with fail
      obtain ⟨wo, rfl⟩ : ∃ wo : World, wo = wr := ⟨_, rfl⟩
      go_loopw [9, 10] (fun p q wr => ∃ (j : Nat) (ys : List Nat), j ≤ k ∧ q = .int .i64 j ∧ Hid (Own wr w0.heap.size j p ys) ∧ Hid (∀ b, p.ownBlock = some b → wo.heap.size ≤ b) ∧ Hid (ys.map (cls .f32) = listK (upF (cls .f32 x) (upsC us k)) j) ∧ Hid (Ext wo wr)) (fun _ q _ => k - (intOf q).toNat)
      case atStart => exact ⟨0, [], Nat.zero_le _, rfl, hid (own_fresh (cs := #[]) (zs := []) (hid rfl) rfl (by simp) (by have := HSZ.out; simpa using this) (Nat.zero_le _)), hid (fun b hb => by cases hb; first | exact Nat.le_refl _ | (simp; done)), hid rfl, hid (by (repeat with_reducible (first | exact Ext.refl _ | exact ext_alloc _ _ | refine Ext.drewN ?_ _ | refine Ext.drew1 ?_ | refine Ext.set ?_ (by dsimp only; omega) _ | refine Ext.alloc ?_ _)))⟩
      case round =>
        obtain ⟨j, ys, hj, rfl, ho2, hob, hy, he2⟩ := hrel
        have hoz := hid (Own.ext ho.out he2.out)
        by_cases hlt2 : j < k
        · obtain ⟨v1, v2, rfl, hv1, _, _⟩ := Own.holds hoz.out
          obtain ⟨b2, off2, rfl, e2⟩ := cell_at hv1 (Ext.refl _) j hlt2
          have e3 := hold_cells18 hv1 (k - 1 - j) (by omega)
          have HFJ : Hid (upF (cls .f32 x) (upsC us k) j = fop .sub .f32 (cls .f32 (zs.getD j 0)) (fop .mul .f32 (cls .f32 x) (cls .f32 (zs.getD (k - 1 - j) 0)))) := by
            show _ = _
            have hzl := Own.len ho.out
            unfold upF
            rw [ups_len, ← hz.out]
            have t1 := take_getD (zs := zs) (k := k) (j := j) (by omega) (by omega)
            have t2 := take_getD (zs := zs) (k := k) (j := k - 1 - j) (by omega) (by omega)
            rw [List.take_of_length_le (by omega)] at t1 t2
            rw [t1, t2]
          generalize zs.getD j 0 = u at e2 HFJ
          generalize zs.getD (k - 1 - j) 0 = v at e3 HFJ
          have hi2 : (0 : Int) ≤ (j : Int) := by omega
          have hi3 : (j : Int) < (k : Int) := by omega
          have hi4 : (0 : Int) ≤ ((k - 1 - j : Nat) : Int) := by omega
          have hi5 : ((k - 1 - j : Nat) : Int) < (k : Int) := by omega
          have hi6 : ((k - 1 - j : Nat) : Int).toNat = k - 1 - j := rfl
          have hi7 : (k : Int) - 1 - (j : Int) = ((k - 1 - j : Nat) : Int) := by omega
          have hi8 : k - 1 - j < 16 := by omega
          have hs := hid (listK_succ (upF (cls .f32 x) (upsC us k)) j)
          have HSZ2 := hid (Ext.size he2.out)
          generalize hp : k - 1 - j = p at *
          go_wp2_with fail
          refine wp_region_move_tail 15 (by kernel_rfl) (by kernel_rfl) (by kernel_rfl) (fun _ _ _ h => h) (Or.inl ⟨by rfl, fun w => by simp [execOp]; rfl⟩) ?_
          simp only [List.take_succ_cons, List.take_zero, List.drop_succ_cons, List.drop_zero]
          repeat (with_reducible refine wpM_cons ?_; first
            | (refine wpM_fa rfl rfl rfl rfl rfl (by first | assumption | exact is_self _ _ | exact is_const (by decide)) (by first | assumption | exact is_self _ _ | exact is_const (by decide)) ?_; intro r hr hrw)
            | (refine wpM_mult0 rfl rfl ?_; refine mult_isub ((k : Int) - 1 : Int) rfl rfl rfl (by omega) (by omega) (by omega) ?_; simp only [Act.put, List.setIfInBounds_toArray, List.set_cons_zero, List.set_cons_succ])
            | (refine wpM_mult0 rfl rfl ?_; refine mult_isub ((p : Int) : Int) rfl rfl rfl (by omega) (by omega) (by omega) ?_; simp only [Act.put, List.setIfInBounds_toArray, List.set_cons_zero, List.set_cons_succ])
            | (refine wpM_quiet rfl (fun K hK => ?_); go_simp; refine hK _ ?_; clear hK K))
          with_reducible refine wpM_nil ?_
          intro w5 hw5
          obtain ⟨nq, hw5⟩ := hw5
          subst hw5
          go_wp2_with (first | (at_builtin; refine wpList_append_lies _ rfl _ _ 22 rfl w0.heap.size 23 i0 (.float .f32 0) 1 4 Try.underlying22 HI.out.1 HI.out.2.1 HI.out.2.2.1 HI.out.2.2.2 rfl (by decide) _ _ _ rfl (Own.ext ho2.out (by (repeat with_reducible (first | exact Ext.refl _ | exact ext_alloc _ _ | refine Ext.drewN ?_ _ | refine Ext.drew1 ?_ | refine Ext.set ?_ (by dsimp only; omega) _ | refine Ext.alloc ?_ _)))) ⟨wr.heap.size, 0, none⟩ 1 1 [.float .f32 r] rfl rfl (World.news_of_block (heap_alloc_new _ _)) (by intro u hu; simp at hu; subst hu; rfl) (by omega) (by have h9 := H16.out; unfold maxLen; omega) (by have h9 := H16.out; omega) (by have h8 := HSZ.out; have h7 := HSZ2.out; simp; omega) _ rfl ?_; intro gg cap w1 hown hgrow hat hlt3))
          have h1 := hid (own_snoc hown)
          have h2 := hid (show Ext wo w1 from But.below hgrow (Ext.trans he2.out (by (repeat with_reducible (first | exact Ext.refl _ | exact ext_alloc _ _ | refine Ext.drewN ?_ _ | refine Ext.drew1 ?_ | refine Ext.set ?_ (by dsimp only; omega) _ | refine Ext.alloc ?_ _)))) (fun k2 hk2 => hob.out k2 hk2))
          have h3 := hid (show (ys ++ [r]).map (cls .f32) = listK (upF (cls .f32 x) (upsC us k)) (j + 1) from by rw [List.map_append, hy.out, hs.out, HFJ.out, ← Is.out hr]; rfl)
          have h4 : Hid (∀ b, (Value.slice (some ⟨gg, 0, none⟩) (j + 1) cap).ownBlock = some b → wo.heap.size ≤ b) := by
            intro b hb
            cases hb
            rcases hat with h9 | h9
            · exact hob.out gg h9
            · have := HSZ2.out
              rw [h9]; simp; omega
          clear hown hgrow hat hlt3
          go_wp2
          go_roundw
          case rel => exact ⟨j + 1, ys ++ [r], by omega, by go_num, h1, h4, h3, h2⟩
          case measure => simp [intOf]; omega
        · have hjk : j = k := by omega
          subst hjk
          have HSZ2 := hid (Ext.size he2.out)
          go_wp2_with (first | (at_builtin; refine wpList_append_lies _ rfl _ _ 22 rfl w0.heap.size 23 i0 (.float .f32 0) 1 4 Try.underlying22 HI.out.1 HI.out.2.1 HI.out.2.2.1 HI.out.2.2.2 rfl (by decide) _ _ _ rfl (Own.ext ho2.out (by (repeat with_reducible (first | exact Ext.refl _ | exact ext_alloc _ _ | refine Ext.drewN ?_ _ | refine Ext.drew1 ?_ | refine Ext.set ?_ (by dsimp only; omega) _ | refine Ext.alloc ?_ _)))) ⟨wr.heap.size, 0, none⟩ 1 1 [.float .f32 x] rfl rfl (World.news_of_block (heap_alloc_new _ _)) (by intro u hu; simp at hu; subst hu; rfl) (by omega) (by have h9 := H16.out; unfold maxLen; omega) (by have h9 := H16.out; omega) (by have h8 := HSZ.out; have h7 := HSZ2.out; simp; omega) _ rfl ?_; intro gg cap w1 hown hgrow hat hlt3))
          have h1 := hid (own_snoc hown)
          have h2 := hid (show Ext w0 w1 from But.below hgrow (Ext.trans (Ext.trans he.out he2.out) (by (repeat with_reducible (first | exact Ext.refl _ | exact ext_alloc _ _ | refine Ext.drewN ?_ _ | refine Ext.drew1 ?_ | refine Ext.set ?_ (by dsimp only; omega) _ | refine Ext.alloc ?_ _)))) (fun k2 hk2 => (Own.block ho2.out k2 hk2).1))
          have h3 := hid (show (ys ++ [x]).map (cls .f32) = upsC us (j + 1) from by rw [List.map_append, hy.out, HUP.out]; unfold upC; rw [ups_len]; rfl)
          clear hown hgrow hat hlt3
          obtain ⟨v1, v2, hv0, hv1, _, _⟩ := Own.holds h1.out
          have HV1 := hid (own_hold h1.out)
          clear hv0 hv1
          cases hF : finsC ((ys ++ [x]).map (cls .f32))
          · have e : R = zeroQ := by
              rw [← HQ.out]
              have h9 := ups_bad us (show finsC (upsC us (j + 1)) = false from by rw [← h3.out]; exact hF) (n - (j + 1))
              rw [show j + 1 + (n - (j + 1)) = n from by omega] at h9
              unfold giveQ predC
              rw [h9]
              simp
            subst e
            go_wp2_with fail
            refine (l02Finite_drew _ _ _ (ys ++ [x]) _ _ HV1.out (by omega) hF).mono ?_
            rintro e w5 ⟨rfl, m5, rfl⟩
            have HX := hid (Box.drewN (Box.ext B4.out h2.out) m5)
            obtain ⟨y0, y1, yf0, yf1, yl⟩ := Box.all2 HX.out
            go_wp2_with fail
            clear y0 y1 yf0 yf1 yl
            refine bodyPost_ret (ret_cell2 Try.results45 rfl (box_set2 HX.out _ _) Try.underlying28 infoP) rfl ?_
            exact ⟨_, rfl, zeroQ_is _ _, ext_set2 (Ext.trans EX.out (Ext.drewN h2.out _)) (Nat.le_refl _) _ _⟩
          · go_wp2_with fail
            refine (l02Finite_drew _ _ _ (ys ++ [x]) _ _ HV1.out (by omega) hF).mono ?_
            rintro e w5 ⟨rfl, m5, rfl⟩
            go_wp2_with fail
            go_roundw
            case rel => exact ⟨j + 1, ys ++ [x], by omega, by go_num, hid (Own.drewN h1.out _), h3, hid (Ext.drewN h2.out _)⟩
            case measure => simp [intOf]; omega
    · have hkn : k = n := by omega
      subst hkn
      obtain ⟨v1, v2, rfl, hv1, _, _⟩ := Own.holds ho.out
      clear hv1
      go_wp2_with fail
      refine (l04Give_is _ k v2 g w0.heap.size zs R _ ho.out HN.out (by rw [hz.out]; exact HQ.out)).mono ?_
      rintro e w9 ⟨v, rfl, ⟨ra, rc, rg, rz, rfl, rO, re, rg2⟩, E9⟩
      have HX := hid (Box.ext B4.out (Ext.trans he.out E9))
      obtain ⟨y0, y1, yf0, yf1, yl⟩ := Box.all2 HX.out
      have H9 := hid rO
      have H8 := hid (And.intro re rg2)
      have HE := hid (Ext.trans EW.out E9)
      clear rO re rg2 E9
      go_wp2_with fail
      clear y0 y1 yf0 yf1 yl
      refine bodyPost_ret (ret_cell2 Try.results45 rfl (box_set2 HX.out _ _) Try.underlying28 infoP) rfl ?_
      have hz := HZ.out
      exact ⟨_, rfl, ⟨ra, rc, rg, rz, rfl, Own.base (own_far2 H9.out (by omega) _ _) (by omega), H8.out.1, H8.out.2⟩, ext_set2 HE.out (by omega) _ _⟩

end Go.Proofs.Ytofhemganefhcaa
