/- Even tubes. -/
import Derived.Test.YtnmigjiaeahekaaT10
import Derived.Test.YtnmigjiaeahekaaT19
import Derived.Laws.CopyOwn
import Derived.Deep.DeepCutAuto
import Derived.Deep.RegionLaw
namespace Go.Proofs.Ytnmigjiaeahekaa
open Go.RowKit Flt
set_option linter.unusedVariables false

def evenT (N : Int) (X : Option Nat) : TR := if 1 ≤ N ∧ N ≤ 16 then plainT (List.replicate N.toNat X) else zeroT
theorem even_len (N : Int) (X : Option Nat) : (evenT N X).cs.length ≤ 16 := by
  unfold evenT
  split
  · unfold plainT; exact give_len _ _ _ _
  · exact Nat.zero_le _
set_option maxHeartbeats 1000000 in
theorem mul64_one (N : Nat) (h1 : 1 ≤ N) (h2 : N ≤ 16) (w : World) : Calls Try.prog 127 #[.int .u64 (1 : Int), .int .u64 (N : Int)] w fun e w' => e = .returned (.tuple #[.int .u64 0, .int .u64 (N : Int)]) ∧ w = w' := by
  rcases (by omega : N = 1 ∨ N = 2 ∨ N = 3 ∨ N = 4 ∨ N = 5 ∨ N = 6 ∨ N = 7 ∨ N = 8 ∨ N = 9 ∨ N = 10 ∨ N = 11 ∨ N = 12 ∨ N = 13 ∨ N = 14 ∨ N = 15 ∨ N = 16) with rfl | rfl | rfl | rfl | rfl | rfl | rfl | rfl | rfl | rfl | rfl | rfl | rfl | rfl | rfl | rfl
  all_goals
    clear h1 h2
    go_enter Try.func127, Try.ntmps127
    go_wp2
    go_ret2
    exact ⟨rfl, rfl⟩
theorem mul_one_any (N : Nat) (h1 : 1 ≤ N) (h2 : N ≤ 16) (w : World) : Calls Try.prog 105 #[.int .u64 (1 : Int), .int .u64 (N : Int)] w fun e w' => e = .returned (.tuple #[.int .u64 0, .int .u64 (N : Int)]) ∧ w = w' := by
  have H1 := hid h1
  have H2 := hid h2
  clear h1 h2
  go_enter Try.func105, Try.ntmps105
  go_wp2_with (go_at_call 127; refine (mul64_one _ H1.out H2.out _).mono ?_; rintro e w' ⟨rfl, rfl⟩)
  go_ret2
  exact ⟨rfl, rfl⟩
theorem splice_rep {N k m x : Nat} (h : k + m ≤ N) : splice ((List.replicate k (Value.float .f32 x)) ++ List.replicate (N - k) (Value.float .f32 0)) k (List.replicate m (Value.float .f32 x)) = List.replicate (k + m) (.float .f32 x) ++ List.replicate (N - (k + m)) (.float .f32 0) := by
  unfold splice
  have e1 : (List.replicate k (Value.float .f32 x) ++ List.replicate (N - k) (Value.float .f32 0)).take k = List.replicate k (.float .f32 x) := by
    rw [List.take_append_of_le_length (by simp), List.take_of_length_le (by simp)]
  have e2 : (List.replicate k (Value.float .f32 x) ++ List.replicate (N - k) (Value.float .f32 0)).drop (k + m) = List.replicate (N - (k + m)) (.float .f32 0) := by
    rw [List.drop_append]
    simp
    omega
  simp only [List.length_replicate]
  rw [e1, e2, ← List.append_assoc, List.replicate_append_replicate]
set_option maxHeartbeats 1000000 in
set_option maxRecDepth 100000 in
theorem repeat_any (a : Option Addr) (c x N : Nat) (w : World) (h : Holds .f32 w a 1 [x]) (h1 : 1 ≤ N) (h2 : N ≤ 16) :
    Calls Try.prog 69 #[.slice a 1 c, .int .i64 (N : Int)] w fun e w' => ∃ g, e = .returned (.slice (some ⟨g, 0, none⟩) N N) ∧ Own w' w.heap.size N (.slice (some ⟨g, 0, none⟩) N N) (List.replicate N x) ∧ Ext w w' := by
  obtain ⟨b, off, rfl, hb, hl, hc⟩ := Holds.some_of h (by omega)
  have S1 := hid (show ∀ i, i < 1 → w.cell? ⟨b, off + i, none⟩ = some (.float .f32 ([x].getD i 0)) from hc)
  obtain ⟨i0, hi, hz0, hz1, hz2⟩ := info_parts infoF
  have hmk : ∀ wm : World, (Instr.makeSlice 22 (.int .i64 (N : Int)) (.int .i64 (N : Int))).run Try.prog wm = .ok (.slice (some ⟨wm.heap.size, 0, none⟩) N N) (wm.alloc (.cells (Array.replicate N (Value.float .f32 0)) 23)) := by
    intro wm
    have := run_make (P := Try.prog) wm 22 23 i0 (.float .f32 0) Try.underlying22 hi hz0 .i64 .i64 (N : Int) (N : Int) (by omega) (by omega) (by rw [hz2]; omega) (by omega)
    rw [hz1] at this
    have HMC : madeCells #[Value.float .f32 0] N = Array.replicate N (Value.float .f32 0) := by
      have h7 := toList_madeCells_one (Value.float .f32 0) N
      have h8 := congrArg List.toArray h7
      simpa using h8
    have h0 : (Instr.makeSlice 22 (.int .i64 (N : Int)) (.int .i64 (N : Int))).run Try.prog wm = .ok (.slice (some ⟨wm.heap.size, 0, none⟩) N N) (wm.alloc (.cells (madeCells #[.float .f32 0] N) 23)) := by simpa [Value.cells] using this
    rw [HMC] at h0
    exact h0
  have HG := hid (show (w.alloc (.cells (Array.replicate N (Value.float .f32 0)) 23)).heap[w.heap.size]? = some (.cells (List.replicate N (Value.float .f32 0)).toArray 23 (0, 0)) from by rw [heap_alloc_new]; simp)
  have HMIN := hid (show ([Value.float .f32 x] : List Value).length = Nat.min 1 N from by show 1 = min 1 N; omega)
  have HFIT := hid (show 0 + ([Value.float .f32 x] : List Value).length ≤ (List.replicate N (Value.float .f32 0)).length from by simp; omega)
  have HNEWS := hid (show ∀ j v, ([Value.float .f32 x] : List Value)[j]? = some v → (w.alloc (.cells (Array.replicate N (Value.float .f32 0)) 23)).cell? ((⟨b, off, none⟩ : Addr).add j) = some v from news_ext (zs := [x]) (n := 1) (ext_alloc _ _) hb rfl hc)
  have HSZ : Hid ((Try.prog.info? 23).map (·.size) = some 1) := hid (by rw [hi]; simp [hz1])
  have HB := hid hb
  have H1 := hid h1
  have H2 := hid h2
  have hw1 : IntKind.u64.wrap (N : Int) = (N : Int) := by
    have hb : IntKind.u64.bits = 64 := rfl
    have hs : IntKind.u64.signed = false := rfl
    unfold IntKind.wrap
    simp only [hb, hs, Bool.false_and]
    simp
    omega
  have hw2 : IntKind.i64.wrap (N : Int) = (N : Int) := by
    have hb : IntKind.i64.bits = 64 := rfl
    have hs : IntKind.i64.signed = true := rfl
    have e1 : (2 : Int) ^ 64 = 18446744073709551616 := by decide
    have e2 : (2 : Int) ^ (64 - 1) = 9223372036854775808 := by decide
    unfold IntKind.wrap
    simp only [hb, hs, e1, e2, Bool.true_and, decide_eq_true_eq]
    split <;> omega
  have hz : ¬ ((N : Int) < 0) := by omega
  have hbig : ¬ ((9223372036854775807 : Int) < (N : Int)) := by omega
  clear h hb hl hc hi hz0 hz1 hz2 h1 h2
  go_enter Try.func69, Try.ntmps69
  go_upto_region 7 with (go_at_call 105; refine (mul_one_any _ H1.out H2.out _).mono ?_; rintro e w' ⟨rfl, rfl⟩)
  go_wp2_with (refine wpList_copy_splice rfl _ _ 22 22 rfl 23 Try.underlying22 HSZ.out (some ⟨w.heap.size, 0, none⟩) (some ⟨b, off, none⟩) N N 1 c rfl rfl w.heap.size 0 (List.replicate N (Value.float .f32 0)) 23 HG.out [.float .f32 x] HMIN.out (fun _ => ⟨rfl, ⟨b, off, none⟩, rfl, HNEWS.out⟩) HFIT.out (by intro u hu; simp at hu; subst hu; rfl) w.heap.size w (ext_alloc _ _) (Nat.le_refl _) ?_; intro w3 hg3 hb3)
  have hg4 := hid (show w3.heap[w.heap.size]? = some (.cells (List.replicate 1 (Value.float .f32 x) ++ List.replicate (N - 1) (Value.float .f32 0)).toArray 23 (0, 0)) from by
    have h4 := hg3.out
    have h5 := splice_rep (N := N) (k := 0) (m := 1) (x := x) (by have := H1.out; omega)
    simp only [List.replicate_zero, List.nil_append, Nat.sub_zero, Nat.zero_add] at h5
    rw [← h5]
    exact h4)
  have HB3 := hid (show Ext w w3 from hb3)
  clear hg3 hb3 hmk
  go_wp2_with fail
  go_loopw [8] (fun i wr => ∃ k : Nat, 1 ≤ k ∧ k ≤ N ∧ i = .int .i64 k ∧ Hid (wr.heap[w.heap.size]? = some (.cells (List.replicate k (Value.float .f32 x) ++ List.replicate (N - k) (Value.float .f32 0)).toArray 23 (0, 0))) ∧ Hid (Ext w wr)) (fun i _ => N - (intOf i).toNat)
  case atStart => exact ⟨1, Nat.le_refl _, H1.out, rfl, hg4, HB3⟩
  case round =>
    obtain ⟨k, hk1, hk2, rfl, hg, he⟩ := hrel
    have hN := H2.out
    by_cases hlt : k < N
    · have hi0 : (0 : Int) ≤ (k : Int) := by omega
      have hi1 : (k : Int) < (N : Int) := by omega
      have hi2 : (k : Int) ≤ (N : Int) := by omega
      have hne : ¬ (N = k) := by omega
      obtain ⟨m, hm⟩ : ∃ m, min k (N - k) = m := ⟨_, rfl⟩
      have hm1 : 1 ≤ m := by omega
      have hm2 : m ≤ N - k := by omega
      have hm3 : m ≤ k := by omega
      have HMM := hid (show (List.replicate m (Value.float .f32 x)).length = Nat.min k (N - k) from by rw [List.length_replicate, ← hm])
      have hsrc := hid (show ∀ j v, (List.replicate m (Value.float .f32 x))[j]? = some v → wr.drew.cell? ((⟨w.heap.size, 0, none⟩ : Addr).add j) = some v from fun j v hv => by
        rw [addr_add]
        have hj : j < m := by
          rcases Nat.lt_or_ge j m with h | h
          · exact h
          · rw [List.getElem?_eq_none (by simp; omega)] at hv; cases hv
        have hc := cell_of_row wr w.heap.size (0 + j) _ 23 (0, 0) hg.out
        show wr.cell? ⟨w.heap.size, 0 + j, none⟩ = some v
        rw [hc, ← hv]
        simp [List.getElem?_append, show j < k by omega, hj])
      have hwr := hid (show IntKind.i64.wrap ((k : Int) + (m : Int)) = ((k + m : Nat) : Int) from by
        have hb : IntKind.i64.bits = 64 := rfl
        have hs : IntKind.i64.signed = true := rfl
        have e1 : (2 : Int) ^ 64 = 18446744073709551616 := by decide
        have e2 : (2 : Int) ^ (64 - 1) = 9223372036854775808 := by decide
        unfold IntKind.wrap
        simp only [hb, hs, e1, e2, Bool.true_and, decide_eq_true_eq]
        split <;> omega)
      clear hm
      go_wp2_with fail
      go_region_law (refine step_copy_splice rfl (.tmp 41) (.tmp 44) 22 22 rfl 23 Try.underlying22 HSZ.out (some ⟨w.heap.size, k, none⟩) (some ⟨w.heap.size, 0, none⟩) (N - k) (N - k) k N (by simp [Act.eval, Act.put]) (by simp [Act.eval, Act.put]) w.heap.size k (List.replicate k (Value.float .f32 x) ++ List.replicate (N - k) (Value.float .f32 0)) 23 hg.out (List.replicate m (Value.float .f32 x)) HMM.out (fun _ => ⟨rfl, ⟨w.heap.size, 0, none⟩, rfl, hsrc.out⟩) (by first | (simp; done) | (simp; omega)) (by intro v hv; rw [List.mem_replicate] at hv; rw [hv.2]; rfl) w.heap.size w (Ext.drew1 he.out) (Nat.le_refl _) ?_; intro w5 hg5 hb5)
      have hwr2 := hwr.out
      go_simp
      go_wp2_with fail
      have hg6 := hid (show w5.heap[w.heap.size]? = some (.cells (List.replicate (k + m) (Value.float .f32 x) ++ List.replicate (N - (k + m)) (Value.float .f32 0)).toArray 23 (0, 0)) from by rw [← splice_rep (N := N) (k := k) (m := m) (x := x) (by omega)]; exact hg5.out)
      have he5 := hid (show Ext w w5 from hb5)
      go_roundw
      case rel => first | exact ⟨k + m, by omega, by omega, rfl, hg6, he5⟩ | (refine ⟨_, _, _, _, _, _, _, _, _, _, _, _, ?_, rfl⟩; exact ⟨k + m, by omega, by omega, rfl, hg6, he5⟩) | (refine ⟨_, _, _, _, _, _, _, _, _, _, _, _, _, ?_, rfl⟩; exact ⟨k + m, by omega, by omega, rfl, hg6, he5⟩) | (refine ⟨_, _, _, _, _, _, _, _, _, _, _, _, _, _, ?_, rfl⟩; exact ⟨k + m, by omega, by omega, rfl, hg6, he5⟩) | (refine ⟨_, _, _, _, _, _, _, _, _, _, _, _, _, _, _, ?_, rfl⟩; exact ⟨k + m, by omega, by omega, rfl, hg6, he5⟩) | (refine ⟨_, _, _, _, _, _, _, _, _, _, _, _, _, _, _, _, ?_, rfl⟩; exact ⟨k + m, by omega, by omega, rfl, hg6, he5⟩)
      case measure => simp [intOf]; omega
    · have hkn : k = N := by omega
      subst hkn
      have hO := hid (show Own wr w.heap.size k (.slice (some ⟨w.heap.size, 0, none⟩) k k) (List.replicate k x) from ⟨by simp, .inr ⟨w.heap.size, k, _, rfl, Nat.le_refl _, hg.out, Nat.le_refl _, by unfold maxLen; omega, by simp, by simp⟩⟩)
      have hf : ¬ ((k : Int) < (k : Int)) := by omega
      go_wp2
      go_ret
      exact ⟨_, rfl, hO.out, he.out⟩
set_option maxHeartbeats 1000000 in
set_option maxRecDepth 100000 in
theorem even_any (N0 : Int) (x : Nat) (R : TR) (w : World) (hR : evenT N0 (cls .f32 x) = R) :
    Calls Try.prog 25 #[.int .i64 N0, .float .f32 x] w fun e w' => ∃ v, e = .returned (.tuple #[v, .bool R.ok]) ∧ TubeIs w' w.heap.size R v ∧ Ext w w' := by
  by_cases h1 : N0 < 1
  · have e : evenT N0 (cls .f32 x) = zeroT := by unfold evenT; rw [if_neg (by omega)]
    rw [e] at hR
    subst hR
    go_enter Try.func25, Try.ntmps25
    go_wp2_with fail
    go_returns
    refine ⟨_, rfl, zero_is _ _, ?_⟩
    (repeat with_reducible (first | exact Ext.refl _ | exact ext_alloc _ _ | refine Ext.drewN ?_ _ | refine Ext.drew1 ?_ | refine Ext.set ?_ (by dsimp only; omega) _ | refine Ext.alloc ?_ _))
  by_cases h2 : 16 < N0
  · have e : evenT N0 (cls .f32 x) = zeroT := by unfold evenT; rw [if_neg (by omega)]
    rw [e] at hR
    subst hR
    clear h1
    go_enter Try.func25, Try.ntmps25
    go_wp2_with fail
    go_returns
    refine ⟨_, rfl, zero_is _ _, ?_⟩
    (repeat with_reducible (first | exact Ext.refl _ | exact ext_alloc _ _ | refine Ext.drewN ?_ _ | refine Ext.drew1 ?_ | refine Ext.set ?_ (by dsimp only; omega) _ | refine Ext.alloc ?_ _))
  obtain ⟨N, rfl⟩ : ∃ N : Nat, N0 = (N : Int) := ⟨N0.toNat, by omega⟩
  have hN1 : 1 ≤ N := by omega
  have hN16 : N ≤ 16 := by omega
  have hZ1 : (1 : Int) ≤ (N : Int) := by omega
  have hZ16 : (N : Int) ≤ 16 := by omega
  have e := hR
  unfold evenT at e
  rw [if_pos (by omega)] at e
  simp only [Int.toNat_natCast] at e
  have HE := hid e
  have H1 := hid hN1
  have H2 := hid hN16
  clear hR e
  go_enter Try.func25, Try.ntmps25
  go_wp2_with fail
  refine (repeat_any _ _ x N _ (own_hold (own_fresh (w := w.alloc (.cells #[.slice none 0 0, .float .f32 0, .float .f32 0, .float .f32 0] 27)) (B := 0) (cs := #[.float .f32 x]) (zs := [x]) (hid rfl) rfl (by simp) (Nat.zero_le _) (by unfold maxLen; omega))) H1.out H2.out).mono ?_
  rintro e w1 ⟨g, rfl, O1, E1⟩
  have BR1 := hid (Box.ext (Box.ext (box_new (w := w) #[.slice none 0 0, .float .f32 0, .float .f32 0, .float .f32 0] 27) (by (repeat with_reducible (first | exact Ext.refl _ | exact ext_alloc _ _ | refine Ext.drewN ?_ _ | refine Ext.drew1 ?_ | refine Ext.set ?_ (by dsimp only; omega) _ | refine Ext.alloc ?_ _)))) E1)
  have EX1 := hid (show Ext w w1 from Ext.trans (by (repeat with_reducible (first | exact Ext.refl _ | exact ext_alloc _ _ | refine Ext.drewN ?_ _ | refine Ext.drew1 ?_ | refine Ext.set ?_ (by dsimp only; omega) _ | refine Ext.alloc ?_ _))) E1)
  have HO1 := hid (Own.base O1 (B' := w.heap.size + 1) (by simp))
  clear O1 E1
  go_wp2_with fail
  refine (plainTube_any _ _ _ _ (List.replicate N x) R _ HO1.out (by have := H2.out; omega) (by rw [List.map_replicate]; exact HE.out)).mono ?_
  rintro e3 w3 ⟨v, rfl, hT, E3⟩
  have EE3 := hid (Ext.trans EX1.out E3)
  have HX := hid (Box.ext BR1.out E3)
  obtain ⟨ra, rc, rl, rt, rp, rz, rfl, rO, re⟩ := hT
  have HT := hid (show TubeIs w3 (w.heap.size + 1) R (.agg #[.slice ra R.cs.length rc, .float .f32 rl, .float .f32 rt, .float .f32 rp]) from ⟨ra, rc, rl, rt, rp, rz, rfl, rO, re⟩)
  clear rO re
  obtain ⟨y0, y1, y2, y3, yf0, yf1, yf2, yf3, yl⟩ := Box.all4 HX.out
  go_wp2_with fail
  clear y0 y1 y2 y3 yf0 yf1 yf2 yf3 yl
  refine bodyPost_ret (ret_cell2 Try.results25 rfl (box_set4 HX.out _ _ _ _) Try.underlying27 infoT) rfl ?_
  exact ⟨_, rfl, TubeIs.base (TubeIs.far4 HT.out (by omega) _ _ _ _) (by omega), ext_set4 EE3.out (Nat.le_refl _) _ _ _ _⟩
theorem own_snoc25 {w : World} {B k : Nat} {v : Value} {ys : List Nat} {r : Nat} (h : w.ownsRow B 23 1 v (k + 1) (ys.map (Value.float .f32) ++ [.float .f32 r])) : Own w B (k + 1) v (ys ++ [r]) := by
  unfold Own; simpa using h
set_option maxHeartbeats 1000000 in
set_option maxRecDepth 100000 in
theorem l02Even_any (x N : Nat) (w : World) (h1 : 1 ≤ N) (h2 : N ≤ 16) :
    Calls Try.prog 67 #[.int .i64 (N : Int), .float .f32 x] w fun e w' => ∃ a c, e = .returned (.agg #[.slice a N c, .float .f32 1065353216, .float .f32 1061158912, .float .f32 3210739712]) ∧ Own w' w.heap.size N (.slice a N c) (List.replicate N x) ∧ Ext w w' := by
  obtain ⟨i0, hi, hz0, hz1, hz2⟩ := info_parts infoF
  have HI := hid (And.intro hi (And.intro hz0 (And.intro hz1 hz2)))
  have H1 := hid h1
  have H2 := hid h2
  clear hi hz0 hz1 hz2 h1 h2
  go_enter Try.func67, Try.ntmps67
  go_wp2
  go_loopw [5, 6] (fun v i wr => ∃ (k : Nat), k ≤ N ∧ i = .int .i64 k ∧ Hid (Own wr (w.heap.size + 1) k v (List.replicate k x)) ∧ Hid (Box wr w.heap.size #[.slice none 0 0, .float .f32 0, .float .f32 0, .float .f32 0]) ∧ Hid (Ext w wr)) (fun _ i _ => N - (intOf i).toNat)
  case atStart => exact ⟨0, Nat.zero_le _, rfl, hid (own_fresh (cs := #[]) (zs := []) (hid rfl) rfl (by simp) (by simp) (Nat.zero_le _)), hid (Box.ext (box_new _ _) (by (repeat with_reducible (first | exact Ext.refl _ | exact ext_alloc _ _ | refine Ext.drewN ?_ _ | refine Ext.drew1 ?_ | refine Ext.set ?_ (by dsimp only; omega) _ | refine Ext.alloc ?_ _)))), hid (by (repeat with_reducible (first | exact Ext.refl _ | exact ext_alloc _ _ | refine Ext.drewN ?_ _ | refine Ext.drew1 ?_ | refine Ext.set ?_ (by dsimp only; omega) _ | refine Ext.alloc ?_ _)))⟩
  case round =>
    obtain ⟨k, hk, rfl, ho, hb, he⟩ := hrel
    have hN := H2.out
    have hsz := hid (show w.heap.size + 1 ≤ wr.heap.size from Box.lt hb.out)
    by_cases hlt : k < N
    · have hi0 : (0 : Int) ≤ (k : Int) := by omega
      have hi1 : (k : Int) < (N : Int) := by omega
      go_wp2_with (at_builtin; refine wpList_append_lies _ rfl _ _ 22 rfl (w.heap.size + 1) 23 i0 (.float .f32 0) 1 4 Try.underlying22 HI.out.1 HI.out.2.1 HI.out.2.2.1 HI.out.2.2.2 rfl (by decide) _ _ _ rfl (Own.alloc ho.out _) ⟨wr.heap.size, 0, none⟩ 1 1 [.float .f32 x] rfl rfl (World.news_of_block (heap_alloc_new _ _)) (by intro u hu; simp at hu; subst hu; rfl) (by omega) (by unfold maxLen; omega) (by omega) (by have := hsz.out; simp; omega) _ rfl ?_; intro g cap w3 hown hgrow hat hlt2)
      have g1 := hid (own_snoc25 hown)
      have g2 := hid (show Ext w w3 from But.below hgrow (Ext.alloc he.out _) (fun k2 hk2 => by have := (Own.block ho.out k2 hk2).1; omega))
      have g4 := hid (But.box hgrow (Box.alloc hb.out _) (fun hk2 => by have := (Own.block ho.out _ hk2).1; omega))
      clear hown hgrow hat hlt2
      go_wp2
      go_roundw
      case rel => exact ⟨k + 1, by omega, by go_num, hid (by rw [List.replicate_succ']; exact g1.out), g4, g2⟩
      case measure => simp [intOf]; omega
    · have hkn : k = N := by omega
      subst hkn
      obtain ⟨va, vc, rfl, _, _⟩ := Own.holds ho.out
      go_wp2_with fail
      refine (l02New_any _ _ _ _).mono ?_
      rintro e w2 ⟨rfl, E2⟩
      have HO2 := hid (Own.ext ho.out E2)
      have HX := hid (Box.ext hb.out E2)
      have EE2 := hid (Ext.trans he.out E2)
      clear E2
      obtain ⟨y0, y1, y2, y3, yf0, yf1, yf2, yf3, yl⟩ := Box.all4 HX.out
      go_wp2_with fail
      clear y0 y1 y2 y3 yf0 yf1 yf2 yf3 yl
      refine bodyPost_ret (ret_cell1 Try.results67 rfl (box_set4 HX.out _ _ _ _) Try.underlying27 infoT) rfl ?_
      have hf : (Value.slice va k vc).ownBlock ≠ some w.heap.size := fun hk2 => by have := (Own.block HO2.out _ hk2).1; omega
      exact ⟨va, vc, rfl, Own.base (Own.far (Own.far (Own.far (Own.far HO2.out hf _) hf _) hf _) hf _) (by omega), ext_set4 EE2.out (Nat.le_refl _) _ _ _ _⟩
set_option maxHeartbeats 1000000 in
set_option maxRecDepth 100000 in
theorem sEven_any (N0 : Int) (x : Nat) (R : TR) (w : World) (hR : evenT N0 (cls .f32 x) = R) :
    Calls Try.prog 24 #[.int .i64 N0, .float .f32 x] w fun e w' => ∃ v, e = .returned (.tuple #[v, .bool R.ok]) ∧ TubeIs w' w.heap.size R v ∧ Ext w w' := by
  by_cases h1 : N0 < 1
  · have e : evenT N0 (cls .f32 x) = zeroT := by unfold evenT; rw [if_neg (by omega)]
    rw [e] at hR
    subst hR
    go_enter Try.func24, Try.ntmps24
    go_wp2_with (go_at_call 66; refine (l00In_no _ _ _ (by omega) _).mono ?_; rintro e w' ⟨rfl, rfl⟩)
    go_returns
    refine ⟨_, rfl, zero_is _ _, ?_⟩
    (repeat with_reducible (first | exact Ext.refl _ | exact ext_alloc _ _ | refine Ext.drewN ?_ _ | refine Ext.drew1 ?_ | refine Ext.set ?_ (by dsimp only; omega) _ | refine Ext.alloc ?_ _))
  by_cases h2 : 16 < N0
  · have e : evenT N0 (cls .f32 x) = zeroT := by unfold evenT; rw [if_neg (by omega)]
    rw [e] at hR
    subst hR
    clear h1
    go_enter Try.func24, Try.ntmps24
    go_wp2_with (go_at_call 66; refine (l00In_no _ _ _ (by omega) _).mono ?_; rintro e w' ⟨rfl, rfl⟩)
    go_returns
    refine ⟨_, rfl, zero_is _ _, ?_⟩
    (repeat with_reducible (first | exact Ext.refl _ | exact ext_alloc _ _ | refine Ext.drewN ?_ _ | refine Ext.drew1 ?_ | refine Ext.set ?_ (by dsimp only; omega) _ | refine Ext.alloc ?_ _))
  obtain ⟨N, rfl⟩ : ∃ N : Nat, N0 = (N : Int) := ⟨N0.toNat, by omega⟩
  have hN1 : 1 ≤ N := by omega
  have hN16 : N ≤ 16 := by omega
  have hZ1 : (1 : Int) ≤ (N : Int) := by omega
  have hZ16 : (N : Int) ≤ 16 := by omega
  have e := hR
  unfold evenT at e
  rw [if_pos (by omega)] at e
  simp only [Int.toNat_natCast] at e
  have HE := hid e
  have H1 := hid hN1
  have H2 := hid hN16
  clear hR e
  go_enter Try.func24, Try.ntmps24
  go_wp2_with (go_at_call 66; refine (l00In_yes _ _ _ (by omega) (by omega) _).mono ?_; rintro e w' ⟨rfl, rfl⟩)
  refine (l02Even_any x N _ H1.out H2.out).mono ?_
  rintro e w1 ⟨ga, gc, rfl, O1, E1⟩
  have BR1 := hid (Box.ext (box_new (w := w) #[.slice none 0 0, .float .f32 0, .float .f32 0, .float .f32 0] 27) E1)
  have EX1 := hid (show Ext w w1 from Ext.trans (by (repeat with_reducible (first | exact Ext.refl _ | exact ext_alloc _ _ | refine Ext.drewN ?_ _ | refine Ext.drew1 ?_ | refine Ext.set ?_ (by dsimp only; omega) _ | refine Ext.alloc ?_ _))) E1)
  have HO1 := hid (Own.base O1 (B' := w.heap.size + 1) (by simp))
  clear O1 E1
  go_wp2_with fail
  refine (l02Give_any _ _ _ _ _ _ _ (List.replicate N x) _ HO1.out (by have := H2.out; omega)).mono ?_
  rintro e3 w3 ⟨v, rfl, hT, E3⟩
  have hpl := hid (show giveT ((List.replicate N x).map (cls .f32)) (cls .f32 1065353216) (cls .f32 1061158912) (cls .f32 3210739712) = R from by rw [List.map_replicate]; exact HE.out)
  rw [hpl.out] at hT ⊢
  have EE3 := hid (Ext.trans EX1.out E3)
  have HX := hid (Box.ext BR1.out E3)
  obtain ⟨ra, rc, rl, rt, rp, rz, rfl, rO, re⟩ := hT
  have HT := hid (show TubeIs w3 (w.heap.size + 1) R (.agg #[.slice ra R.cs.length rc, .float .f32 rl, .float .f32 rt, .float .f32 rp]) from ⟨ra, rc, rl, rt, rp, rz, rfl, rO, re⟩)
  clear rO re
  obtain ⟨y0, y1, y2, y3, yf0, yf1, yf2, yf3, yl⟩ := Box.all4 HX.out
  go_wp2_with fail
  clear y0 y1 y2 y3 yf0 yf1 yf2 yf3 yl
  refine bodyPost_ret (ret_cell2 Try.results24 rfl (box_set4 HX.out _ _ _ _) Try.underlying27 infoT) rfl ?_
  exact ⟨_, rfl, TubeIs.base (TubeIs.far4 HT.out (by omega) _ _ _ _) (by omega), ext_set4 EE3.out (Nat.le_refl _) _ _ _ _⟩
end Go.Proofs.Ytnmigjiaeahekaa
