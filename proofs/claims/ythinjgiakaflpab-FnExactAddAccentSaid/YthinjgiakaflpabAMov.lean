/- Accents are marked, and held. -/
import Derived.Test.YthinjgiakaflpabA8
import Derived.Test.YthinjgiakaflpabA3
import Derived.Deep.Upon
import Derived.Test.YthinjgiakaflpabFinOp
namespace Go.Proofs.Ythinjgiakaflpab
open Go.RowKit Flt
set_option linter.unusedVariables false



theorem set3_take {ys : List Nat} {j u0 u1 u2 : Nat} (h : j * 3 + 2 < ys.length) : (((ys.set (j * 3) u0).set (j * 3 + 1) u1).set (j * 3 + 2) u2).take ((j + 1) * 3) = ys.take (j * 3) ++ [u0, u1, u2] := by
  have e : (j + 1) * 3 = j * 3 + 2 + 1 := by omega
  rw [e, take_set_snoc _ _ _ (by simpa using h), take_set_snoc _ _ _ (by simp; omega), take_set_snoc _ _ _ (by omega)]
  simp
theorem marks3 (k j : Nat) : marks k ((j + 1) * 3) = marks k (j * 3) ++ [floatOfInt .f32 ((k + j * 3 : Nat) : Int), floatOfInt .f32 ((k + j * 3 + 1 : Nat) : Int), floatOfInt .f32 ((k + j * 3 + 2 : Nat) : Int)] := by
  have e : (j + 1) * 3 = j * 3 + 1 + 1 + 1 := by omega
  rw [e, marks_succ, marks_succ, marks_succ]
  simp [Nat.add_assoc]
set_option maxHeartbeats 2000000 in
theorem markAk_any (a : Option Addr) (n c k B : Nat) (zs : List Nat) (w : World) (h : OwnA w B n (.slice a n c) zs) (hn : n ≤ 1048576) (hk : k ≤ 1099511627776) :
    Calls Try.prog 82 #[.slice a n c, .int .i64 k] w fun e w' => e = .returned (.int .i64 ((k + 3 * n : Nat) : Int)) ∧ OwnA w' B n (.slice a n c) (marks k (n * 3)) ∧ But (Value.slice a n c).ownBlock w w' := by
  have hl : zs.length = n * 3 := by simpa using h.1
  rcases id h.2 with ⟨hv, h0⟩ | ⟨g, cap, cur, hv, hb, hg, hnc, hm, hs, ht⟩
  · simp only [Value.slice.injEq] at hv
    obtain ⟨rfl, _, rfl⟩ := hv
    subst h0
    clear h hl
    go_enter Try.func82, Try.ntmps82
    go_wp2
    refine wp_loop_rounds 1 ?_
    rw [rounds_succ]
    go_wp2
    go_ret
    exact ⟨by simp, World.ownsRow_nil _ _ _ _, But.refl _ _⟩
  · simp only [Value.slice.injEq] at hv
    obtain ⟨rfl, _, rfl⟩ := hv
    clear hb hg hs ht
    have HH := hid h
    have HL := hid hl
    clear h hl
    go_enter Try.func82, Try.ntmps82
    go_wp2
    go_loopw [1, 5] (fun q i wr => ∃ (j : Nat) (ys : List Nat), j ≤ n ∧ i = .int .i64 j ∧ q = .int .i64 ((k + 3 * j : Nat) : Int) ∧ Hid (OwnA wr B n (.slice (some ⟨g, 0, none⟩) n c) ys) ∧ Hid (ys.take (j * 3) = marks k (j * 3)) ∧ Hid (But (some g) w wr)) (fun _ i _ => n - (intOf i).toNat)
    case atStart => exact ⟨0, zs, Nat.zero_le _, rfl, by simp, HH.out, rfl, But.refl _ _⟩
    case round =>
      obtain ⟨j, ys, hj, rfl, rfl, ho, hp, hbut⟩ := hrel
      have HYL := hid (show ys.length = n * 3 from by simpa using ho.out.1)
      by_cases hlt : j < n
      · obtain ⟨c0, f0⟩ := OwnA.cellAt ho.out (j * 3) (by omega)
        obtain ⟨c1, f1⟩ := OwnA.cellAt ho.out (j * 3 + 1) (by omega)
        obtain ⟨c2, f2⟩ := OwnA.cellAt ho.out (j * 3 + 2) (by omega)
        generalize ys.getD (j * 3) 0 = x at c0
        generalize ys.getD (j * 3 + 1) 0 = y at c1
        generalize ys.getD (j * 3 + 2) 0 = z at c2
        have hi0 : (0 : Int) ≤ (j : Int) := by omega
        have hi1 : (j : Int) < (n : Int) := by omega
        go_wp2
        go_roundw
        case rel =>
          refine ⟨j + 1, _, by omega, by go_num, by go_num, hid (OwnA.stored (OwnA.stored (OwnA.stored ho.out _ _).1 _ _).1 _ _).1, ?_, hid (But.trans (But.trans (But.trans hbut.out (OwnA.stored ho.out _ _).2) (OwnA.stored (OwnA.stored ho.out _ _).1 _ _).2) (OwnA.stored (OwnA.stored (OwnA.stored ho.out _ _).1 _ _).1 _ _).2)⟩
          exact hid (by
            rw [set3_take (by have := HYL.out; omega), hp.out, marks3]
            rw [show (k : Int) + 3 * (j : Int) + 1 + 1 = ((k + j * 3 + 2 : Nat) : Int) from by omega, show (k : Int) + 3 * (j : Int) + 1 = ((k + j * 3 + 1 : Nat) : Int) from by omega, show (k : Int) + 3 * (j : Int) = ((k + j * 3 : Nat) : Int) from by omega])
        case measure => simp [intOf]; omega
      · have : j = n := by omega
        subst this
        go_wp2
        go_ret
        have e1 : ys = marks k (j * 3) := by rw [← hp.out, List.take_of_length_le (by have := HYL.out; omega)]
        exact ⟨by simp, e1 ▸ ho.out, hbut.out⟩
theorem ord_self (i : Int) : FloatKind.f32.format.order (floatOfInt .f32 i) (floatOfInt .f32 i) = some .eq := by
  rw [order_self, if_neg]
  have h1 := (is_int (k := .f32) i).out
  intro h2; rw [cls_nan h2] at h1; cases h1
set_option maxHeartbeats 2000000 in
theorem heldA_any (a : Option Addr) (n c k B : Nat) (w : World) (h : OwnA w B n (.slice a n c) (marks k (n * 3))) (hn : n ≤ 1048576) (hk : k ≤ 1099511627776) :
    Calls Try.prog 83 #[.slice a n c, .int .i64 k] w fun e w' => e = .returned (.int .i64 ((k + 3 * n : Nat) : Int)) ∧ w = w' := by
  rcases id h.2 with ⟨hv, h0⟩ | ⟨g, cap, cur, hv, hb, hg, hnc, hm, hs, ht⟩
  · simp only [Value.slice.injEq] at hv
    obtain ⟨rfl, _, rfl⟩ := hv
    subst h0
    clear h
    go_enter Try.func83, Try.ntmps83
    go_wp2
    refine wp_loop_rounds 1 ?_
    rw [rounds_succ]
    go_wp2
    go_ret
    exact ⟨by simp, rfl⟩
  · simp only [Value.slice.injEq] at hv
    obtain ⟨rfl, _, rfl⟩ := hv
    clear hb hg hs ht
    have HH := hid h
    clear h
    go_enter Try.func83, Try.ntmps83
    go_wp2
    go_loop [1, 5] (fun q i => ∃ (j : Nat), j ≤ n ∧ i = .int .i64 j ∧ q = .int .i64 ((k + 3 * j : Nat) : Int)) (fun _ i => n - (intOf i).toNat)
    case atStart => exact ⟨0, Nat.zero_le _, rfl, by simp⟩
    case round =>
      obtain ⟨j, hj, rfl, rfl⟩ := hrel
      by_cases hlt : j < n
      · obtain ⟨c0, _⟩ := OwnA.cellAt HH.out (j * 3) (by omega)
        obtain ⟨c1, _⟩ := OwnA.cellAt HH.out (j * 3 + 1) (by omega)
        obtain ⟨c2, _⟩ := OwnA.cellAt HH.out (j * 3 + 2) (by omega)
        rw [marks_get _ _ _ (by omega)] at c0 c1 c2
        rw [show ((k + j * 3 : Nat) : Int) = (k : Int) + 3 * (j : Int) from by omega] at c0
        rw [show ((k + (j * 3 + 1) : Nat) : Int) = (k : Int) + 3 * (j : Int) + 1 from by omega] at c1
        rw [show ((k + (j * 3 + 2) : Nat) : Int) = (k : Int) + 3 * (j : Int) + 1 + 1 from by omega] at c2
        have o0 := ord_self ((k : Int) + 3 * (j : Int))
        have o1 := ord_self ((k : Int) + 3 * (j : Int) + 1)
        have o2 := ord_self ((k : Int) + 3 * (j : Int) + 1 + 1)
        have hi0 : (0 : Int) ≤ (j : Int) := by omega
        have hi1 : (j : Int) < (n : Int) := by omega
        go_wp2
        go_roundw
        case rel => exact ⟨j + 1, by omega, by go_num, by go_num⟩
        case measure => simp [intOf]; omega
      · have : j = n := by omega
        subst this
        go_wp2
        go_ret
        exact ⟨by simp, rfl⟩
set_option maxHeartbeats 2000000 in
theorem markTuneK_any (b f r : Nat) (a : Option Addr) (n c k B : Nat) (zs : List Nat) (w : World) (h : OwnA w B n (.slice a n c) zs) (hn : n ≤ 1048576) (hk : k ≤ 1099511627776) :
    Calls Try.prog 21 #[.agg #[.float .f32 b, .float .f32 f, .float .f32 r, .slice a n c], .int .i64 k] w fun e w' => e = .returned (.int .i64 ((k + 3 * n : Nat) : Int)) ∧ OwnA w' B n (.slice a n c) (marks k (n * 3)) ∧ But (Value.slice a n c).ownBlock w w' := by
  have HH := hid h
  clear h
  go_enter Try.func21, Try.ntmps21
  go_wp2_with fail
  refine (markAk_any a n c k B zs _ (OwnA.ext HH.out (ext_alloc _ _)) hn hk).mono ?_
  rintro e w' ⟨rfl, ho, hb⟩
  have HO := hid ho
  have HB := hid hb
  clear ho hb
  go_wp2
  go_ret
  exact ⟨rfl, HO.out, ((ext_alloc _ _).but _).trans HB.out⟩
set_option maxHeartbeats 2000000 in
theorem heldTune_any (b f r : Nat) (a : Option Addr) (n c k B : Nat) (w : World) (h : OwnA w B n (.slice a n c) (marks k (n * 3))) (hn : n ≤ 1048576) (hk : k ≤ 1099511627776) :
    Calls Try.prog 22 #[.agg #[.float .f32 b, .float .f32 f, .float .f32 r, .slice a n c], .int .i64 k] w fun e w' => e = .returned (.int .i64 ((k + 3 * n : Nat) : Int)) ∧ Ext w w' := by
  have HH := hid h
  clear h
  go_enter Try.func22, Try.ntmps22
  go_wp2_with fail
  refine (heldA_any a n c k B _ (OwnA.ext HH.out (ext_alloc _ _)) hn hk).mono ?_
  rintro e w' ⟨rfl, rfl⟩
  go_wp2
  go_ret
  exact ⟨rfl, ext_alloc _ _⟩




/-- a tune that comes back -/
structure UR where
  ok : Bool
  b : Option Nat
  f : Option Nat
  r : Option Nat
  ys : List Nat
  n : Nat
def zeroU : UR := ⟨false, some 0, some 0, some 0, [], 0⟩
def giveU (b f r : Option Nat) (ys : List Nat) (n : Nat) : UR := if tuneV b f r ys n then ⟨true, b, f, r, ys, n⟩ else zeroU
theorem giveU_len (b f r : Option Nat) (ys : List Nat) (n : Nat) : (giveU b f r ys n).n ≤ 8 := by
  unfold giveU
  split
  · rename_i h; exact (show n ≤ 8 from by unfold tuneV at h; simp at h; exact h.1)
  · exact Nat.zero_le _
/-- the value is this tune, its accents of the call's own -/
def TuneIs (w : World) (B : Nat) (R : UR) (v : Value) : Prop := ∃ b f r a c, v = .agg #[.float .f32 b, .float .f32 f, .float .f32 r, .slice a R.n c] ∧ OwnA w B R.n (.slice a R.n c) R.ys ∧ cls .f32 b = R.b ∧ cls .f32 f = R.f ∧ cls .f32 r = R.r
theorem ownA_nil (w : World) (B : Nat) : OwnA w B 0 (.slice none 0 0) [] := World.ownsRow_nil w B _ _
theorem zeroU_is (w : World) (B : Nat) : TuneIs w B zeroU (.agg #[.float .f32 0, .float .f32 0, .float .f32 0, .slice none 0 0]) := ⟨0, 0, 0, none, 0, rfl, ownA_nil _ _, cls0, cls0, cls0⟩
theorem TuneIs.ext {w w' : World} {B : Nat} {R : UR} {v : Value} (h : TuneIs w B R v) (e : Ext w w') : TuneIs w' B R v := by
  obtain ⟨b, f, r, a, c, h1, h2, h3⟩ := h
  exact ⟨b, f, r, a, c, h1, OwnA.ext h2 e, h3⟩
theorem TuneIs.base {w : World} {B B' : Nat} {R : UR} {v : Value} (h : TuneIs w B R v) (e : B' ≤ B) : TuneIs w B' R v := by
  obtain ⟨b, f, r, a, c, h1, h2, h3⟩ := h
  exact ⟨b, f, r, a, c, h1, OwnA.base h2 e, h3⟩
theorem TuneIs.far4 {w : World} {B x : Nat} {R : UR} {v : Value} (h : TuneIs w B R v) (hb : x < B) (u0 u1 u2 u3 : Value) : TuneIs ((((w.setCell ⟨x, 0, none⟩ u0).setCell ⟨x, 1, none⟩ u1).setCell ⟨x, 2, none⟩ u2).setCell ⟨x, 3, none⟩ u3) B R v := by
  obtain ⟨b, f, r, a, c, h1, h2, h3⟩ := h
  exact ⟨b, f, r, a, c, h1, OwnA.far (OwnA.far (OwnA.far (OwnA.far h2 hb _ _) hb _ _) hb _ _) hb _ _, h3⟩
theorem giveU_yes {w : World} {B n : Nat} {a : Option Addr} {c b f r : Nat} {ys : List Nat} (h : tuneV (cls .f32 b) (cls .f32 f) (cls .f32 r) ys n = true) (ho : OwnA w B n (.slice a n c) ys) : TuneIs w B (giveU (cls .f32 b) (cls .f32 f) (cls .f32 r) ys n) (.agg #[.float .f32 b, .float .f32 f, .float .f32 r, .slice a n c]) := by
  unfold giveU
  rw [if_pos h]
  exact ⟨b, f, r, a, c, rfl, ho, rfl, rfl, rfl⟩

theorem OwnA.but4 {w : World} {B n x : Nat} {v : Value} {zs : List Nat} (h : OwnA w B n v zs) (hb : v.ownBlock ≠ some x) (u0 u1 u2 u3 : Value) : OwnA ((((w.setCell ⟨x, 0, none⟩ u0).setCell ⟨x, 1, none⟩ u1).setCell ⟨x, 2, none⟩ u2).setCell ⟨x, 3, none⟩ u3) B n v zs := by
  have one : ∀ (w : World) (j : Nat) (u : Value), OwnA w B n v zs → OwnA (w.setCell ⟨x, j, none⟩ u) B n v zs := by
    intro w j u h
    refine ⟨h.1, ?_⟩
    rcases h.2 with h0 | ⟨g, cap, cur, rfl, hg1, hg, hr⟩
    · exact .inl h0
    · refine .inr ⟨g, cap, cur, rfl, hg1, ?_, hr⟩
      rw [heap_setCell_other w ⟨x, j, none⟩ g u (by intro h9; exact hb (by simp at h9; rw [← h9]; rfl))]; exact hg
  exact one _ _ _ (one _ _ _ (one _ _ _ (one _ _ _ h)))

set_option maxHeartbeats 2000000 in
theorem validTuneOnly_any (b f r : Nat) (a : Option Addr) (n c B : Nat) (ys : List Nat) (w : World) (h : OwnA w B n (.slice a n c) ys) (hn : n ≤ 1048576) :
    Calls Try.prog 79 #[.agg #[.float .f32 b, .float .f32 f, .float .f32 r, .slice a n c]] w fun e w' => ∃ v, e = .returned (.tuple #[v, .bool (giveU (cls .f32 b) (cls .f32 f) (cls .f32 r) ys n).ok]) ∧ TuneIs w' B (giveU (cls .f32 b) (cls .f32 f) (cls .f32 r) ys n) v ∧ Ext w w' := by
  have HH := hid h
  have HN := hid hn
  have HD := hid (ownA_hold h)
  clear h hn
  obtain ⟨V, hV⟩ : ∃ V, tuneV (cls .f32 b) (cls .f32 f) (cls .f32 r) ys n = V := ⟨_, rfl⟩
  have HV := hid hV
  have HG := hid (show V = false → giveU (cls .f32 b) (cls .f32 f) (cls .f32 r) ys n = zeroU from fun h => by unfold giveU; rw [hV, h]; rfl)
  have HK := hid (show V = true → (giveU (cls .f32 b) (cls .f32 f) (cls .f32 r) ys n).ok = true from fun h => by unfold giveU; rw [hV, h]; rfl)
  clear hV
  cases V
  all_goals
    go_enter Try.func79, Try.ntmps79
    go_wp2_with fail
    refine (validTune_is b f r a n c ys _ _ (HoldsA.ext HD.out (by (repeat with_reducible (first | exact Ext.refl _ | exact ext_alloc _ _ | refine Ext.drewN ?_ _ | refine Ext.drew1 ?_ | refine Ext.set ?_ (by dsimp only; omega) _ | refine Ext.alloc ?_ _)))) HN.out HV.out).mono ?_
    rintro e w1 ⟨rfl, E1⟩
    have BA := hid (Box.ext (Box.alloc (box_new (w := w) #[.float .f32 b, .float .f32 f, .float .f32 r, .slice a n c] 31) _) E1)
    have BR := hid (Box.cast (b' := w.heap.size + 1) (Box.ext (box_new (w := (w.alloc (.cells #[.float .f32 b, .float .f32 f, .float .f32 r, .slice a n c] 31))) #[.float .f32 0, .float .f32 0, .float .f32 0, .slice none 0 0] 31) E1) (by simp))
    have EX := hid (show Ext w w1 from Ext.trans (by (repeat with_reducible (first | exact Ext.refl _ | exact ext_alloc _ _ | refine Ext.drewN ?_ _ | refine Ext.drew1 ?_ | refine Ext.set ?_ (by dsimp only; omega) _ | refine Ext.alloc ?_ _))) E1)
    clear E1
    obtain ⟨d0, d1, d2, d3, dl⟩ := Box.cells4 BA.out
    obtain ⟨z0, z1, z2, z3, zf0, zf1, zf2, zf3, zl⟩ := Box.all4 BR.out
    go_wp2_with fail
    clear d0 d1 d2 d3 dl z0 z1 z2 z3 zf0 zf1 zf2 zf3 zl
    refine bodyPost_ret (ret_cell2 Try.results79 rfl (box_set4 BR.out _ _ _ _) Try.underlying31 infoTu) rfl ?_
  · rw [HG.out (by first | rfl | trivial)]
    exact ⟨_, rfl, zeroU_is _ _, ext_set4 EX.out (by omega) _ _ _ _⟩
  · rw [HK.out (by first | rfl | trivial)]
    have hne : ∀ k, (Value.slice a n c).ownBlock = some k → k < w.heap.size := fun k hk => (OwnA.block HH.out k hk).2
    refine ⟨_, rfl, ?_, ext_set4 EX.out (by omega) _ _ _ _⟩
    have h9 := OwnA.but4 (OwnA.ext HH.out EX.out) (x := w.heap.size + 1) (fun hk => by have := hne _ hk; omega) (.float .f32 b) (.float .f32 f) (.float .f32 r) (.slice a n c)
    exact giveU_yes HV.out h9

set_option maxHeartbeats 2000000 in
theorem l06GiveTune_any (b f r : Nat) (a : Option Addr) (n c B : Nat) (ys : List Nat) (w : World) (h : OwnA w B n (.slice a n c) ys) (hn : n ≤ 1048576) :
    Calls Try.prog 76 #[.agg #[.float .f32 b, .float .f32 f, .float .f32 r, .slice a n c]] w fun e w' => ∃ v, e = .returned (.tuple #[v, .bool (giveU (cls .f32 b) (cls .f32 f) (cls .f32 r) ys n).ok]) ∧ TuneIs w' B (giveU (cls .f32 b) (cls .f32 f) (cls .f32 r) ys n) v ∧ Ext w w' := by
  have HH := hid h
  have HN := hid hn
  have HD := hid (ownA_hold h)
  clear h hn
  obtain ⟨V, hV⟩ : ∃ V, tuneV (cls .f32 b) (cls .f32 f) (cls .f32 r) ys n = V := ⟨_, rfl⟩
  have HV := hid hV
  have HG := hid (show V = false → giveU (cls .f32 b) (cls .f32 f) (cls .f32 r) ys n = zeroU from fun h => by unfold giveU; rw [hV, h]; rfl)
  have HK := hid (show V = true → (giveU (cls .f32 b) (cls .f32 f) (cls .f32 r) ys n).ok = true from fun h => by unfold giveU; rw [hV, h]; rfl)
  clear hV
  cases V
  all_goals
    go_enter Try.func76, Try.ntmps76
    go_wp2_with fail
    refine (l06Tune_drew _ b f r a n c ys _ _ (Box.ext (box_new (w := w) #[.float .f32 b, .float .f32 f, .float .f32 r, .slice a n c] 31) (by (repeat with_reducible (first | exact Ext.refl _ | exact ext_alloc _ _ | refine Ext.drewN ?_ _ | refine Ext.drew1 ?_ | refine Ext.set ?_ (by dsimp only; omega) _ | refine Ext.alloc ?_ _)))) (HoldsA.ext HD.out (by (repeat with_reducible (first | exact Ext.refl _ | exact ext_alloc _ _ | refine Ext.drewN ?_ _ | refine Ext.drew1 ?_ | refine Ext.set ?_ (by dsimp only; omega) _ | refine Ext.alloc ?_ _)))) HN.out HV.out).mono ?_
    rintro e w1 ⟨rfl, m1, hw1⟩
    have E1 : Ext ((w.alloc (.cells #[.float .f32 b, .float .f32 f, .float .f32 r, .slice a n c] 31)).alloc (.cells #[.float .f32 0, .float .f32 0, .float .f32 0, .slice none 0 0] 31)) w1 := by rw [hw1]; exact Ext.drewN (Ext.refl _) _
    clear hw1
    have BA := hid (Box.ext (Box.alloc (box_new (w := w) #[.float .f32 b, .float .f32 f, .float .f32 r, .slice a n c] 31) _) E1)
    have BR := hid (Box.cast (b' := w.heap.size + 1) (Box.ext (box_new (w := (w.alloc (.cells #[.float .f32 b, .float .f32 f, .float .f32 r, .slice a n c] 31))) #[.float .f32 0, .float .f32 0, .float .f32 0, .slice none 0 0] 31) E1) (by simp))
    have EX := hid (show Ext w w1 from Ext.trans (by (repeat with_reducible (first | exact Ext.refl _ | exact ext_alloc _ _ | refine Ext.drewN ?_ _ | refine Ext.drew1 ?_ | refine Ext.set ?_ (by dsimp only; omega) _ | refine Ext.alloc ?_ _))) E1)
    clear E1
    obtain ⟨d0, d1, d2, d3, dl⟩ := Box.cells4 BA.out
    obtain ⟨z0, z1, z2, z3, zf0, zf1, zf2, zf3, zl⟩ := Box.all4 BR.out
    go_wp2_with fail
    clear d0 d1 d2 d3 dl z0 z1 z2 z3 zf0 zf1 zf2 zf3 zl
    refine bodyPost_ret (ret_cell2 Try.results76 rfl (box_set4 BR.out _ _ _ _) Try.underlying31 infoTu) rfl ?_
  · rw [HG.out (by first | rfl | trivial)]
    exact ⟨_, rfl, zeroU_is _ _, ext_set4 EX.out (by omega) _ _ _ _⟩
  · rw [HK.out (by first | rfl | trivial)]
    have hne : ∀ k, (Value.slice a n c).ownBlock = some k → k < w.heap.size := fun k hk => (OwnA.block HH.out k hk).2
    refine ⟨_, rfl, ?_, ext_set4 EX.out (by omega) _ _ _ _⟩
    have h9 := OwnA.but4 (OwnA.ext HH.out EX.out) (x := w.heap.size + 1) (fun hk => by have := hne _ hk; omega) (.float .f32 b) (.float .f32 f) (.float .f32 r) (.slice a n c)
    exact giveU_yes HV.out h9



theorem wpList_append_none {ops : Array Oper} {rest : List Oper} {o : Oper} {a : Act} {Q : Exit → Act → World → Prop} (w : World) (hgd : o.guard = none) (s x : Operand) (t : TypeId)
    (ho : o.op = .call { callee := .builtin .append, args := #[s, x], argTypes := #[t, t] }) (e : TypeId) (i : TypeInfo) (ht : Try.prog.underlying t = some (.slice e)) (hi : Try.prog.info? e = some i)
    (b0 : Option Addr) (c0 : Nat) (hs : a.eval s = .slice b0 0 c0) (b : Option Addr) (c : Nat) (hx : a.eval x = .slice b 0 c) (h : wpList Try.prog ops Q rest (a.put o.dst (.slice b0 0 c0)) w) : wpList Try.prog ops Q (o :: rest) a w := by
  have hsrc : Src Try.prog i.size t (.slice b 0 c) 0 [] w := by
    cases b with
    | none => exact ⟨.inl ⟨_, ht⟩, fun _ => rfl, rfl, rfl, by simp, by simp⟩
    | some ad => exact Src.ofSlice w ht ad 0 c [] (by simp) (by intro j u h; simp at h) (by simp)
  have hrun := run_append_nothing (P := Try.prog) w t t o.type e i ht hi b0 0 c0 (Nat.zero_le _) _ hsrc
  refine wpList_plain hgd fun K hK' => ?_
  unfold Oper.wp
  simp [execOp, ho, resolve, invoke, builtin, hs, hx, hrun, Result.andThen]
  exact hK' _ _ h


theorem HoldsA.flat {w : World} {b off n : Nat} {zs : List Nat} (hl : zs.length = n * 3) (hc : ∀ i, i < n → Cell3 w b (off + i * 3) (zs.getD (i * 3) 0) (zs.getD (i * 3 + 1) 0) (zs.getD (i * 3 + 2) 0)) : ∀ j u, (zs.map (Value.float .f32))[j]? = some u → w.cell? ((⟨b, off, none⟩ : Addr).add j) = some u := by
  intro j u hu
  have hj : j < n * 3 := by
    rw [← hl]
    have := (List.getElem?_eq_some_iff.1 hu).1
    simpa using this
  have hu2 : u = .float .f32 (zs.getD j 0) := by
    rw [List.getElem?_map] at hu
    have hz : zs[j]? = some (zs.getD j 0) := by simp [List.getD, hl, hj]
    rw [hz] at hu
    simpa using hu.symm
  rw [hu2, addr_add]
  obtain ⟨h0, h1, h2⟩ := hc (j / 3) (by omega)
  have h3 : j % 3 = 0 ∨ j % 3 = 1 ∨ j % 3 = 2 := by omega
  rcases h3 with h4 | h4 | h4
  · have e : j / 3 * 3 = j := by omega
    rw [e] at h0; exact h0
  · have e : j / 3 * 3 + 1 = j := by omega
    rw [Nat.add_assoc, e] at h1; exact h1
  · have e : j / 3 * 3 + 2 = j := by omega
    rw [Nat.add_assoc, e] at h2; exact h2
theorem info_partsA : ∃ i, Try.prog.info? 35 = some i ∧ i.zero = some (.agg #[.float .f32 0, .float .f32 0, .float .f32 0]) ∧ i.size = 3 ∧ i.bytes = 12 := by
  cases hi : Try.prog.info? 35 with
  | none => have h9 := infoAc; rw [hi] at h9; cases h9
  | some i0 =>
    have h9 := infoAc
    rw [hi] at h9
    simp only [Option.map_some, Option.some.injEq, Prod.mk.injEq] at h9
    exact ⟨i0, rfl, h9.1, h9.2.1, h9.2.2⟩
theorem ownA_empty {w : World} {B : Nat} (hB : B ≤ w.heap.size) : OwnA (w.alloc (.cells #[] 35)) B 0 (.slice (some ⟨w.heap.size, 0, none⟩) 0 0) [] :=
  ⟨rfl, .inr ⟨w.heap.size, 0, #[], rfl, hB, heap_alloc_new _ _, Nat.le_refl _, Nat.zero_le _, rfl, rfl⟩⟩
theorem holdsA_zero {w : World} {a : Option Addr} {ys : List Nat} (h : HoldsA w a 0 ys) : ys = [] := by
  have := h.1
  simpa using this


theorem step_append_none {ops : Array Oper} {o : Oper} {a : Act} {w : World} {K : Act → World → Prop} {Q : Exit → Act → World → Prop} {E : Prop} (hgd : o.guard = none) (s x : Operand) (t : TypeId)
    (ho : o.op = .call { callee := .builtin .append, args := #[s, x], argTypes := #[t, t] }) (e : TypeId) (i : TypeInfo) (ht : Try.prog.underlying t = some (.slice e)) (hi : Try.prog.info? e = some i)
    (b0 : Option Addr) (c0 : Nat) (hs : a.eval s = .slice b0 0 c0) (b : Option Addr) (c : Nat) (hx : a.eval x = .slice b 0 c) (h : K (a.put o.dst (.slice b0 0 c0)) w) : if Region.wanted o (yielded ops a.tmps) = true then Oper.wp Try.prog o a w K Q else E := by
  have hsrc : Src Try.prog i.size t (.slice b 0 c) 0 [] w := by
    cases b with
    | none => exact ⟨.inl ⟨_, ht⟩, fun _ => rfl, rfl, rfl, by simp, by simp⟩
    | some ad => exact Src.ofSlice w ht ad 0 c [] (by simp) (by intro j u h; simp at h) (by simp)
  have hrun := run_append_nothing (P := Try.prog) w t t o.type e i ht hi b0 0 c0 (Nat.zero_le _) _ hsrc
  have hw : Region.wanted o (yielded ops a.tmps) = true := by simp [Region.wanted, hgd]
  rw [if_pos hw]
  unfold Oper.wp
  simp [execOp, ho, resolve, invoke, builtin, hs, hx, hrun, Result.andThen]
  exact h


theorem ownA_fresh {w : World} {B a : Nat} (ha : a = w.heap.size) (hB : B ≤ w.heap.size) : OwnA (w.alloc (.cells #[] 35)) B 0 (.slice (some ⟨a, 0, none⟩) 0 0) [] := by
  subst ha; exact ownA_empty hB
def moveU (b f r : Option Nat) (ys : List Nat) (n : Nat) (X : Option Nat) : UR := if tuneV b f r ys n then giveU (fop .mul .f32 b X) f r ys n else zeroU
theorem moveU_len (b f r : Option Nat) (ys : List Nat) (n : Nat) (X : Option Nat) : (moveU b f r ys n X).n ≤ 8 := by
  unfold moveU
  split
  · exact giveU_len _ _ _ _ _
  · exact Nat.zero_le _
theorem move_wild {b x : Nat} {f r : Option Nat} {ys : List Nat} {n : Nat} (h : fin32 (cls .f32 x) = false) : giveU (fop .mul .f32 (cls .f32 b) (cls .f32 x)) f r ys n = zeroU := by
  unfold giveU
  rw [if_neg]
  intro h2
  have h3 : fin32 (fop .mul .f32 (cls .f32 b) (cls .f32 x)) = true := by
    unfold tuneV areaC at h2
    simp at h2
    exact h2.2.1.2
  have h4 := (fin_mul (num_of_cls b) (num_of_cls x) h3).2
  rw [h] at h4; cases h4
set_option maxHeartbeats 4000000 in
set_option maxRecDepth 100000 in
theorem l06OwnTune_any (x b f r : Nat) (a : Option Addr) (n c : Nat) (ys : List Nat) (w : World) (hbx : Box w x #[.float .f32 b, .float .f32 f, .float .f32 r, .slice a n c]) (h : HoldsA w a n ys) (hn : n ≤ 1048576) :
    Calls Try.prog 75 #[.pointer (some ⟨x, 0, none⟩)] w fun e w' => ∃ a' c', e = .returned (.agg #[.float .f32 b, .float .f32 f, .float .f32 r, .slice a' n c']) ∧ OwnA w' w.heap.size n (.slice a' n c') ys ∧ Ext w w' := by
  obtain ⟨i0, hi, hz0, hz1, hz2⟩ := info_partsA
  have HI := hid (And.intro hi (And.intro hz0 (And.intro hz1 hz2)))
  have HN := hid hn
  have BX := hid hbx
  obtain ⟨d0, d1, d2, d3, dl⟩ := Box.cells4 hbx
  clear hi hz0 hz1 hz2 hn hbx
  by_cases h0 : n = 0
  · subst h0
    have hy := holdsA_zero h
    subst hy
    clear h
    go_enter Try.func75, Try.ntmps75
    go_wp2_with fail
    go_region_held3 (fun w' => w'.cell? ⟨x, 0, none⟩ = some (.float .f32 b) ∧ w'.cell? ⟨x, 1, none⟩ = some (.float .f32 f) ∧ w'.cell? ⟨x, 2, none⟩ = some (.float .f32 r) ∧ w'.cell? ⟨x, 3, none⟩ = some (.slice a 0 c))
      (first | exact ⟨Box.cell (Box.ext BX.out (by (repeat with_reducible (first | exact Ext.refl _ | exact ext_alloc _ _ | refine Ext.drewN ?_ _ | refine Ext.drew1 ?_ | refine Ext.set ?_ (by dsimp only; omega) _ | refine Ext.alloc ?_ _)))) 0, Box.cell (Box.ext BX.out (by (repeat with_reducible (first | exact Ext.refl _ | exact ext_alloc _ _ | refine Ext.drewN ?_ _ | refine Ext.drew1 ?_ | refine Ext.set ?_ (by dsimp only; omega) _ | refine Ext.alloc ?_ _)))) 1, Box.cell (Box.ext BX.out (by (repeat with_reducible (first | exact Ext.refl _ | exact ext_alloc _ _ | refine Ext.drewN ?_ _ | refine Ext.drew1 ?_ | refine Ext.set ?_ (by dsimp only; omega) _ | refine Ext.alloc ?_ _)))) 2, Box.cell (Box.ext BX.out (by (repeat with_reducible (first | exact Ext.refl _ | exact ext_alloc _ _ | refine Ext.drewN ?_ _ | refine Ext.drew1 ?_ | refine Ext.set ?_ (by dsimp only; omega) _ | refine Ext.alloc ?_ _)))) 3⟩ | go_keep)
      (first | (refine step_append_none rfl _ _ 29 rfl 35 i0 Try.underlying29 HI.out.1 _ _ rfl _ _ rfl ?_))
    have HF := hid (Box.ext (Box.alloc (box_new (w := w) #[.float .f32 b, .float .f32 f, .float .f32 r, .slice (some ⟨w.heap.size + 1, 0, none⟩) 0 0] 31) (.cells #[] 35)) (ext_drew _))
    have HO := hid (show OwnA ((w.alloc (.cells #[.float .f32 b, .float .f32 f, .float .f32 r, .slice (some ⟨w.heap.size + 1, 0, none⟩) 0 0] 31)).alloc (.cells #[] 35)).drew w.heap.size 0 (.slice (some ⟨w.heap.size + 1, 0, none⟩) 0 0) [] from by
      have h9 := OwnA.ext (ownA_empty (w := (w.alloc (.cells #[.float .f32 b, .float .f32 f, .float .f32 r, .slice (some ⟨w.heap.size + 1, 0, none⟩) 0 0] 31))) (B := w.heap.size) (by simp)) (ext_drew _)
      simpa using h9)
    go_wp2_with fail
    refine bodyPost_ret (ret_cell1 Try.results75 rfl HF.out Try.underlying31 infoTu) rfl ?_
    exact ⟨_, _, rfl, HO.out, by (repeat with_reducible (first | exact Ext.refl _ | exact ext_alloc _ _ | refine Ext.drewN ?_ _ | refine Ext.drew1 ?_ | refine Ext.set ?_ (by dsimp only; omega) _ | refine Ext.alloc ?_ _))⟩
  · obtain ⟨hl, h1 | ⟨bb, off, h1, hb, hc⟩⟩ := h
    · exact absurd h1 h0
    subst h1
    have HL := hid hl
    have HP := hid (show 0 < n by omega)
    have HH := hid (show HoldsA w (some ⟨bb, off, none⟩) n ys from ⟨hl, .inr ⟨bb, off, rfl, hb, hc⟩⟩)
    have HC := hid (fun (u : World) (e : Ext w u) => HoldsA.flat (w := u) (b := bb) (off := off) hl (fun i hi => (HoldsA.ext HH.out e).2.elim (fun h => absurd h h0) (fun ⟨b2, off2, e2, _, hc2⟩ => by cases e2; exact hc2 i hi)))
    clear hl hb hc h0
    go_enter Try.func75, Try.ntmps75
    go_wp2_with fail
    go_region_held3 (fun w' => w'.cell? ⟨x, 0, none⟩ = some (.float .f32 b) ∧ w'.cell? ⟨x, 1, none⟩ = some (.float .f32 f) ∧ w'.cell? ⟨x, 2, none⟩ = some (.float .f32 r) ∧ w'.cell? ⟨x, 3, none⟩ = some (.slice (some ⟨bb, off, none⟩) n c))
      (first | exact ⟨Box.cell (Box.ext BX.out E1) 0, Box.cell (Box.ext BX.out E1) 1, Box.cell (Box.ext BX.out E1) 2, Box.cell (Box.ext BX.out E1) 3⟩ | exact ⟨Box.cell (box_far4 (Box.ext BX.out E1) (by omega) _ _ _ _) 0, Box.cell (box_far4 (Box.ext BX.out E1) (by omega) _ _ _ _) 1, Box.cell (box_far4 (Box.ext BX.out E1) (by omega) _ _ _ _) 2, Box.cell (box_far4 (Box.ext BX.out E1) (by omega) _ _ _ _) 3⟩ | go_keep)
      (first | (refine step_append_lies _ rfl _ _ 29 rfl (w.heap.size + 1) 35 i0 (.agg #[.float .f32 0, .float .f32 0, .float .f32 0]) 3 12 Try.underlying29 HI.out.1 HI.out.2.1 HI.out.2.2.1 HI.out.2.2.2 rfl (by decide) _ _ _ rfl (ownA_fresh (B := w.heap.size + 1) (by simp) (by simp)) ⟨bb, off, none⟩ n c (ys.map (Value.float .f32)) rfl (by have := HL.out; simp [this]) (HC.out _ (by (repeat with_reducible (first | exact Ext.refl _ | exact ext_alloc _ _ | refine Ext.drewN ?_ _ | refine Ext.drew1 ?_ | refine Ext.set ?_ (by dsimp only; omega) _ | refine Ext.alloc ?_ _)))) (news_one ys) HP.out (by have := HN.out; unfold maxLen; omega) (by have := HN.out; omega) (by simp <;> omega) _ rfl ?_; intro g cap w1 hown hgrow hat hlt; have E1 : Ext w w1 := But.below hgrow (by (repeat with_reducible (first | exact Ext.refl _ | exact ext_alloc _ _ | refine Ext.drewN ?_ _ | refine Ext.drew1 ?_ | refine Ext.set ?_ (by dsimp only; omega) _ | refine Ext.alloc ?_ _))) (fun k hk => by cases hk; simp); obtain ⟨r0, r1, r2, r3, rf0, rf1, rf2, rf3, rl⟩ := Box.all4 (But.box hgrow (Box.alloc (Box.ext (box_new (w := w) #[.float .f32 0, .float .f32 0, .float .f32 0, .slice none 0 0] 31) (by (repeat with_reducible (first | exact Ext.refl _ | exact ext_alloc _ _ | refine Ext.drewN ?_ _ | refine Ext.drew1 ?_ | refine Ext.set ?_ (by dsimp only; omega) _ | refine Ext.alloc ?_ _)))) (.cells #[] 35)) (by show some (w.heap.size + 1) ≠ some w.heap.size; simp))))
    have HO := hid (show OwnA w1 (w.heap.size + 1) n (.slice (some ⟨g, 0, none⟩) n cap) ys from by simpa [OwnA] using hown)
    have HE := hid E1
    have HF := hid (box_set4 (But.box hgrow (Box.alloc (Box.ext (box_new (w := w) #[.float .f32 0, .float .f32 0, .float .f32 0, .slice none 0 0] 31) (by (repeat with_reducible (first | exact Ext.refl _ | exact ext_alloc _ _ | refine Ext.drewN ?_ _ | refine Ext.drew1 ?_ | refine Ext.set ?_ (by dsimp only; omega) _ | refine Ext.alloc ?_ _)))) (.cells #[] 35)) (by show some (w.heap.size + 1) ≠ some w.heap.size; simp)) (.float .f32 b) (.float .f32 f) (.float .f32 r) (.slice (some ⟨g, 0, none⟩) n cap))
    clear hown hgrow hat hlt E1 r0 r1 r2 r3 rf0 rf1 rf2 rf3 rl
    go_wp2_with fail
    refine bodyPost_ret (ret_cell1 Try.results75 rfl HF.out Try.underlying31 infoTu) rfl ?_
    exact ⟨_, _, rfl, OwnA.base (OwnA.far (OwnA.far (OwnA.far (OwnA.far HO.out (by omega) _ _) (by omega) _ _) (by omega) _ _) (by omega) _ _) (by omega), ext_set4 HE.out (Nat.le_refl _) _ _ _ _⟩




theorem Box.put4 {w : World} {b : Nat} {v0 v1 v2 v3 : Value} (h : Box w b #[v0, v1, v2, v3]) (u0 : Value) : Box (w.setCell ⟨b, 0, none⟩ u0) b #[u0, v1, v2, v3] := Box.eqv (box_set (j := 0) h u0) (by rfl)
theorem Box.put43 {w : World} {b : Nat} {v0 v1 v2 v3 : Value} (h : Box w b #[v0, v1, v2, v3]) (u3 : Value) : Box (w.setCell ⟨b, 3, none⟩ u3) b #[v0, v1, v2, u3] := Box.eqv (box_set (j := 3) h u3) (by rfl)
theorem move_yes {b f r X : Option Nat} {ys : List Nat} {n : Nat} (h : tuneV b f r ys n = true) : moveU b f r ys n X = giveU (fop .mul .f32 b X) f r ys n := by unfold moveU; rw [if_pos h]
theorem move_no {b f r X : Option Nat} {ys : List Nat} {n : Nat} (h : tuneV b f r ys n = false) : moveU b f r ys n X = zeroU := by unfold moveU; rw [h]; rfl



end Go.Proofs.Ythinjgiakaflpab
