/- Mixed frames. -/
import Derived.Test.YthinjgiakaflpaaF5m
namespace Go.Proofs.Ythinjgiakaflpaa
open Go.RowKit Flt
set_option linter.unusedVariables false

set_option maxHeartbeats 4000000 in
set_option maxRecDepth 100000 in
theorem mixF_any (a1 a2 : Option Addr) (n m c1 c2 l1 t1 p1 l2 t2 p2 s : Nat) (xs ys : List Nat) (R : FR) (w : World) (h1 : Holds .f32 w a1 n xs) (h2 : Holds .f32 w a2 m ys) (hn : n ≤ 1048576) (hm : m ≤ 1048576) (hR : mixF (xs.map (cls .f32)) (cls .f32 l1) (cls .f32 t1) (cls .f32 p1) (ys.map (cls .f32)) (cls .f32 l2) (cls .f32 t2) (cls .f32 p2) (cls .f32 s) = R) :
    Calls Try.prog 39 #[.agg #[.slice a1 n c1, .float .f32 l1, .float .f32 t1, .float .f32 p1], .agg #[.slice a2 m c2, .float .f32 l2, .float .f32 t2, .float .f32 p2], .float .f32 s] w fun e w' => ∃ v, e = .returned (.tuple #[v, .bool R.ok]) ∧ FrameIs w' w.heap.size R v ∧ Ext w w' := by
  have HH1 := hid h1
  have HH2 := hid h2
  have HN := hid hn
  have HM := hid hm
  have HL1 := hid h1.1
  have HL2 := hid h2.1
  cases hV1 : frameC (xs.map (cls .f32)) (cls .f32 l1) (cls .f32 t1) (cls .f32 p1)
  · have e : R = zeroF := by rw [← hR]; unfold mixF; rw [if_neg (by simp [hV1])]
    subst e
    clear h1 h2 hn hm hR
    go_enter Try.func39, Try.ntmps39
    go_wp2_with (go_at_call 29; with_reducible refine (validFrame_any a1 n c1 l1 t1 p1 xs _ (Holds.ext HH1.out (by (repeat with_reducible (first | exact Ext.refl _ | exact ext_alloc _ _ | refine Ext.drewN ?_ _ | refine Ext.drew1 ?_ | refine Ext.set ?_ (by dsimp only; omega) _ | refine Ext.alloc ?_ _)))) HN.out).mono ?_; rintro e w' ⟨rfl, m1, rfl⟩; rw [hV1])
    go_returns
    refine ⟨_, rfl, zeroF_is _ _, ?_⟩
    (repeat with_reducible (first | exact Ext.refl _ | exact ext_alloc _ _ | refine Ext.drewN ?_ _ | refine Ext.drew1 ?_ | refine Ext.set ?_ (by dsimp only; omega) _ | refine Ext.alloc ?_ _))
  cases hV2 : frameC (ys.map (cls .f32)) (cls .f32 l2) (cls .f32 t2) (cls .f32 p2)
  · have e : R = zeroF := by rw [← hR]; unfold mixF; rw [if_neg (by simp [hV2])]
    subst e
    clear h1 h2 hn hm hR
    go_enter Try.func39, Try.ntmps39
    go_wp2_with (first | (go_at_call 29; with_reducible refine (validFrame_any a1 n c1 l1 t1 p1 xs _ (Holds.ext HH1.out (by (repeat with_reducible (first | exact Ext.refl _ | exact ext_alloc _ _ | refine Ext.drewN ?_ _ | refine Ext.drew1 ?_ | refine Ext.set ?_ (by dsimp only; omega) _ | refine Ext.alloc ?_ _)))) HN.out).mono ?_; rintro e w' ⟨rfl, m1, rfl⟩; rw [hV1]) | (go_at_call 29; with_reducible refine (validFrame_any a2 m c2 l2 t2 p2 ys _ (Holds.ext HH2.out (by (repeat with_reducible (first | exact Ext.refl _ | exact ext_alloc _ _ | refine Ext.drewN ?_ _ | refine Ext.drew1 ?_ | refine Ext.set ?_ (by dsimp only; omega) _ | refine Ext.alloc ?_ _)))) HM.out).mono ?_; rintro e w' ⟨rfl, m2, rfl⟩; rw [hV2]))
    go_returns
    refine ⟨_, rfl, zeroF_is _ _, ?_⟩
    (repeat with_reducible (first | exact Ext.refl _ | exact ext_alloc _ _ | refine Ext.drewN ?_ _ | refine Ext.drew1 ?_ | refine Ext.set ?_ (by dsimp only; omega) _ | refine Ext.alloc ?_ _))
  by_cases hnm : n = m
  rotate_left
  · have e : R = zeroF := by rw [← hR]; unfold mixF; rw [if_neg (by intro h; have e1 := h.2.2.1; have e2 := HL1.out; have e3 := HL2.out; simp at e1; omega)]
    subst e
    clear h1 h2 hn hm hR
    have hz : ¬ ((n : Int) = (m : Int)) := by omega
    go_enter Try.func39, Try.ntmps39
    go_wp2_with (first | (go_at_call 29; with_reducible refine (validFrame_any a1 n c1 l1 t1 p1 xs _ (Holds.ext HH1.out (by (repeat with_reducible (first | exact Ext.refl _ | exact ext_alloc _ _ | refine Ext.drewN ?_ _ | refine Ext.drew1 ?_ | refine Ext.set ?_ (by dsimp only; omega) _ | refine Ext.alloc ?_ _)))) HN.out).mono ?_; rintro e w' ⟨rfl, m1, rfl⟩; rw [hV1]) | (go_at_call 29; with_reducible refine (validFrame_any a2 m c2 l2 t2 p2 ys _ (Holds.ext HH2.out (by (repeat with_reducible (first | exact Ext.refl _ | exact ext_alloc _ _ | refine Ext.drewN ?_ _ | refine Ext.drew1 ?_ | refine Ext.set ?_ (by dsimp only; omega) _ | refine Ext.alloc ?_ _)))) HM.out).mono ?_; rintro e w' ⟨rfl, m2, rfl⟩; rw [hV2]))
    go_returns
    refine ⟨_, rfl, zeroF_is _ _, ?_⟩
    (repeat with_reducible (first | exact Ext.refl _ | exact ext_alloc _ _ | refine Ext.drewN ?_ _ | refine Ext.drew1 ?_ | refine Ext.set ?_ (by dsimp only; omega) _ | refine Ext.alloc ?_ _))
  cases hS : shareC (cls .f32 s)
  · have e : R = zeroF := by rw [← hR]; unfold mixF; rw [if_neg (by simp [hS])]
    subst e
    clear h1 h2 hn hm hR
    subst hnm
    go_enter Try.func39, Try.ntmps39
    go_wp2_with (first | (go_at_call 29; with_reducible refine (validFrame_any a1 n c1 l1 t1 p1 xs _ (Holds.ext HH1.out (by (repeat with_reducible (first | exact Ext.refl _ | exact ext_alloc _ _ | refine Ext.drewN ?_ _ | refine Ext.drew1 ?_ | refine Ext.set ?_ (by dsimp only; omega) _ | refine Ext.alloc ?_ _)))) HN.out).mono ?_; rintro e w' ⟨rfl, m1, rfl⟩; rw [hV1]) | (go_at_call 29; with_reducible refine (validFrame_any a2 n c2 l2 t2 p2 ys _ (Holds.ext HH2.out (by (repeat with_reducible (first | exact Ext.refl _ | exact ext_alloc _ _ | refine Ext.drewN ?_ _ | refine Ext.drew1 ?_ | refine Ext.set ?_ (by dsimp only; omega) _ | refine Ext.alloc ?_ _)))) HN.out).mono ?_; rintro e w' ⟨rfl, m2, rfl⟩; rw [hV2]) | (go_at_call 77; refine (isShare_any s _).mono ?_; rintro e w' ⟨rfl, rfl⟩; rw [hS]))
    go_returns
    refine ⟨_, rfl, zeroF_is _ _, ?_⟩
    (repeat with_reducible (first | exact Ext.refl _ | exact ext_alloc _ _ | refine Ext.drewN ?_ _ | refine Ext.drew1 ?_ | refine Ext.set ?_ (by dsimp only; omega) _ | refine Ext.alloc ?_ _))
  subst hnm
  have HE := hid (show giveF (mixC (cls .f32 s) (xs.map (cls .f32)) (ys.map (cls .f32))) (betC (cls .f32 l1) (cls .f32 l2) (cls .f32 s)) (betC (cls .f32 t1) (cls .f32 t2) (cls .f32 s)) (betC (cls .f32 p1) (cls .f32 p2) (cls .f32 s)) = R from by rw [← hR]; unfold mixF; rw [if_pos ⟨hV1, hV2, by have e2 := HL1.out; have e3 := HL2.out; simp; omega, hS⟩])
  have HMX := hid (mix_all (cls .f32 s) h1.1 h2.1)
  have K1 : 1 ≤ n := by
    have g := (frame_len hV1).1
    have g2 := h1.1
    simp at g; omega
  have HK1 := hid K1
  obtain ⟨i0, hi, hz0, hz1, hz2⟩ := info_parts infoF
  have HI := hid (And.intro hi (And.intro hz0 (And.intro hz1 hz2)))
  have hmk : ∀ wm : World, (Instr.makeSlice 34 (.int .i64 (0 : Int)) (.int .i64 (n : Int))).run Try.prog wm = .ok (.slice (some ⟨wm.heap.size, 0, none⟩) 0 n) (wm.alloc (.cells (madeCells #[.float .f32 0] n) 22)) := by
    intro wm
    have := run_make (P := Try.prog) wm 34 22 i0 (.float .f32 0) Try.underlying34 hi hz0 .i64 .i64 (0 : Int) (n : Int) (by omega) (by omega) (by rw [hz2]; omega) (by omega)
    rw [hz1] at this
    simpa [Value.cells] using this
  have HMK := hid (size_madeCells #[.float .f32 0] n)
  have HO0 : Hid (∀ wm : World, Own (wm.alloc (.cells (madeCells #[.float .f32 0] n) 22)) wm.heap.size 0 (.slice (some ⟨wm.heap.size, 0, none⟩) 0 n) []) :=
    hid (fun wm => World.ownsRow_made (e := 22) (size := 1) (base := wm.heap.size) wm (madeCells #[.float .f32 0] n) n (Nat.le_refl _) (by unfold maxLen; omega) (by rw [HMK.out]; omega))
  clear h1 h2 hn hm hR K1 hi hz0 hz1 hz2
  go_enter Try.func39, Try.ntmps39
  go_wp2_with fail
  refine (validFrame_ext _ _ _ _ _ _ xs true _ (Holds.ext HH1.out (by (repeat with_reducible (first | exact Ext.refl _ | exact ext_alloc _ _ | refine Ext.drewN ?_ _ | refine Ext.drew1 ?_ | refine Ext.set ?_ (by dsimp only; omega) _ | refine Ext.alloc ?_ _)))) HN.out hV1).mono ?_
  rintro e w1 ⟨rfl, E1⟩
  have BA1 := hid (Box.ext (Box.ext (box_new (w := w) #[.slice a1 n c1, .float .f32 l1, .float .f32 t1, .float .f32 p1] 47) (by (repeat with_reducible (first | exact Ext.refl _ | exact ext_alloc _ _ | refine Ext.drewN ?_ _ | refine Ext.drew1 ?_ | refine Ext.set ?_ (by dsimp only; omega) _ | refine Ext.alloc ?_ _)))) E1)
  have BB1 := hid (Box.cast (b' := w.heap.size + 1) (Box.ext (Box.ext (box_new (w := (w.alloc (.cells #[.slice a1 n c1, .float .f32 l1, .float .f32 t1, .float .f32 p1] 47))) #[.slice a2 n c2, .float .f32 l2, .float .f32 t2, .float .f32 p2] 47) (by (repeat with_reducible (first | exact Ext.refl _ | exact ext_alloc _ _ | refine Ext.drewN ?_ _ | refine Ext.drew1 ?_ | refine Ext.set ?_ (by dsimp only; omega) _ | refine Ext.alloc ?_ _)))) E1) (by simp))
  have BR1 := hid (Box.cast (b' := w.heap.size + 2) (Box.ext (Box.ext (box_new (w := ((w.alloc (.cells #[.slice a1 n c1, .float .f32 l1, .float .f32 t1, .float .f32 p1] 47)).alloc (.cells #[.slice a2 n c2, .float .f32 l2, .float .f32 t2, .float .f32 p2] 47))) #[.slice none 0 0, .float .f32 0, .float .f32 0, .float .f32 0] 47) (by (repeat with_reducible (first | exact Ext.refl _ | exact ext_alloc _ _ | refine Ext.drewN ?_ _ | refine Ext.drew1 ?_ | refine Ext.set ?_ (by dsimp only; omega) _ | refine Ext.alloc ?_ _)))) E1) (by simp))
  have EX1 := hid (show Ext w w1 from Ext.trans (by (repeat with_reducible (first | exact Ext.refl _ | exact ext_alloc _ _ | refine Ext.drewN ?_ _ | refine Ext.drew1 ?_ | refine Ext.set ?_ (by dsimp only; omega) _ | refine Ext.alloc ?_ _))) E1)
  have SZ1 := hid (show w.heap.size + 3 ≤ w1.heap.size from by have := Ext.size E1; simp at this; omega)
  clear E1
  obtain ⟨y0, y1, y2, y3, yl⟩ := Box.cells4 BB1.out
  go_wp2_with fail
  refine (validFrame_ext _ _ _ _ _ _ ys true _ (Holds.ext HH2.out (Ext.trans EX1.out (by (repeat with_reducible (first | exact Ext.refl _ | exact ext_alloc _ _ | refine Ext.drewN ?_ _ | refine Ext.drew1 ?_ | refine Ext.set ?_ (by dsimp only; omega) _ | refine Ext.alloc ?_ _))))) HN.out hV2).mono ?_
  rintro e w2 ⟨rfl, E2⟩
  have BA2 := hid (Box.ext BA1.out E2)
  have BB2 := hid (Box.ext BB1.out E2)
  have BR2 := hid (Box.ext BR1.out E2)
  have EX2 := hid (Ext.trans EX1.out E2)
  have SZ2 := hid (show w.heap.size + 3 ≤ w2.heap.size from by have h8 := SZ1.out; have h9 := Ext.size E2; omega)
  clear y0 y1 y2 y3 yl BA1 BB1 BR1 SZ1 E2 EX1
  obtain ⟨d0, d1, d2, d3, dl⟩ := Box.cells4 BA2.out
  obtain ⟨y0, y1, y2, y3, yl⟩ := Box.cells4 BB2.out
  go_wp2_with (go_at_call 77; refine (isShare_any s _).mono ?_; rintro e w' ⟨rfl, rfl⟩; rw [hS])
  go_loopw [8, 41] (fun v i wr => ∃ (k : Nat) (zs : List Nat), k ≤ n ∧ i = .int .i64 k ∧ Hid (Own wr w2.heap.size k v zs) ∧ Hid (zs.map (cls .f32) = mixK (cls .f32 s) xs ys k) ∧ Hid (Ext w2 wr)) (fun _ i _ => n - (intOf i).toNat)
  case atStart => exact ⟨0, [], Nat.zero_le _, rfl, hid (HO0.out w2), rfl, hid (ext_alloc _ _)⟩
  case round =>
    obtain ⟨k, zs, hk, rfl, ho, hy, he⟩ := hrel
    have hn2 : n ≤ 1048576 := HN.out
    clear hmk d0 d1 d2 d3 dl y0 y1 y2 y3 yl
    obtain ⟨d0, d1, d2, d3, dl⟩ := Box.cells4 (Box.ext BA2.out he.out)
    obtain ⟨y0, y1, y2, y3, yl⟩ := Box.cells4 (Box.ext BB2.out he.out)
    by_cases hlt : k < n
    · obtain ⟨b, off, b', off', rfl, rfl, e1, e2⟩ := two_cells (Holds.ext HH1.out (Ext.trans EX2.out he.out)) (Holds.ext HH2.out (Ext.trans EX2.out he.out)) k hlt
      have hms := hid (mix_snoc (cls .f32 s) xs ys k)
      generalize xs.getD k 0 = x at e1 hms
      generalize ys.getD k 0 = y at e2 hms
      have hi0 : (0 : Int) ≤ (k : Int) := by omega
      have hi1 : (k : Int) < (n : Int) := by omega
      go_wp2_with (first | (go_at_call 89; refine (between_any _ _ _ _ (is_self _ _) _).mono ?_; rintro e w3 ⟨r, rfl, hr, mq, rfl⟩) | (at_builtin; refine wpList_append_lies _ rfl _ _ 34 rfl w2.heap.size 22 i0 (.float .f32 0) 1 4 Try.underlying34 HI.out.1 HI.out.2.1 HI.out.2.2.1 HI.out.2.2.2 rfl (by decide) _ _ _ rfl (Own.alloc (Own.drewN ho.out _) _) ⟨wr.heap.size, 0, none⟩ 1 1 [.float .f32 r] rfl rfl (World.news_of_block (heap_alloc_new _ _)) (by intro u hu; simp at hu; subst hu; rfl) (by omega) (by have h9 := HN.out; unfold maxLen; omega) (by have h9 := HN.out; omega) (by have h8 := Ext.size he.out; simp; omega) _ rfl ?_; intro g cap w3 hown hgrow hat hlt2))
      have g1 := hid (own_snoc10 hown)
      have g2 := hid (show Ext w2 w3 from But.below hgrow (Ext.alloc (Ext.drewN he.out _) _) (fun k2 hk2 => (Own.block ho.out k2 hk2).1))
      have g3 := hid (show (zs ++ [r]).map (cls .f32) = mixK (cls .f32 s) xs ys (k + 1) from by rw [List.map_append, hy.out, hms.out]; exact congrArg (fun z => _ ++ [z]) hr)
      clear hown hgrow hat hlt2
      go_wp2
      go_roundw
      case rel => exact ⟨k + 1, zs ++ [r], by omega, by go_num, g1, g3, g2⟩
      case measure => simp [intOf]; omega
    · have hkn : k = n := by omega
      subst hkn
      obtain ⟨va, vc, rfl, _, _⟩ := Own.holds ho.out
      have BA3 := hid (Box.ext BA2.out he.out)
      have BB3 := hid (Box.ext BB2.out he.out)
      have BR3 := hid (Box.ext BR2.out he.out)
      have SZR := hid (Ext.size he.out)
      go_wp2_with fail
      go_region_held3 (fun w' => (w'.cell? ⟨w.heap.size, 1, none⟩ = some (.float .f32 l1) ∧ w'.cell? ⟨w.heap.size, 2, none⟩ = some (.float .f32 t1) ∧ w'.cell? ⟨w.heap.size, 3, none⟩ = some (.float .f32 p1)) ∧ (w'.cell? ⟨w.heap.size + 1, 1, none⟩ = some (.float .f32 l2) ∧ w'.cell? ⟨w.heap.size + 1, 2, none⟩ = some (.float .f32 t2) ∧ w'.cell? ⟨w.heap.size + 1, 3, none⟩ = some (.float .f32 p2)))
        (first | (refine keep_of (c := wr) (S := fun w' => (w'.cell? ⟨w.heap.size, 1, none⟩ = some (.float .f32 l1) ∧ w'.cell? ⟨w.heap.size, 2, none⟩ = some (.float .f32 t1) ∧ w'.cell? ⟨w.heap.size, 3, none⟩ = some (.float .f32 p1)) ∧ (w'.cell? ⟨w.heap.size + 1, 1, none⟩ = some (.float .f32 l2) ∧ w'.cell? ⟨w.heap.size + 1, 2, none⟩ = some (.float .f32 t2) ∧ w'.cell? ⟨w.heap.size + 1, 3, none⟩ = some (.float .f32 p2))) (fun u hu => ⟨⟨Box.cell (Box.ext BA3.out hu) 1, Box.cell (Box.ext BA3.out hu) 2, Box.cell (Box.ext BA3.out hu) 3⟩, ⟨Box.cell (Box.ext BB3.out hu) 1, Box.cell (Box.ext BB3.out hu) 2, Box.cell (Box.ext BB3.out hu) 3⟩⟩) ?_; (repeat with_reducible (first | exact Ext.refl _ | exact ext_alloc _ _ | refine Ext.trans ?_ E3 | refine Ext.drewN ?_ _ | refine Ext.drew1 ?_ | refine Ext.alloc ?_ _)); done) | exact ⟨⟨Box.cell (box_far4 (Box.ext (Box.ext BA3.out (show Ext wr _ from by (repeat with_reducible (first | exact Ext.refl _ | exact ext_alloc _ _ | refine Ext.drewN ?_ _ | refine Ext.drew1 ?_ | refine Ext.set ?_ (by dsimp only; omega) _ | refine Ext.alloc ?_ _)))) E3) (by omega) _ _ _ _) 1, Box.cell (box_far4 (Box.ext (Box.ext BA3.out (show Ext wr _ from by (repeat with_reducible (first | exact Ext.refl _ | exact ext_alloc _ _ | refine Ext.drewN ?_ _ | refine Ext.drew1 ?_ | refine Ext.set ?_ (by dsimp only; omega) _ | refine Ext.alloc ?_ _)))) E3) (by omega) _ _ _ _) 2, Box.cell (box_far4 (Box.ext (Box.ext BA3.out (show Ext wr _ from by (repeat with_reducible (first | exact Ext.refl _ | exact ext_alloc _ _ | refine Ext.drewN ?_ _ | refine Ext.drew1 ?_ | refine Ext.set ?_ (by dsimp only; omega) _ | refine Ext.alloc ?_ _)))) E3) (by omega) _ _ _ _) 3⟩, ⟨Box.cell (box_far4 (Box.ext (Box.ext BB3.out (show Ext wr _ from by (repeat with_reducible (first | exact Ext.refl _ | exact ext_alloc _ _ | refine Ext.drewN ?_ _ | refine Ext.drew1 ?_ | refine Ext.set ?_ (by dsimp only; omega) _ | refine Ext.alloc ?_ _)))) E3) (by omega) _ _ _ _) 1, Box.cell (box_far4 (Box.ext (Box.ext BB3.out (show Ext wr _ from by (repeat with_reducible (first | exact Ext.refl _ | exact ext_alloc _ _ | refine Ext.drewN ?_ _ | refine Ext.drew1 ?_ | refine Ext.set ?_ (by dsimp only; omega) _ | refine Ext.alloc ?_ _)))) E3) (by omega) _ _ _ _) 2, Box.cell (box_far4 (Box.ext (Box.ext BB3.out (show Ext wr _ from by (repeat with_reducible (first | exact Ext.refl _ | exact ext_alloc _ _ | refine Ext.drewN ?_ _ | refine Ext.drew1 ?_ | refine Ext.set ?_ (by dsimp only; omega) _ | refine Ext.alloc ?_ _)))) E3) (by omega) _ _ _ _) 3⟩⟩)
        (first | (go_at_call 89; with_reducible refine (between_any l1 l2 s _ (is_self _ _) _).mono ?_; rintro e wB ⟨q1, rfl, hq1, mq1, rfl⟩) | (go_at_call 89; with_reducible refine (between_any t1 t2 s _ (is_self _ _) _).mono ?_; rintro e wB ⟨q2, rfl, hq2, mq2, rfl⟩) | (go_at_call 89; with_reducible refine (between_any p1 p2 s _ (is_self _ _) _).mono ?_; rintro e wB ⟨q3, rfl, hq3, mq3, rfl⟩) | (go_at_call 85; refine (validFrameOnly_any va k vc q1 q2 q3 w2.heap.size zs _ (Own.ext ho.out (by (repeat with_reducible (first | exact Ext.refl _ | exact ext_alloc _ _ | refine Ext.drewN ?_ _ | refine Ext.drew1 ?_ | refine Ext.set ?_ (by dsimp only; omega) _ | refine Ext.alloc ?_ _)))) hn2).mono ?_; rintro e3 w3 ⟨v, rfl, hT, E3⟩; rw [hy.out, HMX.out, hq1.out, hq2.out, hq3.out, HE.out] at hT ⊢; obtain ⟨ra, rc, rl, rt, rp, rz, rfl, rO, re⟩ := hT; obtain ⟨z0, z1, z2, z3, zf0, zf1, zf2, zf3, zl⟩ := Box.all4 (Box.ext (Box.ext BR3.out (by (repeat with_reducible (first | exact Ext.refl _ | exact ext_alloc _ _ | refine Ext.drewN ?_ _ | refine Ext.drew1 ?_ | refine Ext.set ?_ (by dsimp only; omega) _ | refine Ext.alloc ?_ _)))) E3)))
      have EE3 := hid (Ext.trans EX2.out (Ext.trans he.out (show Ext wr w3 from Ext.trans (by (repeat with_reducible (first | exact Ext.refl _ | exact ext_alloc _ _ | refine Ext.drewN ?_ _ | refine Ext.drew1 ?_ | refine Ext.set ?_ (by dsimp only; omega) _ | refine Ext.alloc ?_ _))) E3)))
      have HX := hid (Box.ext (Box.ext BR3.out (show Ext wr _ from by (repeat with_reducible (first | exact Ext.refl _ | exact ext_alloc _ _ | refine Ext.drewN ?_ _ | refine Ext.drew1 ?_ | refine Ext.set ?_ (by dsimp only; omega) _ | refine Ext.alloc ?_ _)))) E3)
      have HT := hid (show FrameIs w3 w2.heap.size R (.agg #[.slice ra R.cs.length rc, .float .f32 rl, .float .f32 rt, .float .f32 rp]) from ⟨ra, rc, rl, rt, rp, rz, rfl, rO, re⟩)
      clear rO re
      go_wp2_with fail
      clear z0 z1 z2 z3 zf0 zf1 zf2 zf3 zl
      refine bodyPost_ret (ret_cell2 Try.results39 rfl (box_set4 HX.out _ _ _ _) Try.underlying47 infoFr) rfl ?_
      exact ⟨_, rfl, FrameIs.base (FrameIs.far4 HT.out (by have := SZ2.out; omega) _ _ _ _) (by have := SZ2.out; omega), ext_set4 EE3.out (by omega) _ _ _ _⟩

set_option maxHeartbeats 4000000 in
set_option maxRecDepth 100000 in
theorem sMixF_any (a1 a2 : Option Addr) (n m c1 c2 l1 t1 p1 l2 t2 p2 s : Nat) (xs ys : List Nat) (R : FR) (w : World) (h1 : Holds .f32 w a1 n xs) (h2 : Holds .f32 w a2 m ys) (hn : n ≤ 1048576) (hm : m ≤ 1048576) (hR : mixF (xs.map (cls .f32)) (cls .f32 l1) (cls .f32 t1) (cls .f32 p1) (ys.map (cls .f32)) (cls .f32 l2) (cls .f32 t2) (cls .f32 p2) (cls .f32 s) = R) :
    Calls Try.prog 38 #[.agg #[.slice a1 n c1, .float .f32 l1, .float .f32 t1, .float .f32 p1], .agg #[.slice a2 m c2, .float .f32 l2, .float .f32 t2, .float .f32 p2], .float .f32 s] w fun e w' => ∃ v, e = .returned (.tuple #[v, .bool R.ok]) ∧ FrameIs w' w.heap.size R v ∧ Ext w w' := by
  have HH1 := hid h1
  have HH2 := hid h2
  have HN := hid hn
  have HM := hid hm
  have HL1 := hid h1.1
  have HL2 := hid h2.1
  cases hV1 : frameC (xs.map (cls .f32)) (cls .f32 l1) (cls .f32 t1) (cls .f32 p1)
  · have e : R = zeroF := by rw [← hR]; unfold mixF; rw [if_neg (by simp [hV1])]
    subst e
    clear h1 h2 hn hm hR
    go_enter Try.func38, Try.ntmps38
    go_wp2_with (go_at_call 78; with_reducible refine (l06Frame_any _ a1 n c1 l1 t1 p1 xs _ (Box.ext (box_new (w := w) #[.slice a1 n c1, .float .f32 l1, .float .f32 t1, .float .f32 p1] 47) (by (repeat with_reducible (first | exact Ext.refl _ | exact ext_alloc _ _ | refine Ext.drewN ?_ _ | refine Ext.drew1 ?_ | refine Ext.set ?_ (by dsimp only; omega) _ | refine Ext.alloc ?_ _)))) (Holds.ext HH1.out (by (repeat with_reducible (first | exact Ext.refl _ | exact ext_alloc _ _ | refine Ext.drewN ?_ _ | refine Ext.drew1 ?_ | refine Ext.set ?_ (by dsimp only; omega) _ | refine Ext.alloc ?_ _)))) HN.out).mono ?_; rintro e w' ⟨rfl, m1, rfl⟩; rw [hV1])
    go_returns
    refine ⟨_, rfl, zeroF_is _ _, ?_⟩
    (repeat with_reducible (first | exact Ext.refl _ | exact ext_alloc _ _ | refine Ext.drewN ?_ _ | refine Ext.drew1 ?_ | refine Ext.set ?_ (by dsimp only; omega) _ | refine Ext.alloc ?_ _))
  cases hV2 : frameC (ys.map (cls .f32)) (cls .f32 l2) (cls .f32 t2) (cls .f32 p2)
  · have e : R = zeroF := by rw [← hR]; unfold mixF; rw [if_neg (by simp [hV2])]
    subst e
    clear h1 h2 hn hm hR
    go_enter Try.func38, Try.ntmps38
    go_wp2_with (first | (go_at_call 78; with_reducible refine (l06Frame_any _ a1 n c1 l1 t1 p1 xs _ (Box.ext (box_new (w := w) #[.slice a1 n c1, .float .f32 l1, .float .f32 t1, .float .f32 p1] 47) (by (repeat with_reducible (first | exact Ext.refl _ | exact ext_alloc _ _ | refine Ext.drewN ?_ _ | refine Ext.drew1 ?_ | refine Ext.set ?_ (by dsimp only; omega) _ | refine Ext.alloc ?_ _)))) (Holds.ext HH1.out (by (repeat with_reducible (first | exact Ext.refl _ | exact ext_alloc _ _ | refine Ext.drewN ?_ _ | refine Ext.drew1 ?_ | refine Ext.set ?_ (by dsimp only; omega) _ | refine Ext.alloc ?_ _)))) HN.out).mono ?_; rintro e w' ⟨rfl, m1, rfl⟩; rw [hV1]) | (go_at_call 78; with_reducible refine (l06Frame_any _ a2 m c2 l2 t2 p2 ys _ (Box.cast (b' := w.heap.size + 1) (Box.ext (box_new (w := (w.alloc (.cells #[.slice a1 n c1, .float .f32 l1, .float .f32 t1, .float .f32 p1] 47))) #[.slice a2 m c2, .float .f32 l2, .float .f32 t2, .float .f32 p2] 47) (by (repeat with_reducible (first | exact Ext.refl _ | exact ext_alloc _ _ | refine Ext.drewN ?_ _ | refine Ext.drew1 ?_ | refine Ext.set ?_ (by dsimp only; omega) _ | refine Ext.alloc ?_ _)))) (by simp)) (Holds.ext HH2.out (by (repeat with_reducible (first | exact Ext.refl _ | exact ext_alloc _ _ | refine Ext.drewN ?_ _ | refine Ext.drew1 ?_ | refine Ext.set ?_ (by dsimp only; omega) _ | refine Ext.alloc ?_ _)))) HM.out).mono ?_; rintro e w' ⟨rfl, m2, rfl⟩; rw [hV2]))
    go_returns
    refine ⟨_, rfl, zeroF_is _ _, ?_⟩
    (repeat with_reducible (first | exact Ext.refl _ | exact ext_alloc _ _ | refine Ext.drewN ?_ _ | refine Ext.drew1 ?_ | refine Ext.set ?_ (by dsimp only; omega) _ | refine Ext.alloc ?_ _))
  by_cases hnm : n = m
  rotate_left
  · have e : R = zeroF := by rw [← hR]; unfold mixF; rw [if_neg (by intro h; have e1 := h.2.2.1; have e2 := HL1.out; have e3 := HL2.out; simp at e1; omega)]
    subst e
    clear h1 h2 hn hm hR
    have hz : ¬ ((n : Int) = (m : Int)) := by omega
    go_enter Try.func38, Try.ntmps38
    go_wp2_with (first | (go_at_call 78; with_reducible refine (l06Frame_any _ a1 n c1 l1 t1 p1 xs _ (Box.ext (box_new (w := w) #[.slice a1 n c1, .float .f32 l1, .float .f32 t1, .float .f32 p1] 47) (by (repeat with_reducible (first | exact Ext.refl _ | exact ext_alloc _ _ | refine Ext.drewN ?_ _ | refine Ext.drew1 ?_ | refine Ext.set ?_ (by dsimp only; omega) _ | refine Ext.alloc ?_ _)))) (Holds.ext HH1.out (by (repeat with_reducible (first | exact Ext.refl _ | exact ext_alloc _ _ | refine Ext.drewN ?_ _ | refine Ext.drew1 ?_ | refine Ext.set ?_ (by dsimp only; omega) _ | refine Ext.alloc ?_ _)))) HN.out).mono ?_; rintro e w' ⟨rfl, m1, rfl⟩; rw [hV1]) | (go_at_call 78; with_reducible refine (l06Frame_any _ a2 m c2 l2 t2 p2 ys _ (Box.cast (b' := w.heap.size + 1) (Box.ext (box_new (w := (w.alloc (.cells #[.slice a1 n c1, .float .f32 l1, .float .f32 t1, .float .f32 p1] 47))) #[.slice a2 m c2, .float .f32 l2, .float .f32 t2, .float .f32 p2] 47) (by (repeat with_reducible (first | exact Ext.refl _ | exact ext_alloc _ _ | refine Ext.drewN ?_ _ | refine Ext.drew1 ?_ | refine Ext.set ?_ (by dsimp only; omega) _ | refine Ext.alloc ?_ _)))) (by simp)) (Holds.ext HH2.out (by (repeat with_reducible (first | exact Ext.refl _ | exact ext_alloc _ _ | refine Ext.drewN ?_ _ | refine Ext.drew1 ?_ | refine Ext.set ?_ (by dsimp only; omega) _ | refine Ext.alloc ?_ _)))) HM.out).mono ?_; rintro e w' ⟨rfl, m2, rfl⟩; rw [hV2]))
    go_returns
    refine ⟨_, rfl, zeroF_is _ _, ?_⟩
    (repeat with_reducible (first | exact Ext.refl _ | exact ext_alloc _ _ | refine Ext.drewN ?_ _ | refine Ext.drew1 ?_ | refine Ext.set ?_ (by dsimp only; omega) _ | refine Ext.alloc ?_ _))
  cases hS : shareC (cls .f32 s)
  · have e : R = zeroF := by rw [← hR]; unfold mixF; rw [if_neg (by simp [hS])]
    subst e
    clear h1 h2 hn hm hR
    subst hnm
    go_enter Try.func38, Try.ntmps38
    go_wp2_with (first | (go_at_call 78; with_reducible refine (l06Frame_any _ a1 n c1 l1 t1 p1 xs _ (Box.ext (box_new (w := w) #[.slice a1 n c1, .float .f32 l1, .float .f32 t1, .float .f32 p1] 47) (by (repeat with_reducible (first | exact Ext.refl _ | exact ext_alloc _ _ | refine Ext.drewN ?_ _ | refine Ext.drew1 ?_ | refine Ext.set ?_ (by dsimp only; omega) _ | refine Ext.alloc ?_ _)))) (Holds.ext HH1.out (by (repeat with_reducible (first | exact Ext.refl _ | exact ext_alloc _ _ | refine Ext.drewN ?_ _ | refine Ext.drew1 ?_ | refine Ext.set ?_ (by dsimp only; omega) _ | refine Ext.alloc ?_ _)))) HN.out).mono ?_; rintro e w' ⟨rfl, m1, rfl⟩; rw [hV1]) | (go_at_call 78; with_reducible refine (l06Frame_any _ a2 n c2 l2 t2 p2 ys _ (Box.cast (b' := w.heap.size + 1) (Box.ext (box_new (w := (w.alloc (.cells #[.slice a1 n c1, .float .f32 l1, .float .f32 t1, .float .f32 p1] 47))) #[.slice a2 n c2, .float .f32 l2, .float .f32 t2, .float .f32 p2] 47) (by (repeat with_reducible (first | exact Ext.refl _ | exact ext_alloc _ _ | refine Ext.drewN ?_ _ | refine Ext.drew1 ?_ | refine Ext.set ?_ (by dsimp only; omega) _ | refine Ext.alloc ?_ _)))) (by simp)) (Holds.ext HH2.out (by (repeat with_reducible (first | exact Ext.refl _ | exact ext_alloc _ _ | refine Ext.drewN ?_ _ | refine Ext.drew1 ?_ | refine Ext.set ?_ (by dsimp only; omega) _ | refine Ext.alloc ?_ _)))) HN.out).mono ?_; rintro e w' ⟨rfl, m2, rfl⟩; rw [hV2]) | (go_at_call 87; refine (l02Share_any s _).mono ?_; rintro e w' ⟨rfl, rfl⟩; rw [hS]))
    go_returns
    refine ⟨_, rfl, zeroF_is _ _, ?_⟩
    (repeat with_reducible (first | exact Ext.refl _ | exact ext_alloc _ _ | refine Ext.drewN ?_ _ | refine Ext.drew1 ?_ | refine Ext.set ?_ (by dsimp only; omega) _ | refine Ext.alloc ?_ _))
  subst hnm
  have HE := hid (show giveF (mixC (cls .f32 s) (xs.map (cls .f32)) (ys.map (cls .f32))) (betC (cls .f32 l1) (cls .f32 l2) (cls .f32 s)) (betC (cls .f32 t1) (cls .f32 t2) (cls .f32 s)) (betC (cls .f32 p1) (cls .f32 p2) (cls .f32 s)) = R from by rw [← hR]; unfold mixF; rw [if_pos ⟨hV1, hV2, by have e2 := HL1.out; have e3 := HL2.out; simp; omega, hS⟩])
  have HMX := hid (mix_all (cls .f32 s) h1.1 h2.1)
  have K1 : 1 ≤ n := by
    have g := (frame_len hV1).1
    have g2 := h1.1
    simp at g; omega
  have HK1 := hid K1
  obtain ⟨i0, hi, hz0, hz1, hz2⟩ := info_parts infoF
  have HI := hid (And.intro hi (And.intro hz0 (And.intro hz1 hz2)))
  clear h1 h2 hn hm hR K1 hi hz0 hz1 hz2
  go_enter Try.func38, Try.ntmps38
  go_wp2_with fail
  refine (l06Frame_ext _ _ _ _ _ _ _ xs true _ (Box.ext (box_new (w := w) #[.slice a1 n c1, .float .f32 l1, .float .f32 t1, .float .f32 p1] 47) (by (repeat with_reducible (first | exact Ext.refl _ | exact ext_alloc _ _ | refine Ext.drewN ?_ _ | refine Ext.drew1 ?_ | refine Ext.set ?_ (by dsimp only; omega) _ | refine Ext.alloc ?_ _)))) (Holds.ext HH1.out (by (repeat with_reducible (first | exact Ext.refl _ | exact ext_alloc _ _ | refine Ext.drewN ?_ _ | refine Ext.drew1 ?_ | refine Ext.set ?_ (by dsimp only; omega) _ | refine Ext.alloc ?_ _)))) HN.out hV1).mono ?_
  rintro e w1 ⟨rfl, E1⟩
  have BA1 := hid (Box.ext (Box.ext (box_new (w := w) #[.slice a1 n c1, .float .f32 l1, .float .f32 t1, .float .f32 p1] 47) (by (repeat with_reducible (first | exact Ext.refl _ | exact ext_alloc _ _ | refine Ext.drewN ?_ _ | refine Ext.drew1 ?_ | refine Ext.set ?_ (by dsimp only; omega) _ | refine Ext.alloc ?_ _)))) E1)
  have BB1 := hid (Box.cast (b' := w.heap.size + 1) (Box.ext (Box.ext (box_new (w := (w.alloc (.cells #[.slice a1 n c1, .float .f32 l1, .float .f32 t1, .float .f32 p1] 47))) #[.slice a2 n c2, .float .f32 l2, .float .f32 t2, .float .f32 p2] 47) (by (repeat with_reducible (first | exact Ext.refl _ | exact ext_alloc _ _ | refine Ext.drewN ?_ _ | refine Ext.drew1 ?_ | refine Ext.set ?_ (by dsimp only; omega) _ | refine Ext.alloc ?_ _)))) E1) (by simp))
  have BR1 := hid (Box.cast (b' := w.heap.size + 2) (Box.ext (Box.ext (box_new (w := ((w.alloc (.cells #[.slice a1 n c1, .float .f32 l1, .float .f32 t1, .float .f32 p1] 47)).alloc (.cells #[.slice a2 n c2, .float .f32 l2, .float .f32 t2, .float .f32 p2] 47))) #[.slice none 0 0, .float .f32 0, .float .f32 0, .float .f32 0] 47) (by (repeat with_reducible (first | exact Ext.refl _ | exact ext_alloc _ _ | refine Ext.drewN ?_ _ | refine Ext.drew1 ?_ | refine Ext.set ?_ (by dsimp only; omega) _ | refine Ext.alloc ?_ _)))) E1) (by simp))
  have EX1 := hid (show Ext w w1 from Ext.trans (by (repeat with_reducible (first | exact Ext.refl _ | exact ext_alloc _ _ | refine Ext.drewN ?_ _ | refine Ext.drew1 ?_ | refine Ext.set ?_ (by dsimp only; omega) _ | refine Ext.alloc ?_ _))) E1)
  have SZ1 := hid (show w.heap.size + 3 ≤ w1.heap.size from by have := Ext.size E1; simp at this; omega)
  clear E1
  obtain ⟨y0, y1, y2, y3, yl⟩ := Box.cells4 BB1.out
  go_wp2_with fail
  refine (l06Frame_ext _ _ _ _ _ _ _ ys true _ BB1.out (Holds.ext HH2.out EX1.out) HN.out hV2).mono ?_
  rintro e w2 ⟨rfl, E2⟩
  have BA2 := hid (Box.ext BA1.out E2)
  have BB2 := hid (Box.ext BB1.out E2)
  have BR2 := hid (Box.ext BR1.out E2)
  have EX2 := hid (Ext.trans EX1.out E2)
  have SZ2 := hid (show w.heap.size + 3 ≤ w2.heap.size from by have h8 := SZ1.out; have h9 := Ext.size E2; omega)
  clear y0 y1 y2 y3 yl BA1 BB1 BR1 SZ1 E2 EX1
  obtain ⟨d0, d1, d2, d3, dl⟩ := Box.cells4 BA2.out
  obtain ⟨y0, y1, y2, y3, yl⟩ := Box.cells4 BB2.out
  go_wp2_with (go_at_call 87; refine (l02Share_any s _).mono ?_; rintro e w' ⟨rfl, rfl⟩; rw [hS])
  refine (l06Mix_any _ _ a1 a2 n c1 c2 l1 t1 p1 l2 t2 p2 s xs ys _ BA2.out BB2.out (Holds.ext HH1.out EX2.out) (Holds.ext HH2.out EX2.out) HN.out HK1.out).mono ?_
  rintro e3 w3 ⟨b3, c3, q1, q2, q3, zs, rfl, O3, hz, hq1, hq2, hq3, E3⟩
  have HQ := hid (show giveF (zs.map (cls .f32)) (cls .f32 q1) (cls .f32 q2) (cls .f32 q3) = R from by rw [hz, hq1.out, hq2.out, hq3.out]; exact HE.out)
  have BR3 := hid (Box.ext BR2.out E3)
  have EX3 := hid (Ext.trans EX2.out E3)
  have HO3 := hid O3
  clear d0 d1 d2 d3 dl y0 y1 y2 y3 yl O3 E3 hz hq1 hq2 hq3 BA2 BB2 BR2
  go_wp2_with fail
  refine (l06GiveFrame_any _ _ _ _ _ _ _ zs _ HO3.out HN.out).mono ?_
  rintro e5 w5 ⟨v, rfl, hT, E5⟩
  rw [HQ.out] at hT ⊢
  have EE5 := hid (Ext.trans EX3.out E5)
  have HX := hid (Box.ext BR3.out E5)
  obtain ⟨ra, rc, rl, rt, rp, rz, rfl, rO, re⟩ := hT
  have HT := hid (show FrameIs w5 w2.heap.size R (.agg #[.slice ra R.cs.length rc, .float .f32 rl, .float .f32 rt, .float .f32 rp]) from ⟨ra, rc, rl, rt, rp, rz, rfl, rO, re⟩)
  clear rO re
  obtain ⟨z0, z1, z2, z3, zf0, zf1, zf2, zf3, zl⟩ := Box.all4 HX.out
  go_wp2_with fail
  clear z0 z1 z2 z3 zf0 zf1 zf2 zf3 zl
  refine bodyPost_ret (ret_cell2 Try.results38 rfl (box_set4 HX.out _ _ _ _) Try.underlying47 infoFr) rfl ?_
  exact ⟨_, rfl, FrameIs.base (FrameIs.far4 HT.out (by have := SZ2.out; omega) _ _ _ _) (by have := SZ2.out; omega), ext_set4 EE5.out (by omega) _ _ _ _⟩

end Go.Proofs.Ythinjgiakaflpaa
