/- Mixed tubes. -/
import Derived.Test.YtnmigjiaeahekaaT10
import Derived.Test.YtnmigjiaeahekaaTail2
import Derived.Test.YtnmigjiaeahekaaT19
import Derived.Test.YtnmigjiaeahekaaT17
namespace Go.Proofs.Ytnmigjiaeahekaa
open Go.RowKit Flt
set_option linter.unusedVariables false

theorem product_comm (x y : Ieee.Datum) : x.product y = y.product x := by
  cases x <;> cases y <;> simp [Ieee.Datum.product, Nat.mul_comm, Int.add_comm, bne_comm]
theorem fop_mul_comm (k : FloatKind) (x y : Option Nat) : fop .mul k x y = fop .mul k y x := by
  cases x with
  | none => cases y <;> rfl
  | some a =>
    cases y with
    | none => rfl
    | some b =>
      show ((k.format.read a).product (k.format.read b)).map k.format.write = ((k.format.read b).product (k.format.read a)).map k.format.write
      rw [product_comm]
def mixC (S : Option Nat) (cs ds : List (Option Nat)) : List (Option Nat) := (List.range cs.length).map fun q => betC (cs.getD q none) (ds.getD q none) S
def mixK (S : Option Nat) (xs ys : List Nat) (k : Nat) : List (Option Nat) := (List.range k).map fun q => betC (cls .f32 (xs.getD q 0)) (cls .f32 (ys.getD q 0)) S
theorem mix_snoc (S : Option Nat) (xs ys : List Nat) (k : Nat) : mixK S xs ys (k + 1) = mixK S xs ys k ++ [betC (cls .f32 (xs.getD k 0)) (cls .f32 (ys.getD k 0)) S] := by simp [mixK, List.range_succ]
theorem mix_all (S : Option Nat) {xs ys : List Nat} {n : Nat} (h1 : xs.length = n) (h2 : ys.length = n) : mixK S xs ys n = mixC S (xs.map (cls .f32)) (ys.map (cls .f32)) := by
  unfold mixK mixC
  simp only [List.length_map, h1]
  apply List.map_congr_left
  intro q hq
  have hq' : q < n := by simpa using hq
  simp [List.getD, show q < xs.length by omega, show q < ys.length by omega]
def mixT (cs : List (Option Nat)) (l t p : Option Nat) (ds : List (Option Nat)) (l2 t2 p2 S : Option Nat) : TR :=
  if tubeC cs l t p = true ∧ tubeC ds l2 t2 p2 = true ∧ cs.length = ds.length ∧ shareC S = true then giveT (mixC S cs ds) l t p else zeroT
theorem mix_len (cs : List (Option Nat)) (l t p : Option Nat) (ds : List (Option Nat)) (l2 t2 p2 S : Option Nat) : (mixT cs l t p ds l2 t2 p2 S).cs.length ≤ 16 := by
  unfold mixT
  split
  · exact give_len _ _ _ _
  · exact Nat.zero_le _
set_option maxHeartbeats 1000000 in
set_option maxRecDepth 100000 in
theorem l02Mix_any (a1 a2 : Option Addr) (n c1 c2 s : Nat) (xs ys : List Nat) (w : World) (h1 : Holds .f32 w a1 n xs) (h2 : Holds .f32 w a2 n ys) (hn : n ≤ 1048576) :
    Calls Try.prog 71 #[.slice a1 n c1, .slice a2 n c2, .float .f32 s] w fun e w' => ∃ b c' zs, e = .returned (.slice b n c') ∧ Own w' w.heap.size n (.slice b n c') zs ∧ zs.map (cls .f32) = mixC (cls .f32 s) (xs.map (cls .f32)) (ys.map (cls .f32)) ∧ Ext w w' := by
  obtain ⟨i0, hi, hz0, hz1, hz2⟩ := info_parts infoF
  have HI := hid (And.intro hi (And.intro hz0 (And.intro hz1 hz2)))
  have HN := hid hn
  have HS := hid (Nat.le_refl w.heap.size)
  have HM := hid (mix_all (cls .f32 s) h1.1 h2.1)
  have hcell : ∀ wr, Ext w wr → ∀ k, k < n → ∃ b off b' off', a1 = some ⟨b, off, none⟩ ∧ a2 = some ⟨b', off', none⟩ ∧ wr.cell? ⟨b, off + k, none⟩ = some (.float .f32 (xs.getD k 0)) ∧ wr.cell? ⟨b', off' + k, none⟩ = some (.float .f32 (ys.getD k 0)) := by
    intro wr e k hk
    rcases h1.2 with h0 | ⟨b, off, rfl, hb, hc⟩
    · omega
    · rcases h2.2 with h0 | ⟨b', off', rfl, hb', hc'⟩
      · omega
      · exact ⟨b, off, b', off', rfl, rfl, (Below.cell e (p := ⟨b, off + k, none⟩) hb).trans (hc k hk), (Below.cell e (p := ⟨b', off' + k, none⟩) hb').trans (hc' k hk)⟩
  have HC := hid hcell
  clear hi hz0 hz1 hz2 h1 h2 hn hcell
  go_enter Try.func71, Try.ntmps71
  go_wp2
  go_loopw [7, 8] (fun v i wr => ∃ (k : Nat) (zs : List Nat), k ≤ n ∧ i = .int .i64 k ∧ Hid (Own wr w.heap.size k v zs) ∧ Hid (zs.map (cls .f32) = mixK (cls .f32 s) xs ys k) ∧ Hid (Ext w wr)) (fun _ i _ => n - (intOf i).toNat)
  case atStart => exact ⟨0, [], Nat.zero_le _, rfl, hid (own_fresh (cs := #[]) (zs := []) (hid rfl) rfl rfl (Nat.le_refl _) (Nat.zero_le _)), rfl, hid (ext_alloc _ _)⟩
  case round =>
    obtain ⟨k, zs, hk, rfl, ho, hy, he⟩ := hrel
    have hn2 : n ≤ 1048576 := HN.out
    by_cases hlt : k < n
    · obtain ⟨b, off, b', off', rfl, rfl, e1, e2⟩ := HC.out _ he.out k hlt
      have hms := hid (mix_snoc (cls .f32 s) xs ys k)
      generalize xs.getD k 0 = x at e1 hms
      generalize ys.getD k 0 = y at e2 hms
      have hi0 : (0 : Int) ≤ (k : Int) := by omega
      have hi1 : (k : Int) < (n : Int) := by omega
      go_wp2_with fail
      refine wp_region_move_tail 17 (by kernel_rfl) (by kernel_rfl) (by kernel_rfl) (fun _ _ _ h => h) (Or.inl ⟨by rfl, fun w => by simp [execOp]; rfl⟩) ?_
      simp only [List.take_succ_cons, List.take_zero, List.drop_succ_cons, List.drop_zero]
      repeat (first | (refine wpM_mult0 rfl rfl ?_; refine mult_farith rfl rfl rfl rfl ?_; intro r hr hrw; try replace hr := hid hr.out) | (refine wpM_quiet rfl (fun K hK => ?_); go_simp; refine hK _ ?_; clear hK K))
      refine wpM_nil ?_
      intro w3 hw3
      obtain ⟨nq, hw3⟩ := hw3
      subst hw3
      rename_i r1 hrw1 hr1 r2 hrw2 hr2
      have hcl := hid (show cls .f32 r = betC (cls .f32 x) (cls .f32 y) (cls .f32 s) from by
        unfold betC
        rw [hr.out, hr2.out, hr1.out, fop_mul_comm])
      go_wp2_with (first | (at_builtin; refine wpList_append_lies _ rfl _ _ 22 rfl w.heap.size 23 i0 (.float .f32 0) 1 4 Try.underlying22 HI.out.1 HI.out.2.1 HI.out.2.2.1 HI.out.2.2.2 rfl (by decide) _ _ _ rfl (Own.alloc (Own.drewN ho.out _) _) ⟨wr.heap.size, 0, none⟩ 1 1 [.float .f32 r] rfl rfl (World.news_of_block (heap_alloc_new _ _)) (by intro u hu; simp at hu; subst hu; rfl) (by omega) (by have h9 := HN.out; unfold maxLen; omega) (by have h9 := HN.out; omega) (by have h8 := HS.out; have h7 := Ext.size he.out; simp; omega) _ rfl ?_; intro g cap w1 hown hgrow hat hlt2))
      have g1 := hid (own_snoc10 hown)
      have g2 := hid (show Ext w w1 from But.below hgrow (Ext.alloc (Ext.drewN he.out _) _) (fun k2 hk2 => (Own.block ho.out k2 hk2).1))
      have g3 := hid (show (zs ++ [r]).map (cls .f32) = mixK (cls .f32 s) xs ys (k + 1) from by rw [List.map_append, hy.out, hms.out]; exact congrArg (fun z => _ ++ [z]) hcl.out)
      clear hown hgrow hat hlt2
      go_wp2
      go_roundw
      case rel => exact ⟨k + 1, zs ++ [r], by omega, by go_num, g1, g3, g2⟩
      case measure => simp [intOf]; omega
    · have hkn : k = n := by omega
      subst hkn
      go_wp2
      go_ret
      obtain ⟨b, c', e1, _⟩ := Own.holds ho.out
      refine ⟨b, c', zs, by rw [← e1]; rfl, by rw [← e1]; exact ho.out, by rw [hy.out, HM.out], he.out⟩
set_option maxHeartbeats 2000000 in
set_option maxRecDepth 100000 in
theorem mix_any (a1 a2 : Option Addr) (n m c1 c2 l1 t1 p1 l2 t2 p2 s : Nat) (xs ys : List Nat) (R : TR) (w : World) (h1 : Holds .f32 w a1 n xs) (h2 : Holds .f32 w a2 m ys) (hn : n ≤ 1048576) (hm : m ≤ 1048576) (hR : mixT (xs.map (cls .f32)) (cls .f32 l1) (cls .f32 t1) (cls .f32 p1) (ys.map (cls .f32)) (cls .f32 l2) (cls .f32 t2) (cls .f32 p2) (cls .f32 s) = R) :
    Calls Try.prog 27 #[.agg #[.slice a1 n c1, .float .f32 l1, .float .f32 t1, .float .f32 p1], .agg #[.slice a2 m c2, .float .f32 l2, .float .f32 t2, .float .f32 p2], .float .f32 s] w fun e w' => ∃ v, e = .returned (.tuple #[v, .bool R.ok]) ∧ TubeIs w' w.heap.size R v ∧ Ext w w' := by
  have HH1 := hid h1
  have HH2 := hid h2
  have HN := hid hn
  have HM := hid hm
  have HL1 := hid h1.1
  have HL2 := hid h2.1
  cases hV1 : tubeC (xs.map (cls .f32)) (cls .f32 l1) (cls .f32 t1) (cls .f32 p1)
  · have e : R = zeroT := by rw [← hR]; unfold mixT; rw [if_neg (by simp [hV1])]
    subst e
    clear h1 h2 hn hm hR
    go_enter Try.func27, Try.ntmps27
    go_wp2_with fail
    refine (validTube_any _ _ _ _ _ _ xs _ (Holds.ext HH1.out (by (repeat with_reducible (first | exact Ext.refl _ | exact ext_alloc _ _ | refine Ext.drewN ?_ _ | refine Ext.drew1 ?_ | refine Ext.set ?_ (by dsimp only; omega) _ | refine Ext.alloc ?_ _)))) HN.out).mono ?_
    rintro e w1 ⟨rfl, m1, rfl⟩
    simp only [hV1]
    go_wp2_with fail
    go_returns
    refine ⟨_, rfl, zero_is _ _, ?_⟩
    (repeat with_reducible (first | exact Ext.refl _ | exact ext_alloc _ _ | refine Ext.drewN ?_ _ | refine Ext.drew1 ?_ | refine Ext.set ?_ (by dsimp only; omega) _ | refine Ext.alloc ?_ _))
  cases hV2 : tubeC (ys.map (cls .f32)) (cls .f32 l2) (cls .f32 t2) (cls .f32 p2)
  · have e : R = zeroT := by rw [← hR]; unfold mixT; rw [if_neg (by simp [hV2])]
    subst e
    clear h1 h2 hn hm hR
    go_enter Try.func27, Try.ntmps27
    go_wp2_with fail
    refine (validTube_any _ _ _ _ _ _ xs _ (Holds.ext HH1.out (by (repeat with_reducible (first | exact Ext.refl _ | exact ext_alloc _ _ | refine Ext.drewN ?_ _ | refine Ext.drew1 ?_ | refine Ext.set ?_ (by dsimp only; omega) _ | refine Ext.alloc ?_ _)))) HN.out).mono ?_
    rintro e w1 ⟨rfl, m1, rfl⟩
    simp only [hV1]
    go_wp2_with fail
    refine (validTube_any _ _ _ _ _ _ ys _ (Holds.ext HH2.out (by (repeat with_reducible (first | exact Ext.refl _ | exact ext_alloc _ _ | refine Ext.drewN ?_ _ | refine Ext.drew1 ?_ | refine Ext.set ?_ (by dsimp only; omega) _ | refine Ext.alloc ?_ _)))) HM.out).mono ?_
    rintro e w1 ⟨rfl, m2, rfl⟩
    simp only [hV2]
    go_wp2_with fail
    go_returns
    refine ⟨_, rfl, zero_is _ _, ?_⟩
    (repeat with_reducible (first | exact Ext.refl _ | exact ext_alloc _ _ | refine Ext.drewN ?_ _ | refine Ext.drew1 ?_ | refine Ext.set ?_ (by dsimp only; omega) _ | refine Ext.alloc ?_ _))
  by_cases hnm : n = m
  rotate_left
  · have e : R = zeroT := by rw [← hR]; unfold mixT; rw [if_neg (by intro h; have e1 := h.2.2.1; have e2 := HL1.out; have e3 := HL2.out; simp at e1; omega)]
    subst e
    clear h1 h2 hn hm hR
    have hz : ¬ ((n : Int) = (m : Int)) := by omega
    go_enter Try.func27, Try.ntmps27
    go_wp2_with fail
    refine (validTube_any _ _ _ _ _ _ xs _ (Holds.ext HH1.out (by (repeat with_reducible (first | exact Ext.refl _ | exact ext_alloc _ _ | refine Ext.drewN ?_ _ | refine Ext.drew1 ?_ | refine Ext.set ?_ (by dsimp only; omega) _ | refine Ext.alloc ?_ _)))) HN.out).mono ?_
    rintro e w1 ⟨rfl, m1, rfl⟩
    simp only [hV1]
    go_wp2_with fail
    refine (validTube_any _ _ _ _ _ _ ys _ (Holds.ext HH2.out (by (repeat with_reducible (first | exact Ext.refl _ | exact ext_alloc _ _ | refine Ext.drewN ?_ _ | refine Ext.drew1 ?_ | refine Ext.set ?_ (by dsimp only; omega) _ | refine Ext.alloc ?_ _)))) HM.out).mono ?_
    rintro e w1 ⟨rfl, m2, rfl⟩
    simp only [hV2]
    go_wp2_with fail
    go_returns
    refine ⟨_, rfl, zero_is _ _, ?_⟩
    (repeat with_reducible (first | exact Ext.refl _ | exact ext_alloc _ _ | refine Ext.drewN ?_ _ | refine Ext.drew1 ?_ | refine Ext.set ?_ (by dsimp only; omega) _ | refine Ext.alloc ?_ _))
  cases hge : fcmp .geq (ford .f32 (cls .f32 s) (some 0))
  · have e : R = zeroT := by rw [← hR]; unfold mixT; rw [if_neg (by unfold shareC; simp [hge])]
    subst e
    clear h1 h2 hn hm hR
    subst hnm
    go_enter Try.func27, Try.ntmps27
    go_wp2_with fail
    refine (validTube_any _ _ _ _ _ _ xs _ (Holds.ext HH1.out (by (repeat with_reducible (first | exact Ext.refl _ | exact ext_alloc _ _ | refine Ext.drewN ?_ _ | refine Ext.drew1 ?_ | refine Ext.set ?_ (by dsimp only; omega) _ | refine Ext.alloc ?_ _)))) HN.out).mono ?_
    rintro e w1 ⟨rfl, m1, rfl⟩
    simp only [hV1]
    go_wp2_with fail
    refine (validTube_any _ _ _ _ _ _ ys _ (Holds.ext HH2.out (by (repeat with_reducible (first | exact Ext.refl _ | exact ext_alloc _ _ | refine Ext.drewN ?_ _ | refine Ext.drew1 ?_ | refine Ext.set ?_ (by dsimp only; omega) _ | refine Ext.alloc ?_ _)))) HM.out).mono ?_
    rintro e w1 ⟨rfl, m2, rfl⟩
    simp only [hV2]
    go_wp2_with (refine wpList_fcmp rfl rfl rfl rfl rfl (by first | exact is_const (by decide) | exact is_self _ _) (by first | exact is_const (by decide) | exact is_self _ _) ?_; try simp only [hge])
    go_returns
    refine ⟨_, rfl, zero_is _ _, ?_⟩
    (repeat with_reducible (first | exact Ext.refl _ | exact ext_alloc _ _ | refine Ext.drewN ?_ _ | refine Ext.drew1 ?_ | refine Ext.set ?_ (by dsimp only; omega) _ | refine Ext.alloc ?_ _))
  cases hle : fcmp .leq (ford .f32 (cls .f32 s) (some 1065353216))
  · have e : R = zeroT := by rw [← hR]; unfold mixT; rw [if_neg (by unfold shareC; simp [hge, hle])]
    subst e
    clear h1 h2 hn hm hR
    subst hnm
    go_enter Try.func27, Try.ntmps27
    go_wp2_with fail
    refine (validTube_any _ _ _ _ _ _ xs _ (Holds.ext HH1.out (by (repeat with_reducible (first | exact Ext.refl _ | exact ext_alloc _ _ | refine Ext.drewN ?_ _ | refine Ext.drew1 ?_ | refine Ext.set ?_ (by dsimp only; omega) _ | refine Ext.alloc ?_ _)))) HN.out).mono ?_
    rintro e w1 ⟨rfl, m1, rfl⟩
    simp only [hV1]
    go_wp2_with fail
    refine (validTube_any _ _ _ _ _ _ ys _ (Holds.ext HH2.out (by (repeat with_reducible (first | exact Ext.refl _ | exact ext_alloc _ _ | refine Ext.drewN ?_ _ | refine Ext.drew1 ?_ | refine Ext.set ?_ (by dsimp only; omega) _ | refine Ext.alloc ?_ _)))) HM.out).mono ?_
    rintro e w1 ⟨rfl, m2, rfl⟩
    simp only [hV2]
    go_wp2_with (refine wpList_fcmp rfl rfl rfl rfl rfl (by first | exact is_const (by decide) | exact is_self _ _) (by first | exact is_const (by decide) | exact is_self _ _) ?_; try simp only [hge, hle])
    go_returns
    refine ⟨_, rfl, zero_is _ _, ?_⟩
    (repeat with_reducible (first | exact Ext.refl _ | exact ext_alloc _ _ | refine Ext.drewN ?_ _ | refine Ext.drew1 ?_ | refine Ext.set ?_ (by dsimp only; omega) _ | refine Ext.alloc ?_ _))
  have hS : shareC (cls .f32 s) = true := by unfold shareC; simp [hge, hle]
  subst hnm
  have HE := hid (show giveT (mixC (cls .f32 s) (xs.map (cls .f32)) (ys.map (cls .f32))) (cls .f32 l1) (cls .f32 t1) (cls .f32 p1) = R from by rw [← hR]; unfold mixT; rw [if_pos ⟨hV1, hV2, by have e2 := HL1.out; have e3 := HL2.out; simp; omega, hS⟩])
  have HMX := hid (mix_all (cls .f32 s) h1.1 h2.1)
  have K1 : 1 ≤ n := by
    have g := (tube_len hV1).1
    have g2 := h1.1
    simp at g; omega
  have HK1 := hid K1
  have TC := hid (two_cells h1 h2)
  obtain ⟨i0, hi, hz0, hz1, hz2⟩ := info_parts infoF
  have HI := hid (And.intro hi (And.intro hz0 (And.intro hz1 hz2)))
  have hmk : ∀ wm : World, (Instr.makeSlice 22 (.int .i64 (0 : Int)) (.int .i64 (n : Int))).run Try.prog wm = .ok (.slice (some ⟨wm.heap.size, 0, none⟩) 0 n) (wm.alloc (.cells (madeCells #[.float .f32 0] n) 23)) := by
    intro wm
    have := run_make (P := Try.prog) wm 22 23 i0 (.float .f32 0) Try.underlying22 hi hz0 .i64 .i64 (0 : Int) (n : Int) (by omega) (by omega) (by rw [hz2]; omega) (by omega)
    rw [hz1] at this
    simpa [Value.cells] using this
  have HMK := hid (size_madeCells #[.float .f32 0] n)
  have HO0 : Hid (∀ wm : World, Own (wm.alloc (.cells (madeCells #[.float .f32 0] n) 23)) wm.heap.size 0 (.slice (some ⟨wm.heap.size, 0, none⟩) 0 n) []) :=
    hid (fun wm => World.ownsRow_made (e := 23) (size := 1) (base := wm.heap.size) wm (madeCells #[.float .f32 0] n) n (Nat.le_refl _) (by unfold maxLen; omega) (by rw [HMK.out]; omega))
  clear h1 h2 hn hm hR K1 hi hz0 hz1 hz2
  go_enter Try.func27, Try.ntmps27
  go_wp2_with fail
  refine (validTube_ext _ _ _ _ _ _ xs true _ (Holds.ext HH1.out (by (repeat with_reducible (first | exact Ext.refl _ | exact ext_alloc _ _ | refine Ext.drewN ?_ _ | refine Ext.drew1 ?_ | refine Ext.set ?_ (by dsimp only; omega) _ | refine Ext.alloc ?_ _)))) HN.out hV1).mono ?_
  rintro e w1 ⟨rfl, E1⟩
  have BA1 := hid (Box.ext (Box.ext (box_new (w := w) #[.slice a1 n c1, .float .f32 l1, .float .f32 t1, .float .f32 p1] 27) (by (repeat with_reducible (first | exact Ext.refl _ | exact ext_alloc _ _ | refine Ext.drewN ?_ _ | refine Ext.drew1 ?_ | refine Ext.set ?_ (by dsimp only; omega) _ | refine Ext.alloc ?_ _)))) E1)
  have BB1 := hid (Box.cast (b' := w.heap.size + 1) (Box.ext (Box.ext (box_new (w := (w.alloc (.cells #[.slice a1 n c1, .float .f32 l1, .float .f32 t1, .float .f32 p1] 27))) #[.slice a2 n c2, .float .f32 l2, .float .f32 t2, .float .f32 p2] 27) (by (repeat with_reducible (first | exact Ext.refl _ | exact ext_alloc _ _ | refine Ext.drewN ?_ _ | refine Ext.drew1 ?_ | refine Ext.set ?_ (by dsimp only; omega) _ | refine Ext.alloc ?_ _)))) E1) (by simp))
  have BR1 := hid (Box.cast (b' := w.heap.size + 2) (Box.ext (Box.ext (box_new (w := ((w.alloc (.cells #[.slice a1 n c1, .float .f32 l1, .float .f32 t1, .float .f32 p1] 27)).alloc (.cells #[.slice a2 n c2, .float .f32 l2, .float .f32 t2, .float .f32 p2] 27))) #[.slice none 0 0, .float .f32 0, .float .f32 0, .float .f32 0] 27) (by (repeat with_reducible (first | exact Ext.refl _ | exact ext_alloc _ _ | refine Ext.drewN ?_ _ | refine Ext.drew1 ?_ | refine Ext.set ?_ (by dsimp only; omega) _ | refine Ext.alloc ?_ _)))) E1) (by simp))
  have EX1 := hid (show Ext w w1 from Ext.trans (by (repeat with_reducible (first | exact Ext.refl _ | exact ext_alloc _ _ | refine Ext.drewN ?_ _ | refine Ext.drew1 ?_ | refine Ext.set ?_ (by dsimp only; omega) _ | refine Ext.alloc ?_ _))) E1)
  have SZ1 := hid (show w.heap.size + 3 ≤ w1.heap.size from by have := Ext.size E1; simp at this; omega)
  clear E1
  obtain ⟨y0, y1, y2, y3, yl⟩ := Box.cells4 BB1.out
  go_wp2_with fail
  refine (validTube_ext _ _ _ _ _ _ ys true _ (Holds.ext HH2.out (Ext.trans EX1.out (by (repeat with_reducible (first | exact Ext.refl _ | exact ext_alloc _ _ | refine Ext.drewN ?_ _ | refine Ext.drew1 ?_ | refine Ext.set ?_ (by dsimp only; omega) _ | refine Ext.alloc ?_ _))))) HN.out hV2).mono ?_
  rintro e w2 ⟨rfl, E2⟩
  have BA2 := hid (Box.ext BA1.out E2)
  have BB2 := hid (Box.ext BB1.out E2)
  have BR2 := hid (Box.ext BR1.out E2)
  have EX2 := hid (Ext.trans EX1.out E2)
  have SZ2 := hid (show w.heap.size + 3 ≤ w2.heap.size from by have h8 := SZ1.out; have h9 := Ext.size E2; omega)
  clear y0 y1 y2 y3 yl BA1 BB1 BR1 SZ1 E2 EX1
  obtain ⟨d0, d1, d2, d3, dl⟩ := Box.cells4 BA2.out
  obtain ⟨y0, y1, y2, y3, yl⟩ := Box.cells4 BB2.out
  go_wp2_with (refine wpList_fcmp rfl rfl rfl rfl rfl (by first | exact is_const (by decide) | exact is_self _ _) (by first | exact is_const (by decide) | exact is_self _ _) ?_; try simp only [hge, hle])
  go_loopw [8, 45] (fun v i wr => ∃ (k : Nat) (zs : List Nat), k ≤ n ∧ i = .int .i64 k ∧ Hid (Own wr w2.heap.size k v zs) ∧ Hid (zs.map (cls .f32) = mixK (cls .f32 s) xs ys k) ∧ Hid (Ext w2 wr)) (fun _ i _ => n - (intOf i).toNat)
  case atStart => exact ⟨0, [], Nat.zero_le _, rfl, hid (HO0.out w2), rfl, hid (ext_alloc _ _)⟩
  case round =>
    obtain ⟨k, zs, hk, rfl, ho, hy, he⟩ := hrel
    have hn2 : n ≤ 1048576 := HN.out
    clear hmk d0 d1 d2 d3 dl y0 y1 y2 y3 yl
    obtain ⟨d0, d1, d2, d3, dl⟩ := Box.cells4 (Box.ext BA2.out he.out)
    obtain ⟨y0, y1, y2, y3, yl⟩ := Box.cells4 (Box.ext BB2.out he.out)
    by_cases hlt : k < n
    · obtain ⟨b, off, b', off', rfl, rfl, e1, e2⟩ := two_cells (Holds.ext HH1.out (Ext.trans EX2.out he.out)) (Holds.ext HH2.out (Ext.trans EX2.out he.out)) k hlt
      have hms := hid (mix_snoc (cls .f32 s) xs ys k)
      generalize xs.getD k 0 = x at e1 hms
      generalize ys.getD k 0 = y at e2 hms
      have hi0 : (0 : Int) ≤ (k : Int) := by omega
      have hi1 : (k : Int) < (n : Int) := by omega
      go_wp2_with (first | (go_at_call 72; refine (between_any _ _ _ _ (is_self _ _) _).mono ?_; rintro e w3 ⟨r, rfl, hr, mq, rfl⟩) | (at_builtin; refine wpList_append_lies _ rfl _ _ 22 rfl w2.heap.size 23 i0 (.float .f32 0) 1 4 Try.underlying22 HI.out.1 HI.out.2.1 HI.out.2.2.1 HI.out.2.2.2 rfl (by decide) _ _ _ rfl (Own.alloc (Own.drewN ho.out _) _) ⟨wr.heap.size, 0, none⟩ 1 1 [.float .f32 r] rfl rfl (World.news_of_block (heap_alloc_new _ _)) (by intro u hu; simp at hu; subst hu; rfl) (by omega) (by have h9 := HN.out; unfold maxLen; omega) (by have h9 := HN.out; omega) (by have h8 := Ext.size he.out; simp; omega) _ rfl ?_; intro g cap w3 hown hgrow hat hlt2))
      have g1 := hid (own_snoc10 hown)
      have g2 := hid (show Ext w2 w3 from But.below hgrow (Ext.alloc (Ext.drewN he.out _) _) (fun k2 hk2 => (Own.block ho.out k2 hk2).1))
      have g3 := hid (show (zs ++ [r]).map (cls .f32) = mixK (cls .f32 s) xs ys (k + 1) from by rw [List.map_append, hy.out, hms.out]; exact congrArg (fun z => _ ++ [z]) hr)
      clear hown hgrow hat hlt2
      go_wp2
      go_roundw
      case rel => exact ⟨k + 1, zs ++ [r], by omega, by go_num, g1, g3, g2⟩
      case measure => simp [intOf]; omega
    · have hkn : k = n := by omega
      subst hkn
      obtain ⟨va, vc, rfl, _, _⟩ := Own.holds ho.out
      go_wp2_with fail
      refine (withAreas_any _ _ _ _ _ _ _ _ _ _ zs R _ ho.out hn2 (by rw [hy.out, HMX.out]; exact HE.out)).mono ?_
      rintro e3 w3 ⟨v, rfl, hT, E3⟩
      have EE3 := hid (Ext.trans EX2.out (Ext.trans he.out E3))
      have HX := hid (Box.ext (Box.ext BR2.out he.out) E3)
      have SZ3 := hid SZ2.out
      obtain ⟨ra, rc, rl, rt, rp, rz, rfl, rO, re⟩ := hT
      have HT := hid (show TubeIs w3 w2.heap.size R (.agg #[.slice ra R.cs.length rc, .float .f32 rl, .float .f32 rt, .float .f32 rp]) from ⟨ra, rc, rl, rt, rp, rz, rfl, rO, re⟩)
      clear rO re
      obtain ⟨z0, z1, z2, z3, zf0, zf1, zf2, zf3, zl⟩ := Box.all4 HX.out
      go_wp2_with fail
      clear z0 z1 z2 z3 zf0 zf1 zf2 zf3 zl
      refine bodyPost_ret (ret_cell2 Try.results27 rfl (box_set4 HX.out _ _ _ _) Try.underlying27 infoT) rfl ?_
      exact ⟨_, rfl, TubeIs.base (TubeIs.far4 HT.out (by have := SZ3.out; omega) _ _ _ _) (by have := SZ3.out; omega), ext_set4 EE3.out (by omega) _ _ _ _⟩
set_option maxHeartbeats 2000000 in
set_option maxRecDepth 100000 in
theorem sMix_any (a1 a2 : Option Addr) (n m c1 c2 l1 t1 p1 l2 t2 p2 s : Nat) (xs ys : List Nat) (R : TR) (w : World) (h1 : Holds .f32 w a1 n xs) (h2 : Holds .f32 w a2 m ys) (hn : n ≤ 1048576) (hm : m ≤ 1048576) (hR : mixT (xs.map (cls .f32)) (cls .f32 l1) (cls .f32 t1) (cls .f32 p1) (ys.map (cls .f32)) (cls .f32 l2) (cls .f32 t2) (cls .f32 p2) (cls .f32 s) = R) :
    Calls Try.prog 26 #[.agg #[.slice a1 n c1, .float .f32 l1, .float .f32 t1, .float .f32 p1], .agg #[.slice a2 m c2, .float .f32 l2, .float .f32 t2, .float .f32 p2], .float .f32 s] w fun e w' => ∃ v, e = .returned (.tuple #[v, .bool R.ok]) ∧ TubeIs w' w.heap.size R v ∧ Ext w w' := by
  have HH1 := hid h1
  have HH2 := hid h2
  have HN := hid hn
  have HM := hid hm
  have HL1 := hid h1.1
  have HL2 := hid h2.1
  cases hV1 : tubeC (xs.map (cls .f32)) (cls .f32 l1) (cls .f32 t1) (cls .f32 p1)
  · have e : R = zeroT := by rw [← hR]; unfold mixT; rw [if_neg (by simp [hV1])]
    subst e
    clear h1 h2 hn hm hR
    go_enter Try.func26, Try.ntmps26
    go_wp2_with fail
    refine (l02Is_any _ _ _ _ _ _ _ xs _ (Box.ext (box_new (w := w) #[.slice a1 n c1, .float .f32 l1, .float .f32 t1, .float .f32 p1] 27) (by (repeat with_reducible (first | exact Ext.refl _ | exact ext_alloc _ _ | refine Ext.drewN ?_ _ | refine Ext.drew1 ?_ | refine Ext.set ?_ (by dsimp only; omega) _ | refine Ext.alloc ?_ _)))) (Holds.ext HH1.out (by (repeat with_reducible (first | exact Ext.refl _ | exact ext_alloc _ _ | refine Ext.drewN ?_ _ | refine Ext.drew1 ?_ | refine Ext.set ?_ (by dsimp only; omega) _ | refine Ext.alloc ?_ _)))) HN.out).mono ?_
    rintro e w1 ⟨rfl, m1, rfl⟩
    simp only [hV1]
    go_wp2_with fail
    go_returns
    refine ⟨_, rfl, zero_is _ _, ?_⟩
    (repeat with_reducible (first | exact Ext.refl _ | exact ext_alloc _ _ | refine Ext.drewN ?_ _ | refine Ext.drew1 ?_ | refine Ext.set ?_ (by dsimp only; omega) _ | refine Ext.alloc ?_ _))
  cases hV2 : tubeC (ys.map (cls .f32)) (cls .f32 l2) (cls .f32 t2) (cls .f32 p2)
  · have e : R = zeroT := by rw [← hR]; unfold mixT; rw [if_neg (by simp [hV2])]
    subst e
    clear h1 h2 hn hm hR
    go_enter Try.func26, Try.ntmps26
    go_wp2_with fail
    refine (l02Is_any _ _ _ _ _ _ _ xs _ (Box.ext (box_new (w := w) #[.slice a1 n c1, .float .f32 l1, .float .f32 t1, .float .f32 p1] 27) (by (repeat with_reducible (first | exact Ext.refl _ | exact ext_alloc _ _ | refine Ext.drewN ?_ _ | refine Ext.drew1 ?_ | refine Ext.set ?_ (by dsimp only; omega) _ | refine Ext.alloc ?_ _)))) (Holds.ext HH1.out (by (repeat with_reducible (first | exact Ext.refl _ | exact ext_alloc _ _ | refine Ext.drewN ?_ _ | refine Ext.drew1 ?_ | refine Ext.set ?_ (by dsimp only; omega) _ | refine Ext.alloc ?_ _)))) HN.out).mono ?_
    rintro e w1 ⟨rfl, m1, rfl⟩
    simp only [hV1]
    go_wp2_with fail
    refine (l02Is_any _ _ _ _ _ _ _ ys _ (Box.cast (Box.ext (box_new (w := (w.alloc (.cells #[.slice a1 n c1, .float .f32 l1, .float .f32 t1, .float .f32 p1] 27))) #[.slice a2 m c2, .float .f32 l2, .float .f32 t2, .float .f32 p2] 27) (by (repeat with_reducible (first | exact Ext.refl _ | exact ext_alloc _ _ | refine Ext.drewN ?_ _ | refine Ext.drew1 ?_ | refine Ext.set ?_ (by dsimp only; omega) _ | refine Ext.alloc ?_ _)))) (by simp)) (Holds.ext HH2.out (by (repeat with_reducible (first | exact Ext.refl _ | exact ext_alloc _ _ | refine Ext.drewN ?_ _ | refine Ext.drew1 ?_ | refine Ext.set ?_ (by dsimp only; omega) _ | refine Ext.alloc ?_ _)))) HM.out).mono ?_
    rintro e w1 ⟨rfl, m2, rfl⟩
    simp only [hV2]
    go_wp2_with fail
    go_returns
    refine ⟨_, rfl, zero_is _ _, ?_⟩
    (repeat with_reducible (first | exact Ext.refl _ | exact ext_alloc _ _ | refine Ext.drewN ?_ _ | refine Ext.drew1 ?_ | refine Ext.set ?_ (by dsimp only; omega) _ | refine Ext.alloc ?_ _))
  by_cases hnm : n = m
  rotate_left
  · have e : R = zeroT := by rw [← hR]; unfold mixT; rw [if_neg (by intro h; have e1 := h.2.2.1; have e2 := HL1.out; have e3 := HL2.out; simp at e1; omega)]
    subst e
    clear h1 h2 hn hm hR
    have hz : ¬ ((n : Int) = (m : Int)) := by omega
    go_enter Try.func26, Try.ntmps26
    go_wp2_with fail
    refine (l02Is_any _ _ _ _ _ _ _ xs _ (Box.ext (box_new (w := w) #[.slice a1 n c1, .float .f32 l1, .float .f32 t1, .float .f32 p1] 27) (by (repeat with_reducible (first | exact Ext.refl _ | exact ext_alloc _ _ | refine Ext.drewN ?_ _ | refine Ext.drew1 ?_ | refine Ext.set ?_ (by dsimp only; omega) _ | refine Ext.alloc ?_ _)))) (Holds.ext HH1.out (by (repeat with_reducible (first | exact Ext.refl _ | exact ext_alloc _ _ | refine Ext.drewN ?_ _ | refine Ext.drew1 ?_ | refine Ext.set ?_ (by dsimp only; omega) _ | refine Ext.alloc ?_ _)))) HN.out).mono ?_
    rintro e w1 ⟨rfl, m1, rfl⟩
    simp only [hV1]
    go_wp2_with fail
    refine (l02Is_any _ _ _ _ _ _ _ ys _ (Box.cast (Box.ext (box_new (w := (w.alloc (.cells #[.slice a1 n c1, .float .f32 l1, .float .f32 t1, .float .f32 p1] 27))) #[.slice a2 m c2, .float .f32 l2, .float .f32 t2, .float .f32 p2] 27) (by (repeat with_reducible (first | exact Ext.refl _ | exact ext_alloc _ _ | refine Ext.drewN ?_ _ | refine Ext.drew1 ?_ | refine Ext.set ?_ (by dsimp only; omega) _ | refine Ext.alloc ?_ _)))) (by simp)) (Holds.ext HH2.out (by (repeat with_reducible (first | exact Ext.refl _ | exact ext_alloc _ _ | refine Ext.drewN ?_ _ | refine Ext.drew1 ?_ | refine Ext.set ?_ (by dsimp only; omega) _ | refine Ext.alloc ?_ _)))) HM.out).mono ?_
    rintro e w1 ⟨rfl, m2, rfl⟩
    simp only [hV2]
    go_wp2_with fail
    go_returns
    refine ⟨_, rfl, zero_is _ _, ?_⟩
    (repeat with_reducible (first | exact Ext.refl _ | exact ext_alloc _ _ | refine Ext.drewN ?_ _ | refine Ext.drew1 ?_ | refine Ext.set ?_ (by dsimp only; omega) _ | refine Ext.alloc ?_ _))
  cases hS : shareC (cls .f32 s)
  · have e : R = zeroT := by rw [← hR]; unfold mixT; rw [if_neg (by simp [hS])]
    subst e
    clear h1 h2 hn hm hR
    subst hnm
    go_enter Try.func26, Try.ntmps26
    go_wp2_with fail
    refine (l02Is_any _ _ _ _ _ _ _ xs _ (Box.ext (box_new (w := w) #[.slice a1 n c1, .float .f32 l1, .float .f32 t1, .float .f32 p1] 27) (by (repeat with_reducible (first | exact Ext.refl _ | exact ext_alloc _ _ | refine Ext.drewN ?_ _ | refine Ext.drew1 ?_ | refine Ext.set ?_ (by dsimp only; omega) _ | refine Ext.alloc ?_ _)))) (Holds.ext HH1.out (by (repeat with_reducible (first | exact Ext.refl _ | exact ext_alloc _ _ | refine Ext.drewN ?_ _ | refine Ext.drew1 ?_ | refine Ext.set ?_ (by dsimp only; omega) _ | refine Ext.alloc ?_ _)))) HN.out).mono ?_
    rintro e w1 ⟨rfl, m1, rfl⟩
    simp only [hV1]
    go_wp2_with fail
    refine (l02Is_any _ _ _ _ _ _ _ ys _ (Box.cast (Box.ext (box_new (w := (w.alloc (.cells #[.slice a1 n c1, .float .f32 l1, .float .f32 t1, .float .f32 p1] 27))) #[.slice a2 n c2, .float .f32 l2, .float .f32 t2, .float .f32 p2] 27) (by (repeat with_reducible (first | exact Ext.refl _ | exact ext_alloc _ _ | refine Ext.drewN ?_ _ | refine Ext.drew1 ?_ | refine Ext.set ?_ (by dsimp only; omega) _ | refine Ext.alloc ?_ _)))) (by simp)) (Holds.ext HH2.out (by (repeat with_reducible (first | exact Ext.refl _ | exact ext_alloc _ _ | refine Ext.drewN ?_ _ | refine Ext.drew1 ?_ | refine Ext.set ?_ (by dsimp only; omega) _ | refine Ext.alloc ?_ _)))) HM.out).mono ?_
    rintro e w1 ⟨rfl, m2, rfl⟩
    simp only [hV2]
    go_wp2_with (go_at_call 70; refine (l02Share_any _ _).mono ?_; rintro e w' ⟨rfl, rfl⟩; simp only [hS])
    go_returns
    refine ⟨_, rfl, zero_is _ _, ?_⟩
    (repeat with_reducible (first | exact Ext.refl _ | exact ext_alloc _ _ | refine Ext.drewN ?_ _ | refine Ext.drew1 ?_ | refine Ext.set ?_ (by dsimp only; omega) _ | refine Ext.alloc ?_ _))
  subst hnm
  have HE := hid (show giveT (mixC (cls .f32 s) (xs.map (cls .f32)) (ys.map (cls .f32))) (cls .f32 l1) (cls .f32 t1) (cls .f32 p1) = R from by rw [← hR]; unfold mixT; rw [if_pos ⟨hV1, hV2, by have e2 := HL1.out; have e3 := HL2.out; simp; omega, hS⟩])
  have HMX := hid (mix_all (cls .f32 s) h1.1 h2.1)
  have K1 : 1 ≤ n := by
    have g := (tube_len hV1).1
    have g2 := h1.1
    simp at g; omega
  have HK1 := hid K1
  have TC := hid (two_cells h1 h2)
  obtain ⟨i0, hi, hz0, hz1, hz2⟩ := info_parts infoF
  have HI := hid (And.intro hi (And.intro hz0 (And.intro hz1 hz2)))
  clear h1 h2 hn hm hR K1 hi hz0 hz1 hz2
  go_enter Try.func26, Try.ntmps26
  go_wp2_with fail
  refine (l02Is_ext _ _ _ _ _ _ _ xs true _ (Box.ext (box_new (w := w) #[.slice a1 n c1, .float .f32 l1, .float .f32 t1, .float .f32 p1] 27) (by (repeat with_reducible (first | exact Ext.refl _ | exact ext_alloc _ _ | refine Ext.drewN ?_ _ | refine Ext.drew1 ?_ | refine Ext.set ?_ (by dsimp only; omega) _ | refine Ext.alloc ?_ _)))) (Holds.ext HH1.out (by (repeat with_reducible (first | exact Ext.refl _ | exact ext_alloc _ _ | refine Ext.drewN ?_ _ | refine Ext.drew1 ?_ | refine Ext.set ?_ (by dsimp only; omega) _ | refine Ext.alloc ?_ _)))) HN.out hV1).mono ?_
  rintro e w1 ⟨rfl, E1⟩
  have BA1 := hid (Box.ext (Box.ext (box_new (w := w) #[.slice a1 n c1, .float .f32 l1, .float .f32 t1, .float .f32 p1] 27) (by (repeat with_reducible (first | exact Ext.refl _ | exact ext_alloc _ _ | refine Ext.drewN ?_ _ | refine Ext.drew1 ?_ | refine Ext.set ?_ (by dsimp only; omega) _ | refine Ext.alloc ?_ _)))) E1)
  have BB1 := hid (Box.cast (b' := w.heap.size + 1) (Box.ext (Box.ext (box_new (w := (w.alloc (.cells #[.slice a1 n c1, .float .f32 l1, .float .f32 t1, .float .f32 p1] 27))) #[.slice a2 n c2, .float .f32 l2, .float .f32 t2, .float .f32 p2] 27) (by (repeat with_reducible (first | exact Ext.refl _ | exact ext_alloc _ _ | refine Ext.drewN ?_ _ | refine Ext.drew1 ?_ | refine Ext.set ?_ (by dsimp only; omega) _ | refine Ext.alloc ?_ _)))) E1) (by simp))
  have BR1 := hid (Box.cast (b' := w.heap.size + 2) (Box.ext (Box.ext (box_new (w := ((w.alloc (.cells #[.slice a1 n c1, .float .f32 l1, .float .f32 t1, .float .f32 p1] 27)).alloc (.cells #[.slice a2 n c2, .float .f32 l2, .float .f32 t2, .float .f32 p2] 27))) #[.slice none 0 0, .float .f32 0, .float .f32 0, .float .f32 0] 27) (by (repeat with_reducible (first | exact Ext.refl _ | exact ext_alloc _ _ | refine Ext.drewN ?_ _ | refine Ext.drew1 ?_ | refine Ext.set ?_ (by dsimp only; omega) _ | refine Ext.alloc ?_ _)))) E1) (by simp))
  have EX1 := hid (show Ext w w1 from Ext.trans (by (repeat with_reducible (first | exact Ext.refl _ | exact ext_alloc _ _ | refine Ext.drewN ?_ _ | refine Ext.drew1 ?_ | refine Ext.set ?_ (by dsimp only; omega) _ | refine Ext.alloc ?_ _))) E1)
  have SZ1 := hid (show w.heap.size + 3 ≤ w1.heap.size from by have := Ext.size E1; simp at this; omega)
  clear E1
  obtain ⟨y0, y1, y2, y3, yl⟩ := Box.cells4 BB1.out
  go_wp2_with fail
  refine (l02Is_ext _ _ _ _ _ _ _ ys true _ (Box.ext BB1.out (by (repeat with_reducible (first | exact Ext.refl _ | exact ext_alloc _ _ | refine Ext.drewN ?_ _ | refine Ext.drew1 ?_ | refine Ext.set ?_ (by dsimp only; omega) _ | refine Ext.alloc ?_ _)))) (Holds.ext HH2.out (Ext.trans EX1.out (by (repeat with_reducible (first | exact Ext.refl _ | exact ext_alloc _ _ | refine Ext.drewN ?_ _ | refine Ext.drew1 ?_ | refine Ext.set ?_ (by dsimp only; omega) _ | refine Ext.alloc ?_ _))))) HN.out hV2).mono ?_
  rintro e w2 ⟨rfl, E2⟩
  have BA2 := hid (Box.ext BA1.out E2)
  have BB2 := hid (Box.ext BB1.out E2)
  have BR2 := hid (Box.ext BR1.out E2)
  have EX2 := hid (Ext.trans EX1.out E2)
  have SZ2 := hid (show w.heap.size + 3 ≤ w2.heap.size from by have h8 := SZ1.out; have h9 := Ext.size E2; omega)
  clear y0 y1 y2 y3 yl BA1 BB1 BR1 SZ1 E2 EX1
  obtain ⟨d0, d1, d2, d3, dl⟩ := Box.cells4 BA2.out
  obtain ⟨y0, y1, y2, y3, yl⟩ := Box.cells4 BB2.out
  go_wp2_with (go_at_call 70; refine (l02Share_any _ _).mono ?_; rintro e w' ⟨rfl, rfl⟩; simp only [hS])
  refine (l02Own_any _ _ _ _ _ _ _ xs _ (Box.ext BA2.out (by (repeat with_reducible (first | exact Ext.refl _ | exact ext_alloc _ _ | refine Ext.drewN ?_ _ | refine Ext.drew1 ?_ | refine Ext.set ?_ (by dsimp only; omega) _ | refine Ext.alloc ?_ _)))) (Holds.ext HH1.out (Ext.trans EX2.out (by (repeat with_reducible (first | exact Ext.refl _ | exact ext_alloc _ _ | refine Ext.drewN ?_ _ | refine Ext.drew1 ?_ | refine Ext.set ?_ (by dsimp only; omega) _ | refine Ext.alloc ?_ _))))) HK1.out HN.out).mono ?_
  rintro e3 w3 ⟨b3, c3, rfl, O3, E3⟩
  have BA3 := hid (Box.ext BA2.out E3)
  have BB3 := hid (Box.ext BB2.out E3)
  have BR3 := hid (Box.ext BR2.out E3)
  have EX3 := hid (Ext.trans EX2.out E3)
  have SZ3 := hid (show w.heap.size + 3 ≤ w3.heap.size from by have h8 := SZ2.out; have h9 := Ext.size E3; omega)
  clear d0 d1 d2 d3 dl y0 y1 y2 y3 yl BA2 BB2 BR2 SZ2 E3 EX2 O3
  obtain ⟨d0, d1, d2, d3, dl⟩ := Box.cells4 BA3.out
  obtain ⟨y0, y1, y2, y3, yl⟩ := Box.cells4 BB3.out
  go_wp2_with fail
  refine (l02Mix_any _ _ _ _ _ _ xs ys _ (Holds.ext HH1.out (Ext.trans EX3.out (by (repeat with_reducible (first | exact Ext.refl _ | exact ext_alloc _ _ | refine Ext.drewN ?_ _ | refine Ext.drew1 ?_ | refine Ext.set ?_ (by dsimp only; omega) _ | refine Ext.alloc ?_ _))))) (Holds.ext HH2.out (Ext.trans EX3.out (by (repeat with_reducible (first | exact Ext.refl _ | exact ext_alloc _ _ | refine Ext.drewN ?_ _ | refine Ext.drew1 ?_ | refine Ext.set ?_ (by dsimp only; omega) _ | refine Ext.alloc ?_ _))))) HN.out).mono ?_
  rintro e4 w4 ⟨b4, c4, zs, rfl, O4, hz, E4⟩
  have HZ := hid hz
  have BR4 := hid (Box.ext (Box.ext BR3.out (by (repeat with_reducible (first | exact Ext.refl _ | exact ext_alloc _ _ | refine Ext.drewN ?_ _ | refine Ext.drew1 ?_ | refine Ext.set ?_ (by dsimp only; omega) _ | refine Ext.alloc ?_ _)))) E4)
  have EX4 := hid (Ext.trans EX3.out (Ext.trans (by (repeat with_reducible (first | exact Ext.refl _ | exact ext_alloc _ _ | refine Ext.drewN ?_ _ | refine Ext.drew1 ?_ | refine Ext.set ?_ (by dsimp only; omega) _ | refine Ext.alloc ?_ _))) E4))
  have BD4 := hid (Box.ext (box_new (w := w3) #[.slice (some ⟨b3, 0, none⟩) n c3, .float .f32 l1, .float .f32 t1, .float .f32 p1] 27) E4)
  have HO4 := hid (Own.base O4 (B' := w3.heap.size + 1) (by simp))
  have SZ4 := hid (show w3.heap.size < w4.heap.size from Box.lt BD4.out)
  clear d0 d1 d2 d3 dl y0 y1 y2 y3 yl O4 E4 hz BA3 BB3 BR3
  obtain ⟨d0, d1, d2, d3, df0, df1, df2, df3, dl⟩ := Box.all4 BD4.out
  have HNX := hid (show (Value.slice b4 n c4).ownBlock ≠ some w3.heap.size from fun hk => by have := (Own.block HO4.out _ hk).1; omega)
  go_wp2_with fail
  refine (l02Give_any _ _ _ _ _ _ _ zs _ (Own.far HO4.out HNX.out _) HN.out).mono ?_
  rintro e5 w5 ⟨v, rfl, hT, E5⟩
  rw [HZ.out, HE.out] at hT ⊢
  have EE5 := hid (Ext.trans (Ext.set EX4.out (by have := SZ3.out; dsimp only; omega) _) E5)
  have HX := hid (Box.ext (Box.far BR4.out (by have := SZ3.out; omega) _) E5)
  obtain ⟨ra, rc, rl, rt, rp, rz, rfl, rO, re⟩ := hT
  have HT := hid (show TubeIs w5 (w3.heap.size + 1) R (.agg #[.slice ra R.cs.length rc, .float .f32 rl, .float .f32 rt, .float .f32 rp]) from ⟨ra, rc, rl, rt, rp, rz, rfl, rO, re⟩)
  clear rO re d0 d1 d2 d3 df0 df1 df2 df3 dl
  obtain ⟨z0, z1, z2, z3, zf0, zf1, zf2, zf3, zl⟩ := Box.all4 HX.out
  go_wp2_with fail
  clear z0 z1 z2 z3 zf0 zf1 zf2 zf3 zl
  refine bodyPost_ret (ret_cell2 Try.results26 rfl (box_set4 HX.out _ _ _ _) Try.underlying27 infoT) rfl ?_
  exact ⟨_, rfl, TubeIs.base (TubeIs.far4 HT.out (by have := SZ3.out; omega) _ _ _ _) (by have := SZ3.out; omega), ext_set4 EE5.out (by omega) _ _ _ _⟩
end Go.Proofs.Ytnmigjiaeahekaa
