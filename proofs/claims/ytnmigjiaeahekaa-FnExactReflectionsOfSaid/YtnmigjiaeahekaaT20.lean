/- Reflections. -/
import Derived.Test.YtnmigjiaeahekaaT9
import Derived.Test.YtnmigjiaeahekaaT19
import Derived.Test.YtnmigjiaeahekaaQuo
import Derived.Test.YtnmigjiaeahekaaTail2
namespace Go.Proofs.Ytnmigjiaeahekaa
open Go.RowKit Flt
set_option linter.unusedVariables false

def reflQ (a b : Option Nat) : Option Nat := fop .quo .f32 (fop .sub .f32 a b) (fop .add .f32 a b)
def reflK (xs : List Nat) (k : Nat) : List (Option Nat) := (List.range k).map fun q => reflQ (cls .f32 (xs.getD q 0)) (cls .f32 (xs.getD (q + 1) 0))
theorem refl_snoc (xs : List Nat) (k : Nat) : reflK xs (k + 1) = reflK xs k ++ [reflQ (cls .f32 (xs.getD k 0)) (cls .f32 (xs.getD (k + 1) 0))] := by simp [reflK, List.range_succ]
theorem refl_klen (xs : List Nat) (k : Nat) : (reflK xs k).length = k := by simp [reflK]
def reflR (zs : List Nat) (l t p : Option Nat) : List (Option Nat) × Bool := if tubeC (zs.map (cls .f32)) l t p then (reflK zs (zs.length - 1), true) else ([], false)
theorem refl_len {zs : List Nat} {l t p : Option Nat} : (reflR zs l t p).1.length ≤ 16 := by
  unfold reflR
  split
  · rename_i h
    have := (tube_len h).2
    simp at this
    simp [refl_klen]; omega
  · exact Nat.zero_le _
theorem areas_at {zs : List Nat} {l t p : Option Nat} (h : tubeC (zs.map (cls .f32)) l t p = true) (q : Nat) (hq : q < zs.length) : fcmp .gtr (ford .f32 (cls .f32 (zs.getD q 0)) (some 0)) = true ∧ fin32 (cls .f32 (zs.getD q 0)) = true := by
  unfold tubeC areasC at h
  simp only [Bool.and_eq_true] at h
  have h2 := List.all_eq_true.1 h.1.2.2 (cls .f32 (zs.getD q 0)) (by
    simp only [List.mem_map]
    exact ⟨zs.getD q 0, by simp [List.getD, hq], rfl⟩)
  unfold areaC at h2
  simpa using h2
theorem refl_fins {zs : List Nat} {l t p : Option Nat} (h : tubeC (zs.map (cls .f32)) l t p = true) : finsC (reflK zs (zs.length - 1)) = true := by
  unfold finsC reflK
  rw [List.all_eq_true]
  intro x hx
  rw [List.mem_map] at hx
  obtain ⟨q, hq, rfl⟩ := hx
  have hq' : q < zs.length - 1 := by simpa using hq
  have a := areas_at h q (by omega)
  have b := areas_at h (q + 1) (by omega)
  exact refl_fin _ _ a.1 a.2 b.1 b.2
theorem own_snoc20 {w : World} {B k : Nat} {v : Value} {ys : List Nat} {r : Nat} (h : w.ownsRow B 23 1 v (k + 1) (ys.map (Value.float .f32) ++ [.float .f32 r])) : Own w B (k + 1) v (ys ++ [r]) := by
  unfold Own; simpa using h
theorem l02List_good (a : Option Addr) (n c : Nat) (zs : List Nat) (w : World) (h : Holds .f32 w a n zs) (hn : n ≤ 1048576) (hV : finsC (zs.map (cls .f32)) = true) :
    Calls Try.prog 78 #[.slice a n c] w fun e w' => e = .returned (.tuple #[.slice a n c, .bool true]) ∧ Ext w w' := by
  obtain ⟨hl, hc⟩ := h
  have HL := hid hl
  have HV := hid hV
  have HC : Hid (∀ k, k < n → ∃ b off, a = some ⟨b, off, none⟩ ∧ w.cell? ⟨b, off + k, none⟩ = some (.float .f32 (zs.getD k 0))) := by
    intro k hk
    rcases hc with h0 | ⟨b, off, rfl, hb, hc⟩
    · omega
    · exact ⟨b, off, rfl, hc k hk⟩
  clear hc hl hV
  go_enter Try.func78, Try.ntmps78
  go_wp2
  go_loopw [4] (fun i wr => ∃ k : Nat, k ≤ n ∧ i = .int .i64 k ∧ Hid (∀ q, q < k → fin32 (cls .f32 (zs.getD q 0)) = true) ∧ Hid (∃ m, wr = w.drewN m)) (fun i _ => n - (intOf i).toNat)
  case atStart => exact ⟨0, Nat.zero_le _, rfl, hid (fun q hq => by omega), 0, rfl⟩
  case round =>
    obtain ⟨k, hk, rfl, hr, hw⟩ := hrel
    by_cases hlt : k < n
    · obtain ⟨b, off, rfl, e0⟩ := HC.out k hlt
      have e1 : wr.cell? ⟨b, off + k, none⟩ = some (.float .f32 (zs.getD k 0)) := by obtain ⟨m, hm⟩ := hw.out; rw [hm]; exact e0
      clear e0
      have hi0 : (0 : Int) ≤ (k : Int) := by omega
      have hi1 : (k : Int) < (n : Int) := by omega
      cases ha : fin32 (cls .f32 (zs.getD k 0))
      · exfalso
        have HB := show finsC (zs.map (cls .f32)) = false from all_bad (by rw [HL.out]; exact hlt) ha
        rw [HV.out] at HB
        cases HB
      · have HG := hid (upto_succ (P := fun q => fin32 (cls .f32 (zs.getD q 0)) = true) hr.out ha)
        generalize zs.getD k 0 = x at e1 ha
        go_wp2_with (go_at_call 81; refine (l01Finite_any _ _).mono ?_; rintro e w' ⟨rfl, m, rfl⟩; simp only [ha])
        go_roundw
        case rel => exact ⟨k + 1, by omega, by go_num, HG, by obtain ⟨m2, hm⟩ := hw.out; exact ⟨m2 + m, by rw [hm, World.drewN_drewN]⟩⟩
        case measure => simp [intOf]; omega
    · have hkn : k = n := by omega
      subst hkn
      go_wp2
      go_ret2
      obtain ⟨m2, hm⟩ := hw.out
      refine ⟨rfl, ?_⟩
      rw [hm]
      exact Ext.drewN (Ext.refl _) _
theorem l02List_bad (a : Option Addr) (n c : Nat) (zs : List Nat) (w : World) (h : Holds .f32 w a n zs) (hn : n ≤ 1048576) (hV : finsC (zs.map (cls .f32)) = false) :
    Calls Try.prog 78 #[.slice a n c] w fun e w' => e = .returned (.tuple #[.slice none 0 0, .bool false]) ∧ Ext w w' := by
  obtain ⟨hl, hc⟩ := h
  have HL := hid hl
  have HV := hid hV
  have HC : Hid (∀ k, k < n → ∃ b off, a = some ⟨b, off, none⟩ ∧ w.cell? ⟨b, off + k, none⟩ = some (.float .f32 (zs.getD k 0))) := by
    intro k hk
    rcases hc with h0 | ⟨b, off, rfl, hb, hc⟩
    · omega
    · exact ⟨b, off, rfl, hc k hk⟩
  clear hc hl hV
  go_enter Try.func78, Try.ntmps78
  go_wp2
  go_loopw [4] (fun i wr => ∃ k : Nat, k ≤ n ∧ i = .int .i64 k ∧ Hid (∀ q, q < k → fin32 (cls .f32 (zs.getD q 0)) = true) ∧ Hid (∃ m, wr = w.drewN m)) (fun i _ => n - (intOf i).toNat)
  case atStart => exact ⟨0, Nat.zero_le _, rfl, hid (fun q hq => by omega), 0, rfl⟩
  case round =>
    obtain ⟨k, hk, rfl, hr, hw⟩ := hrel
    by_cases hlt : k < n
    · obtain ⟨b, off, rfl, e0⟩ := HC.out k hlt
      have e1 : wr.cell? ⟨b, off + k, none⟩ = some (.float .f32 (zs.getD k 0)) := by obtain ⟨m, hm⟩ := hw.out; rw [hm]; exact e0
      clear e0
      have hi0 : (0 : Int) ≤ (k : Int) := by omega
      have hi1 : (k : Int) < (n : Int) := by omega
      cases ha : fin32 (cls .f32 (zs.getD k 0))
      · generalize zs.getD k 0 = x at e1 ha
        go_wp2_with (go_at_call 81; refine (l01Finite_any _ _).mono ?_; rintro e w' ⟨rfl, m, rfl⟩; simp only [ha])
        go_ret2
        obtain ⟨m2, hm⟩ := hw.out
        refine ⟨rfl, ?_⟩
        rw [hm]
        exact Ext.drewN (Ext.drewN (Ext.refl _) _) _
      · have HG := hid (upto_succ (P := fun q => fin32 (cls .f32 (zs.getD q 0)) = true) hr.out ha)
        generalize zs.getD k 0 = x at e1 ha
        go_wp2_with (go_at_call 81; refine (l01Finite_any _ _).mono ?_; rintro e w' ⟨rfl, m, rfl⟩; simp only [ha])
        go_roundw
        case rel => exact ⟨k + 1, by omega, by go_num, HG, by obtain ⟨m2, hm⟩ := hw.out; exact ⟨m2 + m, by rw [hm, World.drewN_drewN]⟩⟩
        case measure => simp [intOf]; omega
    · have hkn : k = n := by omega
      subst hkn
      exfalso
      have HG := show finsC (zs.map (cls .f32)) = true from all_good (fun j hj => hr.out j (by rw [HL.out] at hj; exact hj))
      rw [HV.out] at HG
      cases HG
set_option maxHeartbeats 1000000 in
set_option maxRecDepth 100000 in
theorem l02Reflections_any (bx : Nat) (a : Option Addr) (n c l t p : Nat) (zs : List Nat) (w : World) (hbx : Box w bx #[.slice a n c, .float .f32 l, .float .f32 t, .float .f32 p]) (h : Holds .f32 w a n zs) (h1 : 1 ≤ n) (hn : n ≤ 1048576) :
    Calls Try.prog 79 #[.pointer (some ⟨bx, 0, none⟩)] w fun e w' => ∃ v ys, e = .returned v ∧ Own w' w.heap.size (n - 1) v ys ∧ ys.map (cls .f32) = reflK zs (n - 1) ∧ Ext w w' := by
  obtain ⟨i0, hi, hz0, hz1, hz2⟩ := info_parts infoF
  have HI := hid (And.intro hi (And.intro hz0 (And.intro hz1 hz2)))
  obtain ⟨b, off, rfl, hb, hl, hc⟩ := Holds.some_of h h1
  have BX := hid hbx
  have HN := hid hn
  have HB := hid hb
  have HC := hid hc
  have H1 := hid h1
  clear hi hz0 hz1 hz2 h hb hl hc hn hbx h1
  go_enter Try.func79, Try.ntmps79
  go_wp2
  go_loopw [3, 4] (fun v i wr => ∃ (k : Nat) (ys : List Nat), k + 1 ≤ n ∧ i = .int .i64 k ∧ Hid (Own wr w.heap.size k v ys) ∧ Hid (ys.map (cls .f32) = reflK zs k) ∧ Hid (Ext w wr)) (fun _ i _ => n - (intOf i).toNat)
  case atStart => exact ⟨0, [], H1.out, rfl, hid (own_fresh (cs := #[]) (zs := []) (hid rfl) rfl rfl (Nat.le_refl _) (Nat.zero_le _)), rfl, hid (ext_alloc _ _)⟩
  case round =>
    obtain ⟨k, ys, hk, rfl, ho, hy, he⟩ := hrel
    have hn2 : n ≤ 1048576 := HN.out
    obtain ⟨d0, d1, d2, d3, dl⟩ := Box.cells4 (Box.ext BX.out he.out)
    by_cases hlt : k + 1 < n
    · have e1 := (Below.cell he.out (p := ⟨b, off + k, none⟩) HB.out).trans (HC.out k (by omega))
      have e2 := (Below.cell he.out (p := ⟨b, off + (k + 1), none⟩) HB.out).trans (HC.out (k + 1) hlt)
      have hs := hid (refl_snoc zs k)
      generalize zs.getD k 0 = x at e1 hs
      generalize zs.getD (k + 1) 0 = y at e2 hs
      have hi0 : (0 : Int) ≤ (k : Int) := by omega
      have hi1 : (k : Int) < (n : Int) := by omega
      have hi2 : (k : Int) + 1 < (n : Int) := by omega
      have hi3 : (0 : Int) ≤ (k : Int) + 1 := by omega
      have hi4 : ((k : Int) + 1).toNat = k + 1 := by omega
      go_wp2_with fail
      refine wp_region_move_tail 34 (by kernel_rfl) (by kernel_rfl) (by kernel_rfl) (fun _ _ _ h => h) (Or.inl ⟨by rfl, fun w => by simp [execOp]; rfl⟩) ?_
      simp only [List.take_succ_cons, List.take_zero, List.drop_succ_cons, List.drop_zero]
      repeat (first | (refine wpM_mult0 rfl rfl ?_; refine mult_farith rfl rfl rfl rfl ?_; intro r hr hrw; try replace hr := hid hr.out) | (refine wpM_mult0 rfl rfl ?_; refine mult_iadd rfl rfl rfl (by omega) (by omega) ?_; simp only [Act.put, List.setIfInBounds_toArray, List.set_cons_zero, List.set_cons_succ]) | (refine wpM_quiet rfl (fun K hK => ?_); go_simp; refine hK _ ?_; clear hK K))
      refine wpM_nil ?_
      intro w3 hw3
      obtain ⟨nq, hw3⟩ := hw3
      subst hw3
      rename_i r1 hrw1 hr1 r2 hrw2 hr2
      have hcl := hid (show cls .f32 r = reflQ (cls .f32 x) (cls .f32 y) from by
        unfold reflQ
        rw [hr.out, hr2.out, hr1.out])
      go_wp2_with (at_builtin; refine wpList_append_lies _ rfl _ _ 22 rfl w.heap.size 23 i0 (.float .f32 0) 1 4 Try.underlying22 HI.out.1 HI.out.2.1 HI.out.2.2.1 HI.out.2.2.2 rfl (by decide) _ _ _ rfl (Own.alloc (Own.drewN ho.out _) _) ⟨wr.heap.size, 0, none⟩ 1 1 [.float .f32 r] rfl rfl (World.news_of_block (heap_alloc_new _ _)) (by intro u hu; simp at hu; subst hu; rfl) (by omega) (by have h9 := HN.out; unfold maxLen; omega) (by have h9 := HN.out; omega) (by have h8 := Ext.size he.out; simp; omega) _ rfl ?_; intro g cap w1 hown hgrow hat hlt2)
      have g1 := hid (own_snoc20 hown)
      have g2 := hid (show Ext w w1 from But.below hgrow (Ext.alloc (Ext.drewN he.out _) _) (fun k2 hk2 => (Own.block ho.out k2 hk2).1))
      have g3 := hid (show (ys ++ [r]).map (cls .f32) = reflK zs (k + 1) from by rw [List.map_append, hy.out, hs.out]; exact congrArg (fun z => _ ++ [z]) hcl.out)
      clear hown hgrow hat hlt2
      go_wp2
      go_roundw
      case rel => exact ⟨k + 1, ys ++ [r], by omega, by go_num, g1, g3, g2⟩
      case measure => simp [intOf]; omega
    · have hkn : k = n - 1 := by omega
      have hf : ¬ ((k : Int) + 1 < (n : Int)) := by omega
      go_wp2
      go_ret
      subst hkn
      exact ⟨_, rfl, ys, ho.out, hy.out, he.out⟩
set_option maxHeartbeats 1000000 in
theorem sReflections_any (a : Option Addr) (n c l t p : Nat) (zs : List Nat) (R : List (Option Nat)) (O : Bool) (w : World) (h : Holds .f32 w a n zs) (hn : n ≤ 1048576) (hR : reflR zs (cls .f32 l) (cls .f32 t) (cls .f32 p) = (R, O)) :
    Calls Try.prog 35 #[.agg #[.slice a n c, .float .f32 l, .float .f32 t, .float .f32 p]] w fun e w' => ∃ v, e = .returned (.tuple #[v, .bool O]) ∧ ListIs w' w.heap.size R v ∧ Ext w w' := by
  have HH := hid h
  have HN := hid hn
  have HL := hid h.1
  cases hV : tubeC (zs.map (cls .f32)) (cls .f32 l) (cls .f32 t) (cls .f32 p)
  · have e := hR
    unfold reflR at e
    rw [hV] at e
    simp only [Bool.false_eq_true, if_false, Prod.mk.injEq] at e
    obtain ⟨rfl, rfl⟩ := e
    clear h hn hR
    go_enter Try.func35, Try.ntmps35
    go_wp2_with fail
    refine (l02Is_any _ _ _ _ _ _ _ zs _ (box_new _ _) (Holds.ext HH.out (by (repeat with_reducible (first | exact Ext.refl _ | exact ext_alloc _ _ | refine Ext.drewN ?_ _ | refine Ext.drew1 ?_ | refine Ext.set ?_ (by dsimp only; omega) _ | refine Ext.alloc ?_ _)))) HN.out).mono ?_
    rintro e w1 ⟨rfl, m, rfl⟩
    simp only [hV]
    go_wp2_with fail
    go_ret2
    refine ⟨_, rfl, nil_is _ _, ?_⟩
    (repeat with_reducible (first | exact Ext.refl _ | exact ext_alloc _ _ | refine Ext.drewN ?_ _ | refine Ext.drew1 ?_ | refine Ext.set ?_ (by dsimp only; omega) _ | refine Ext.alloc ?_ _))
  have e := hR
  unfold reflR at e
  rw [hV] at e
  simp only [if_true, Prod.mk.injEq] at e
  obtain ⟨hRR, rfl⟩ := e
  have HR := hid hRR
  have HF := hid (refl_fins hV)
  have H1 : Hid (1 ≤ n) := by
    have h2 := (tube_len hV).1
    have h3 := h.1
    simp at h2; exact hid (by omega)
  clear h hn hR hRR
  go_enter Try.func35, Try.ntmps35
  go_wp2_with fail
  refine (l02Is_any _ _ _ _ _ _ _ zs _ (box_new _ _) (Holds.ext HH.out (by (repeat with_reducible (first | exact Ext.refl _ | exact ext_alloc _ _ | refine Ext.drewN ?_ _ | refine Ext.drew1 ?_ | refine Ext.set ?_ (by dsimp only; omega) _ | refine Ext.alloc ?_ _)))) HN.out).mono ?_
  rintro e1 w1 ⟨rfl, m, rfl⟩
  simp only [hV]
  go_wp2_with fail
  refine (l02Reflections_any _ _ _ _ _ _ _ zs _ (Box.ext (box_new (w := w) #[.slice a n c, .float .f32 l, .float .f32 t, .float .f32 p] 27) (by (repeat with_reducible (first | exact Ext.refl _ | exact ext_alloc _ _ | refine Ext.drewN ?_ _ | refine Ext.drew1 ?_ | refine Ext.set ?_ (by dsimp only; omega) _ | refine Ext.alloc ?_ _)))) (Holds.ext HH.out (by (repeat with_reducible (first | exact Ext.refl _ | exact ext_alloc _ _ | refine Ext.drewN ?_ _ | refine Ext.drew1 ?_ | refine Ext.set ?_ (by dsimp only; omega) _ | refine Ext.alloc ?_ _)))) H1.out HN.out).mono ?_
  rintro e2 w2 ⟨v, ys, rfl, O2, hy, E2⟩
  obtain ⟨a2, c2, rfl, O3, _⟩ := Own.holds O2
  have HY := hid hy
  have HO := hid (Own.base O2 (B' := w.heap.size) (by simp <;> omega))
  have EE := hid (show Ext w w2 from Ext.trans (by (repeat with_reducible (first | exact Ext.refl _ | exact ext_alloc _ _ | refine Ext.drewN ?_ _ | refine Ext.drew1 ?_ | refine Ext.set ?_ (by dsimp only; omega) _ | refine Ext.alloc ?_ _))) E2)
  clear O2 E2 O3
  go_wp2_with fail
  refine (l02List_good _ _ _ ys _ (own_hold HO.out) (by have := HN.out; omega) (by rw [HY.out]; have := HF.out; rw [HL.out] at this; exact this)).mono ?_
  rintro e3 w3 ⟨rfl, E3⟩
  have HO3 := hid (Own.ext HO.out E3)
  have EE3 := hid (Ext.trans EE.out E3)
  clear E3
  go_wp2
  go_ret2
  exact ⟨_, rfl, list_is HO3.out (by rw [HY.out, ← HR.out, HL.out]), EE3.out⟩
set_option maxHeartbeats 2000000 in
set_option maxRecDepth 100000 in
theorem reflections_any (a : Option Addr) (n c l t p : Nat) (zs : List Nat) (R : List (Option Nat)) (O : Bool) (w : World) (h : Holds .f32 w a n zs) (hn : n ≤ 1048576) (hcap : n ≤ c) (hR : reflR zs (cls .f32 l) (cls .f32 t) (cls .f32 p) = (R, O)) :
    Calls Try.prog 36 #[.agg #[.slice a n c, .float .f32 l, .float .f32 t, .float .f32 p]] w fun e w' => ∃ v, e = .returned (.tuple #[v, .bool O]) ∧ ListIs w' w.heap.size R v ∧ Ext w w' := by
  have HH := hid h
  have HN := hid hn
  have HL := hid h.1
  have HCAP := hid hcap
  cases hV : tubeC (zs.map (cls .f32)) (cls .f32 l) (cls .f32 t) (cls .f32 p)
  · have e := hR
    unfold reflR at e
    rw [hV] at e
    simp only [Bool.false_eq_true, if_false, Prod.mk.injEq] at e
    obtain ⟨rfl, rfl⟩ := e
    clear h hn hR hcap
    go_enter Try.func36, Try.ntmps36
    go_wp2_with fail
    refine (validTube_any _ _ _ _ _ _ zs _ (Holds.ext HH.out (by (repeat with_reducible (first | exact Ext.refl _ | exact ext_alloc _ _ | refine Ext.drewN ?_ _ | refine Ext.drew1 ?_ | refine Ext.set ?_ (by dsimp only; omega) _ | refine Ext.alloc ?_ _)))) HN.out).mono ?_
    rintro e w1 ⟨rfl, m, rfl⟩
    simp only [hV]
    go_wp2_with fail
    go_ret2
    refine ⟨_, rfl, nil_is _ _, ?_⟩
    (repeat with_reducible (first | exact Ext.refl _ | exact ext_alloc _ _ | refine Ext.drewN ?_ _ | refine Ext.drew1 ?_ | refine Ext.set ?_ (by dsimp only; omega) _ | refine Ext.alloc ?_ _))
  have e := hR
  unfold reflR at e
  rw [hV] at e
  simp only [if_true, Prod.mk.injEq] at e
  obtain ⟨hRR, rfl⟩ := e
  have HR := hid hRR
  have h1 : 1 ≤ n := by
    have h2 := (tube_len hV).1
    have h3 := h.1
    simp at h2; omega
  obtain ⟨b, off, rfl, hb, hl, hc⟩ := Holds.some_of h h1
  have HB := hid hb
  have HC := hid hc
  have H1 := hid h1
  obtain ⟨i0, hi, hz0, hz1, hz2⟩ := info_parts infoF
  have HI := hid (And.intro hi (And.intro hz0 (And.intro hz1 hz2)))
  have hmk : ∀ wm : World, (Instr.makeSlice 22 (.int .i64 (0 : Int)) (.int .i64 (n : Int))).run Try.prog wm = .ok (.slice (some ⟨wm.heap.size, 0, none⟩) 0 n) (wm.alloc (.cells (madeCells #[.float .f32 0] n) 23)) := by
    intro wm
    have := run_make (P := Try.prog) wm 22 23 i0 (.float .f32 0) Try.underlying22 hi hz0 .i64 .i64 (0 : Int) (n : Int) (by omega) (by omega) (by rw [hz2]; omega) (by omega)
    rw [hz1] at this
    simpa [Value.cells] using this
  have HM := hid (size_madeCells #[.float .f32 0] n)
  have HO0 : Hid (∀ wm : World, Own (wm.alloc (.cells (madeCells #[.float .f32 0] n) 23)) wm.heap.size 0 (.slice (some ⟨wm.heap.size, 0, none⟩) 0 n) []) :=
    hid (fun wm => World.ownsRow_made (e := 23) (size := 1) (base := wm.heap.size) wm (madeCells #[.float .f32 0] n) n (Nat.le_refl _) (by unfold maxLen; omega) (by rw [HM.out]; omega))
  clear h hn hR hRR hcap hb hl hc h1 hi hz0 hz1 hz2
  go_enter Try.func36, Try.ntmps36
  go_wp2_with fail
  refine (validTube_ext _ _ _ _ _ _ zs true _ (Holds.ext HH.out (by (repeat with_reducible (first | exact Ext.refl _ | exact ext_alloc _ _ | refine Ext.drewN ?_ _ | refine Ext.drew1 ?_ | refine Ext.set ?_ (by dsimp only; omega) _ | refine Ext.alloc ?_ _)))) HN.out hV).mono ?_
  rintro e w1 ⟨rfl, E1⟩
  have EX1 := hid (show Ext w w1 from Ext.trans (by (repeat with_reducible (first | exact Ext.refl _ | exact ext_alloc _ _ | refine Ext.drewN ?_ _ | refine Ext.drew1 ?_ | refine Ext.set ?_ (by dsimp only; omega) _ | refine Ext.alloc ?_ _))) E1)
  have BA1 := hid (Box.ext (Box.ext (box_new (w := w) #[.slice (some ⟨b, off, none⟩) n c, .float .f32 l, .float .f32 t, .float .f32 p] 27) (by (repeat with_reducible (first | exact Ext.refl _ | exact ext_alloc _ _ | refine Ext.drewN ?_ _ | refine Ext.drew1 ?_ | refine Ext.set ?_ (by dsimp only; omega) _ | refine Ext.alloc ?_ _)))) E1)
  clear E1
  obtain ⟨d0, d1, d2, d3, dl⟩ := Box.cells4 BA1.out
  have hn2 : n ≤ 1048576 := HN.out
  have hcap : n ≤ c := HCAP.out
  have hq1 : (1 : Int) ≤ (n : Int) := by have := H1.out; omega
  have hq2 : 1 ≤ n := H1.out
  have hq3 : 1 ≤ c := by omega
  by_cases hc1 : c = 1
  · have hn1 : n = 1 := by omega
    have HN1 := hid hn1
    have hmk1 : ∀ wm : World, (Instr.makeSlice 22 (.int .i64 (0 : Int)) (.int .i64 (1 : Int))).run Try.prog wm = .ok (.slice (some ⟨wm.heap.size, 0, none⟩) 0 1) (wm.alloc (.cells (madeCells #[.float .f32 0] 1) 23)) := by
      have := hmk
      rw [hn1] at this
      exact this
    have HO1 : Hid (∀ wm : World, Own (wm.alloc (.cells (madeCells #[.float .f32 0] 1) 23)) wm.heap.size 0 (.slice (some ⟨wm.heap.size, 0, none⟩) 0 1) []) := hid (fun wm => by have := HO0.out wm; rw [hn1] at this; exact this)
    go_wp2
    go_loopw [4, 19] (fun v i wr => i = .int .i64 0 ∧ v = .slice (some ⟨w1.heap.size, 0, none⟩) 0 1 ∧ Hid (wr = w1.alloc (.cells (madeCells #[.float .f32 0] 1) 23))) (fun _ _ _ => 0)
    case atStart => exact ⟨rfl, rfl, hid rfl⟩
    case round =>
      obtain ⟨rfl, rfl, hw⟩ := hrel
      go_wp2
      go_ret2
      rw [hw.out]
      refine ⟨_, rfl, list_is (Own.base (HO1.out w1) (Ext.size EX1.out)) ?_, Ext.trans EX1.out (ext_alloc _ _)⟩
      rw [← HR.out, HL.out, HN1.out]; rfl
  · go_wp2
    go_loopw [4, 19] (fun v i wr => ∃ (k : Nat) (ys : List Nat), k + 1 ≤ n ∧ i = .int .i64 k ∧ Hid (Own wr w1.heap.size k v ys) ∧ Hid (ys.map (cls .f32) = reflK zs k) ∧ Hid (Ext w1 wr)) (fun _ i _ => n - (intOf i).toNat)
    case atStart => exact ⟨0, [], H1.out, rfl, hid (HO0.out w1), rfl, hid (ext_alloc _ _)⟩
    case round =>
      obtain ⟨k, ys, hk, rfl, ho, hy, he⟩ := hrel
      clear hmk d0 d1 d2 d3 dl
      obtain ⟨d0, d1, d2, d3, dl⟩ := Box.cells4 (Box.ext BA1.out he.out)
      by_cases hlt : k + 1 < n
      · have e1 := (Below.cell (Ext.trans EX1.out he.out) (p := ⟨b, off + k, none⟩) HB.out).trans (HC.out k (by omega))
        have e2 := (Below.cell (Ext.trans EX1.out he.out) (p := ⟨b, off + (k + 1), none⟩) HB.out).trans (HC.out (k + 1) hlt)
        have hoff : off + (k + 1) = off + 1 + k := by omega
        rw [hoff] at e2
        have hs := hid (refl_snoc zs k)
        generalize zs.getD k 0 = x at e1 hs
        generalize zs.getD (k + 1) 0 = y at e2 hs
        have hi0 : (0 : Int) ≤ (k : Int) := by omega
        have hi1 : (k : Int) < (n : Int) := by omega
        have hi2 : (k : Int) < ((n - 1 : Nat) : Int) := by omega
        go_wp2_with (first | (refine wpList_fa rfl rfl rfl rfl rfl (by first | assumption | exact is_self _ _) (by first | assumption | exact is_self _ _) ?_; intro r m hr hrw) | (at_builtin; refine wpList_append_lies _ rfl _ _ 22 rfl w1.heap.size 23 i0 (.float .f32 0) 1 4 Try.underlying22 HI.out.1 HI.out.2.1 HI.out.2.2.1 HI.out.2.2.2 rfl (by decide) _ _ _ rfl (Own.alloc (Own.drewN ho.out _) _) ⟨wr.heap.size, 0, none⟩ 1 1 [.float .f32 r] rfl rfl (World.news_of_block (heap_alloc_new _ _)) (by intro u hu; simp at hu; subst hu; rfl) (by omega) (by have h9 := HN.out; unfold maxLen; omega) (by have h9 := HN.out; omega) (by have h8 := Ext.size he.out; simp; omega) _ rfl ?_; intro g cap w2 hown hgrow hat hlt2))
        have g1 := hid (own_snoc20 hown)
        have g2 := hid (show Ext w1 w2 from But.below hgrow (Ext.alloc (Ext.drewN he.out _) _) (fun k2 hk2 => (Own.block ho.out k2 hk2).1))
        have g3 := hid (show (ys ++ [r]).map (cls .f32) = reflK zs (k + 1) from by rw [List.map_append, hy.out, hs.out]; exact congrArg (fun z => _ ++ [z]) hr)
        clear hown hgrow hat hlt2
        go_wp2
        go_roundw
        case rel => exact ⟨k + 1, ys ++ [r], by omega, by go_num, g1, g3, g2⟩
        case measure => simp [intOf]; omega
      · have hkn : k = n - 1 := by omega
        have hf : ¬ ((k : Int) < ((n - 1 : Nat) : Int)) := by omega
        go_wp2
        go_ret2
        exact ⟨_, rfl, list_is (Own.base ho.out (Ext.size EX1.out)) (by rw [hy.out, ← HR.out, HL.out, hkn]), Ext.trans EX1.out he.out⟩
end Go.Proofs.Ytnmigjiaeahekaa
