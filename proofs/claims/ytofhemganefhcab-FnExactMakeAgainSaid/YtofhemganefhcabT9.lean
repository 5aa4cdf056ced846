/- Areas out of reflections. -/
import Derived.Test.YtofhemganefhcabT4
namespace Go.Proofs.Ytofhemganefhcab
open Go.RowKit Flt
set_option linter.unusedVariables false

def stepC (x r : Option Nat) : Option Nat := fop .mul .f32 x (fop .quo .f32 (fop .sub .f32 (some 1065353216) r) (fop .add .f32 (some 1065353216) r))
def okC (r : Option Nat) : Bool := fcmp .gtr (ford .f32 r (some 3212836864)) && fcmp .lss (ford .f32 r (some 1065353216))
def seqC (x : Option Nat) : List (Option Nat) → List (Option Nat)
  | [] => [x]
  | r :: rs => x :: seqC (stepC x r) rs
def lastC (x : Option Nat) (rs : List (Option Nat)) : Option Nat := rs.foldl stepC x
theorem seq_snoc (rs : List (Option Nat)) (r : Option Nat) : ∀ x, seqC x (rs ++ [r]) = seqC x rs ++ [stepC (lastC x rs) r] := by
  induction rs with
  | nil => intro x; rfl
  | cons a rs ih => intro x; show x :: seqC (stepC x a) (rs ++ [r]) = _; rw [ih]; rfl
theorem last_snoc (x : Option Nat) (rs : List (Option Nat)) (r : Option Nat) : lastC x (rs ++ [r]) = stepC (lastC x rs) r := by simp [lastC]
theorem seq_len (rs : List (Option Nat)) : ∀ x, (seqC x rs).length = rs.length + 1 := by
  induction rs with
  | nil => intro x; rfl
  | cons a rs ih => intro x; show (seqC (stepC x a) rs).length + 1 = _; rw [ih]; rfl
def fromR (x : Option Nat) (cs : List (Option Nat)) : List (Option Nat) × Bool := if (decide (cs.length < 16) && (cs.all okC && areasC (seqC x cs))) = true then (seqC x cs, true) else ([], false)
theorem from_len (x : Option Nat) (cs : List (Option Nat)) : (fromR x cs).1.length ≤ 16 := by
  unfold fromR
  split
  · rename_i h
    simp at h
    exact (areas_len h.2.2).2
  · exact Nat.zero_le _
/-- the value is this list, of the call's own -/
def ListIs (w : World) (B : Nat) (R : List (Option Nat)) (v : Value) : Prop := ∃ a c zs, v = .slice a R.length c ∧ Own w B R.length (.slice a R.length c) zs ∧ zs.map (cls .f32) = R
theorem nil_is (w : World) (B : Nat) : ListIs w B [] (.slice none 0 0) := ⟨none, 0, [], rfl, own_nil _ _, rfl⟩
theorem list_is {w : World} {B n : Nat} {v : Value} {zs : List Nat} {R : List (Option Nat)} (h : Own w B n v zs) (e : zs.map (cls .f32) = R) : ListIs w B R v := by
  have hl := h.len
  have e1 : R.length = n := by rw [← e]; simp [hl]
  obtain ⟨a, c, rfl, _⟩ := Own.holds h
  exact ⟨a, c, zs, by rw [e1], by rw [e1]; exact h, e⟩
theorem own_snoc9 {w : World} {B k : Nat} {v : Value} {ys : List Nat} {r : Nat} (h : w.ownsRow B 23 1 v (k + 1) (ys.map (Value.float .f32) ++ [.float .f32 r])) : Own w B (k + 1) v (ys ++ [r]) := by
  unfold Own; simpa using h

set_option maxHeartbeats 1000000 in
set_option maxRecDepth 100000 in
theorem areasFrom_any (a : Option Addr) (n c x : Nat) (zs : List Nat) (R : List (Option Nat)) (O : Bool) (w : World) (h : Holds .f32 w a n zs) (hn : n ≤ 1048576) (hR : fromR (cls .f32 x) (zs.map (cls .f32)) = (R, O)) :
    Calls Try.prog 60 #[.slice a n c, .float .f32 x] w fun e w' => ∃ v, e = .returned (.tuple #[v, .bool O]) ∧ ListIs w' w.heap.size R v ∧ Ext w w' := by
  obtain ⟨i0, hi, hz0, hz1, hz2⟩ := info_parts infoF
  have HI := hid (And.intro hi (And.intro hz0 (And.intro hz1 hz2)))
  have HL := hid h.1
  have HN := hid hn
  have HR := hid hR
  by_cases h16 : 16 ≤ n
  · have e : fromR (cls .f32 x) (zs.map (cls .f32)) = ([], false) := by
      unfold fromR
      rw [if_neg]
      have := h.1
      simp; intro h9; omega
    rw [e] at hR
    obtain ⟨rfl, rfl⟩ := Prod.mk.inj hR
    clear e hi hz0 hz1 hz2 h
    go_enter Try.func60, Try.ntmps60
    go_wp2
    go_ret2
    exact ⟨_, rfl, nil_is _ _, Ext.refl _⟩
  have hcell : ∀ wr, Ext w wr → ∀ k, k < n → ∃ b off, a = some ⟨b, off, none⟩ ∧ wr.cell? ⟨b, off + k, none⟩ = some (.float .f32 (zs.getD k 0)) := by
    intro wr e k hk
    rcases h.2 with h0 | ⟨b, off, rfl, hb, hc⟩
    · omega
    · exact ⟨b, off, rfl, (Below.cell e (p := ⟨b, off + k, none⟩) hb).trans (hc k hk)⟩
  have HC := hid hcell
  have HO0 := hid (own_new (w := w) (B := w.heap.size) (cs := #[.float .f32 x]) (zs := [x]) rfl (Nat.le_refl _) (by simp [maxLen]))
  clear hi hz0 hz1 hz2 h hcell hR
  go_enter Try.func60, Try.ntmps60
  go_wp2
  go_loopw [1, 6, 16] (fun ar v i wr => ∃ (k r0 : Nat) (ys : List Nat), k ≤ n ∧ i = .int .i64 k ∧ ar = .float .f32 r0 ∧ Hid (Is .f32 r0 (lastC (cls .f32 x) ((zs.take k).map (cls .f32)))) ∧ Hid (Own wr w.heap.size (k + 1) v ys) ∧ Hid (ys.map (cls .f32) = seqC (cls .f32 x) ((zs.take k).map (cls .f32))) ∧ Hid (∀ q, q < k → okC (cls .f32 (zs.getD q 0)) = true) ∧ Hid (Ext w wr)) (fun _ _ i _ => n - (intOf i).toNat)
  case atStart => exact ⟨0, x, [x], Nat.zero_le _, rfl, rfl, is_self _ _, hid HO0.out, rfl, hid (fun q hq => by omega), hid (ext_alloc _ _)⟩
  case round =>
    obtain ⟨k, r0, ys, hk, rfl, rfl, hr0, ho, hy, hok, he⟩ := hrel
    have hn2 : n ≤ 1048576 := HN.out
    have hr0' := hr0.out
    by_cases hlt : k < n
    · obtain ⟨b, off, rfl, e1⟩ := HC.out _ he.out k hlt
      have hs := hid (show (zs.take (k + 1)).map (cls .f32) = (zs.take k).map (cls .f32) ++ [cls .f32 (zs.getD k 0)] from by rw [take_snoc_getD zs k (by rw [HL.out]; exact hlt)]; simp)
      have hi0 : (0 : Int) ≤ (k : Int) := by omega
      have hi1 : (k : Int) < (n : Int) := by omega
      have hbad : Hid (okC (cls .f32 (zs.getD k 0)) = false → R = [] ∧ O = false) := fun hb => by
        have e : fromR (cls .f32 x) (zs.map (cls .f32)) = ([], false) := by
          unfold fromR
          rw [if_neg]
          rw [all_bad (by rw [HL.out]; exact hlt) hb]
          simp
        have := HR.out
        rw [e] at this
        exact ⟨(Prod.mk.inj this).1.symm, (Prod.mk.inj this).2.symm⟩
      have hgood := hid (fun (hb : okC (cls .f32 (zs.getD k 0)) = true) => upto_succ (P := fun q => okC (cls .f32 (zs.getD q 0)) = true) hok.out hb)
      generalize zs.getD k 0 = q at e1 hs hbad hgood
      cases h1 : fcmp .gtr (ford .f32 (cls .f32 q) (some 3212836864))
      · obtain ⟨rfl, rfl⟩ := hbad.out (by unfold okC; rw [h1]; rfl)
        have h2 : True := trivial
        go_wp2_with (refine wpList_fcmp rfl rfl rfl rfl rfl (by first | exact is_const (by decide) | exact is_self _ _) (by first | exact is_const (by decide) | exact is_self _ _) ?_; try simp only [h1])
        go_ret2
        exact ⟨_, rfl, nil_is _ _, he.out⟩
      cases h2 : fcmp .lss (ford .f32 (cls .f32 q) (some 1065353216))
      · obtain ⟨rfl, rfl⟩ := hbad.out (by unfold okC; rw [h1, h2]; rfl)
        go_wp2_with (refine wpList_fcmp rfl rfl rfl rfl rfl (by first | exact is_const (by decide) | exact is_self _ _) (by first | exact is_const (by decide) | exact is_self _ _) ?_; try simp only [h1, h2])
        go_ret2
        exact ⟨_, rfl, nil_is _ _, he.out⟩
      have hg2 := hid (hgood.out (by unfold okC; rw [h1, h2]; rfl))
      go_wp2_with (first | (refine wpList_fcmp rfl rfl rfl rfl rfl (by first | exact is_const (by decide) | exact is_self _ _) (by first | exact is_const (by decide) | exact is_self _ _) ?_; try simp only [h1, h2]) | (refine wpList_fa rfl rfl rfl rfl rfl (by first | assumption | exact is_const (by decide) | exact is_self _ _) (by first | assumption | exact is_const (by decide) | exact is_self _ _) ?_; intro r m hr hrw) | (at_builtin; refine wpList_append_lies _ rfl _ _ 22 rfl w.heap.size 23 i0 (.float .f32 0) 1 4 Try.underlying22 HI.out.1 HI.out.2.1 HI.out.2.2.1 HI.out.2.2.2 rfl (by decide) _ _ _ rfl (Own.alloc (Own.drewN ho.out _) _) ⟨wr.heap.size, 0, none⟩ 1 1 [.float .f32 r] rfl rfl (World.news_of_block (heap_alloc_new _ _)) (by intro u hu; simp at hu; subst hu; rfl) (by omega) (by have h9 := HN.out; unfold maxLen; omega) (by have h9 := HN.out; omega) (by have h8 := Ext.size he.out; simp; omega) _ rfl ?_; intro g cap w1 hown hgrow hat hlt2))
      have g1 := hid (own_snoc9 hown)
      have g2 := hid (show Ext w w1 from But.below hgrow (Ext.alloc (Ext.drewN he.out _) _) (fun k2 hk2 => (Own.block ho.out k2 hk2).1))
      have g4 := hid (show Is .f32 r (lastC (cls .f32 x) ((zs.take (k + 1)).map (cls .f32))) from by rw [hs.out, last_snoc]; exact hr)
      have g3 := hid (show (ys ++ [r]).map (cls .f32) = seqC (cls .f32 x) ((zs.take (k + 1)).map (cls .f32)) from by rw [List.map_append, hy.out, hs.out, seq_snoc]; exact congrArg (fun z => _ ++ [z]) hr)
      clear hown hgrow hat hlt2
      go_wp2
      go_roundw
      case rel => exact ⟨k + 1, r, ys ++ [r], by omega, by go_num, rfl, g4, g1, g3, hg2, g2⟩
      case measure => simp [intOf]; omega
    · have hkn : k = n := by omega
      subst hkn
      obtain ⟨va, vc, rfl, hvh, _⟩ := Own.holds ho.out
      have HV := hid hvh
      have hte := hid (show zs.take k = zs from List.take_of_length_le (by rw [HL.out]; exact Nat.le_refl _))
      have hal : Hid ((zs.map (cls .f32)).all okC = true) := all_good (fun j hj => hok.out j (by rw [HL.out] at hj; exact hj))
      have hys := hid (show ys.map (cls .f32) = seqC (cls .f32 x) (zs.map (cls .f32)) from by rw [hy.out, hte.out])
      have hfr := hid (show fromR (cls .f32 x) (zs.map (cls .f32)) = if areasC (seqC (cls .f32 x) (zs.map (cls .f32))) = true then (seqC (cls .f32 x) (zs.map (cls .f32)), true) else ([], false) from by
        unfold fromR
        have h9 : (zs.map (cls .f32)).length < 16 := by have := HL.out; simp; omega
        rw [hal.out]
        simp only [h9, decide_true, Bool.true_and])
      clear hr0'
      cases hA : areasC (seqC (cls .f32 x) (zs.map (cls .f32)))
      · have e := HR.out
        rw [hfr.out, hA] at e
        obtain ⟨rfl, rfl⟩ := Prod.mk.inj e
        go_wp2_with fail
        refine (areAreas_any _ _ _ ys _ HV.out (by omega)).mono ?_
        rintro e w3 ⟨rfl, m3, rfl⟩
        simp only [hys.out, hA]
        go_wp2
        go_ret2
        exact ⟨_, rfl, nil_is _ _, Ext.drewN he.out _⟩
      · have e := HR.out
        rw [hfr.out, hA] at e
        obtain ⟨rfl, rfl⟩ := Prod.mk.inj e
        go_wp2_with fail
        refine (areAreas_any _ _ _ ys _ HV.out (by omega)).mono ?_
        rintro e w3 ⟨rfl, m3, rfl⟩
        simp only [hys.out, hA]
        go_wp2
        go_ret2
        exact ⟨_, rfl, list_is (Own.drewN ho.out _) hys.out, Ext.drewN he.out _⟩

set_option maxHeartbeats 1000000 in
set_option maxRecDepth 100000 in
theorem l02From_any (a : Option Addr) (n c x : Nat) (zs : List Nat) (R : List (Option Nat)) (O : Bool) (w : World) (h : Holds .f32 w a n zs) (hn : n ≤ 1048576) (hR : fromR (cls .f32 x) (zs.map (cls .f32)) = (R, O)) :
    Calls Try.prog 114 #[.slice a n c, .float .f32 x] w fun e w' => ∃ v, e = .returned (.tuple #[v, .bool O]) ∧ (O = true → ListIs w' w.heap.size R v) ∧ Ext w w' := by
  obtain ⟨i0, hi, hz0, hz1, hz2⟩ := info_parts infoF
  have HI := hid (And.intro hi (And.intro hz0 (And.intro hz1 hz2)))
  have HL := hid h.1
  have HN := hid hn
  have HR := hid hR
  by_cases h16 : 16 ≤ n
  · have e : fromR (cls .f32 x) (zs.map (cls .f32)) = ([], false) := by
      unfold fromR
      rw [if_neg]
      have := h.1
      simp; intro h9; omega
    rw [e] at hR
    obtain ⟨rfl, rfl⟩ := Prod.mk.inj hR
    clear e hi hz0 hz1 hz2 h
    go_enter Try.func114, Try.ntmps114
    go_wp2
    refine wp_loop_rounds 1 ?_
    rw [rounds_succ]
    go_wp2
    go_ret2
    first | (refine ⟨⟨_, rfl⟩, ?_⟩; (repeat with_reducible (first | exact Ext.refl _ | exact ext_alloc _ _ | refine Ext.drewN ?_ _ | refine Ext.drew1 ?_ | refine Ext.set ?_ (by dsimp only; omega) _ | refine Ext.alloc ?_ _))) | (refine ⟨_, rfl, ?_⟩; (repeat with_reducible (first | exact Ext.refl _ | exact ext_alloc _ _ | refine Ext.drewN ?_ _ | refine Ext.drew1 ?_ | refine Ext.set ?_ (by dsimp only; omega) _ | refine Ext.alloc ?_ _))) | (refine ⟨_, rfl, (fun h => by cases h), ?_⟩; (repeat with_reducible (first | exact Ext.refl _ | exact ext_alloc _ _ | refine Ext.drewN ?_ _ | refine Ext.drew1 ?_ | refine Ext.set ?_ (by dsimp only; omega) _ | refine Ext.alloc ?_ _)))
  have hcell : ∀ wr, Ext w wr → ∀ k, k < n → ∃ b off, a = some ⟨b, off, none⟩ ∧ wr.cell? ⟨b, off + k, none⟩ = some (.float .f32 (zs.getD k 0)) := by
    intro wr e k hk
    rcases h.2 with h0 | ⟨b, off, rfl, hb, hc⟩
    · omega
    · exact ⟨b, off, rfl, (Below.cell e (p := ⟨b, off + k, none⟩) hb).trans (hc k hk)⟩
  have HC := hid hcell
  have HO0 := hid (own_new (w := w) (B := w.heap.size) (cs := #[.float .f32 x]) (zs := [x]) rfl (Nat.le_refl _) (by simp [maxLen]))
  clear hi hz0 hz1 hz2 h hcell hR
  go_enter Try.func114, Try.ntmps114
  go_wp2
  go_loopw [1, 6, 7] (fun ar v i wr => ∃ (k r0 : Nat) (ys : List Nat), k ≤ n ∧ i = .int .i64 k ∧ ar = .float .f32 r0 ∧ Hid (Is .f32 r0 (lastC (cls .f32 x) ((zs.take k).map (cls .f32)))) ∧ Hid (Own wr w.heap.size (k + 1) v ys) ∧ Hid (ys.map (cls .f32) = seqC (cls .f32 x) ((zs.take k).map (cls .f32))) ∧ Hid (∀ q, q < k → okC (cls .f32 (zs.getD q 0)) = true) ∧ Hid (Ext w wr)) (fun _ _ i _ => n - (intOf i).toNat)
  case atStart => exact ⟨0, x, [x], Nat.zero_le _, rfl, rfl, is_self _ _, hid HO0.out, rfl, hid (fun q hq => by omega), hid (ext_alloc _ _)⟩
  case round =>
    obtain ⟨k, r0, ys, hk, rfl, rfl, hr0, ho, hy, hok, he⟩ := hrel
    have hn2 : n ≤ 1048576 := HN.out
    have hr0' := hr0.out
    by_cases hlt : k < n
    · obtain ⟨b, off, rfl, e1⟩ := HC.out _ he.out k hlt
      have hs := hid (show (zs.take (k + 1)).map (cls .f32) = (zs.take k).map (cls .f32) ++ [cls .f32 (zs.getD k 0)] from by rw [take_snoc_getD zs k (by rw [HL.out]; exact hlt)]; simp)
      have hi0 : (0 : Int) ≤ (k : Int) := by omega
      have hi1 : (k : Int) < (n : Int) := by omega
      have hbad : Hid (okC (cls .f32 (zs.getD k 0)) = false → R = [] ∧ O = false) := fun hb => by
        have e : fromR (cls .f32 x) (zs.map (cls .f32)) = ([], false) := by
          unfold fromR
          rw [if_neg]
          rw [all_bad (by rw [HL.out]; exact hlt) hb]
          simp
        have := HR.out
        rw [e] at this
        exact ⟨(Prod.mk.inj this).1.symm, (Prod.mk.inj this).2.symm⟩
      have hgood := hid (fun (hb : okC (cls .f32 (zs.getD k 0)) = true) => upto_succ (P := fun q => okC (cls .f32 (zs.getD q 0)) = true) hok.out hb)
      generalize zs.getD k 0 = q at e1 hs hbad hgood
      cases h1 : fcmp .gtr (ford .f32 (cls .f32 q) (some 3212836864))
      · obtain ⟨rfl, rfl⟩ := hbad.out (by unfold okC; rw [h1]; rfl)
        have h2 : True := trivial
        go_wp2_with (refine wpList_fcmp rfl rfl rfl rfl rfl (by first | exact is_const (by decide) | exact is_self _ _) (by first | exact is_const (by decide) | exact is_self _ _) ?_; try simp only [h1])
        go_ret2
        first | exact ⟨⟨_, rfl⟩, he.out⟩ | exact he.out | exact ⟨_, rfl, he.out⟩ | exact ⟨_, rfl, (fun h => by cases h), he.out⟩
      cases h2 : fcmp .lss (ford .f32 (cls .f32 q) (some 1065353216))
      · obtain ⟨rfl, rfl⟩ := hbad.out (by unfold okC; rw [h1, h2]; rfl)
        go_wp2_with (refine wpList_fcmp rfl rfl rfl rfl rfl (by first | exact is_const (by decide) | exact is_self _ _) (by first | exact is_const (by decide) | exact is_self _ _) ?_; try simp only [h1, h2])
        go_ret2
        first | exact ⟨⟨_, rfl⟩, he.out⟩ | exact he.out | exact ⟨_, rfl, he.out⟩ | exact ⟨_, rfl, (fun h => by cases h), he.out⟩
      have hg2 := hid (hgood.out (by unfold okC; rw [h1, h2]; rfl))
      go_wp2_with (first | (refine wpList_fcmp rfl rfl rfl rfl rfl (by first | exact is_const (by decide) | exact is_self _ _) (by first | exact is_const (by decide) | exact is_self _ _) ?_; try simp only [h1, h2]) | (refine wpList_fa rfl rfl rfl rfl rfl (by first | assumption | exact is_const (by decide) | exact is_self _ _) (by first | assumption | exact is_const (by decide) | exact is_self _ _) ?_; intro r m hr hrw) | (at_builtin; refine wpList_append_lies _ rfl _ _ 22 rfl w.heap.size 23 i0 (.float .f32 0) 1 4 Try.underlying22 HI.out.1 HI.out.2.1 HI.out.2.2.1 HI.out.2.2.2 rfl (by decide) _ _ _ rfl (Own.alloc (Own.drewN ho.out _) _) ⟨wr.heap.size, 0, none⟩ 1 1 [.float .f32 r] rfl rfl (World.news_of_block (heap_alloc_new _ _)) (by intro u hu; simp at hu; subst hu; rfl) (by omega) (by have h9 := HN.out; unfold maxLen; omega) (by have h9 := HN.out; omega) (by have h8 := Ext.size he.out; simp; omega) _ rfl ?_; intro g cap w1 hown hgrow hat hlt2))
      have g1 := hid (own_snoc9 hown)
      have g2 := hid (show Ext w w1 from But.below hgrow (Ext.alloc (Ext.drewN he.out _) _) (fun k2 hk2 => (Own.block ho.out k2 hk2).1))
      have g4 := hid (show Is .f32 r (lastC (cls .f32 x) ((zs.take (k + 1)).map (cls .f32))) from by rw [hs.out, last_snoc]; exact hr)
      have g3 := hid (show (ys ++ [r]).map (cls .f32) = seqC (cls .f32 x) ((zs.take (k + 1)).map (cls .f32)) from by rw [List.map_append, hy.out, hs.out, seq_snoc]; exact congrArg (fun z => _ ++ [z]) hr)
      clear hown hgrow hat hlt2
      go_wp2
      go_roundw
      case rel => exact ⟨k + 1, r, ys ++ [r], by omega, by go_num, rfl, g4, g1, g3, hg2, g2⟩
      case measure => simp [intOf]; omega
    · have hkn : k = n := by omega
      subst hkn
      obtain ⟨va, vc, rfl, hvh, _⟩ := Own.holds ho.out
      have HV := hid hvh
      have hte := hid (show zs.take k = zs from List.take_of_length_le (by rw [HL.out]; exact Nat.le_refl _))
      have hal : Hid ((zs.map (cls .f32)).all okC = true) := all_good (fun j hj => hok.out j (by rw [HL.out] at hj; exact hj))
      have hys := hid (show ys.map (cls .f32) = seqC (cls .f32 x) (zs.map (cls .f32)) from by rw [hy.out, hte.out])
      have hfr := hid (show fromR (cls .f32 x) (zs.map (cls .f32)) = if areasC (seqC (cls .f32 x) (zs.map (cls .f32))) = true then (seqC (cls .f32 x) (zs.map (cls .f32)), true) else ([], false) from by
        unfold fromR
        have h9 : (zs.map (cls .f32)).length < 16 := by have := HL.out; simp; omega
        rw [hal.out]
        simp only [h9, decide_true, Bool.true_and])
      clear hr0'
      cases hA : areasC (seqC (cls .f32 x) (zs.map (cls .f32)))
      · have e := HR.out
        rw [hfr.out, hA] at e
        obtain ⟨rfl, rfl⟩ := Prod.mk.inj e
        go_wp2_with fail
        refine (l02Areas_any _ _ _ ys _ HV.out (by omega)).mono ?_
        rintro e w3 ⟨rfl, m3, rfl⟩
        simp only [hys.out, hA]
        go_wp2
        go_ret2
        first | exact ⟨⟨_, rfl⟩, Ext.drewN he.out _⟩ | exact Ext.drewN he.out _ | exact ⟨_, rfl, Ext.drewN he.out _⟩ | exact ⟨_, rfl, (fun h => by cases h), Ext.drewN he.out _⟩
      · have e := HR.out
        rw [hfr.out, hA] at e
        obtain ⟨rfl, rfl⟩ := Prod.mk.inj e
        go_wp2_with fail
        refine (l02Areas_any _ _ _ ys _ HV.out (by omega)).mono ?_
        rintro e w3 ⟨rfl, m3, rfl⟩
        simp only [hys.out, hA]
        go_wp2
        go_ret2
        first | exact ⟨_, rfl, list_is (Own.drewN ho.out _) hys.out, Ext.drewN he.out _⟩ | exact ⟨_, rfl, fun _ => list_is (Own.drewN ho.out _) hys.out, Ext.drewN he.out _⟩

theorem sAreasFrom_any (a : Option Addr) (n c x : Nat) (zs : List Nat) (R : List (Option Nat)) (O : Bool) (w : World) (h : Holds .f32 w a n zs) (hn : n ≤ 1048576) (hR : fromR (cls .f32 x) (zs.map (cls .f32)) = (R, O)) :
    Calls Try.prog 59 #[.slice a n c, .float .f32 x] w fun e w' => ∃ v, e = .returned (.tuple #[v, .bool O]) ∧ ListIs w' w.heap.size R v ∧ Ext w w' := by
  have HH := hid h
  have HN := hid hn
  have HR := hid hR
  have HO : Hid (O = false → R = []) := fun ho => by
    have h1 := hR
    unfold fromR at h1
    split at h1
    · have := (Prod.mk.inj h1).2; rw [ho] at this; cases this
    · exact (Prod.mk.inj h1).1.symm
  clear h hn hR
  cases O
  · have e := HO.out rfl
    subst e
    go_enter Try.func59, Try.ntmps59
    go_wp2_with fail
    refine (l02From_any _ _ _ _ zs _ _ _ HH.out HN.out HR.out).mono ?_
    rintro e w1 ⟨v, rfl, _, E1⟩
    have HE := hid E1
    clear E1
    go_wp2
    go_ret2
    exact ⟨_, rfl, nil_is _ _, HE.out⟩
  · go_enter Try.func59, Try.ntmps59
    go_wp2_with fail
    refine (l02From_any _ _ _ _ zs _ _ _ HH.out HN.out HR.out).mono ?_
    rintro e w1 ⟨v, rfl, hv, E1⟩
    have HE := hid E1
    have HV := hid (hv rfl)
    clear E1 hv
    go_wp2
    go_ret2
    exact ⟨_, rfl, HV.out, HE.out⟩
end Go.Proofs.Ytofhemganefhcab