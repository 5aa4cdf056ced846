/- A sound that is made again. -/
import Derived.Test.YtofhemganefhcabW13
import Derived.Test.YtofhemganefhcabT8
import Derived.Test.YtofhemganefhcabTail2
namespace Go.Proofs.Ytofhemganefhcab
open Go.RowKit Flt
set_option linter.unusedVariables false


/-- what steps predict behind a list of classes -/
def predY (us : List Nat) (ys : List (Option Nat)) (n : Nat) : Nat → Option Nat
  | 0 => some 0
  | k + 1 => fop .add .f32 (predY us ys n k) (fop .mul .f32 (cls .f32 (us.getD k 0)) (ys.getD (n - 1 - k) none))
theorem predY_map (us zs : List Nat) (n : Nat) (hn : n ≤ zs.length) : ∀ k, k ≤ n → predY us (zs.map (cls .f32)) n k = predK us zs n k
  | 0, _ => rfl
  | k + 1, hk => by
    show fop .add .f32 _ _ = fop .add .f32 _ _
    rw [predY_map us zs n hn k (by omega)]
    have e : (zs.map (cls .f32)).getD (n - 1 - k) none = cls .f32 (zs.getD (n - 1 - k) 0) := by
      simp [List.getD, show n - 1 - k < zs.length by omega]
    rw [e]
/-- the sound that is made again, number by number -/
def madeC (us zs : List Nat) : Nat → List (Option Nat)
  | 0 => []
  | k + 1 => madeC us zs k ++ [fop .add .f32 (cls .f32 (zs.getD k 0)) (predY us (madeC us zs k) k (min us.length k))]
theorem made_len (us zs : List Nat) : ∀ k, (madeC us zs k).length = k
  | 0 => rfl
  | k + 1 => by show (madeC us zs k ++ _).length = _; simp [made_len us zs k]
def makeR (us : List Nat) (g : Option Nat) (zs : List Nat) : List (Option Nat) × Bool := if predC (us.map (cls .f32)) g && soundB (zs.map (cls .f32)) then finR2 (madeC us zs zs.length) else ([], false)
theorem make_len (us : List Nat) (g : Option Nat) (zs : List Nat) : (makeR us g zs).1.length ≤ 256 := by
  unfold makeR
  split
  · rename_i h
    simp only [Bool.and_eq_true] at h
    have h1 := sound_len h.2
    have := finR2_len (madeC us zs zs.length)
    rw [made_len] at this
    simp at h1
    omega
  · exact Nat.zero_le _
theorem made_last {us zs : List Nat} {k : Nat} {ys : List Nat} (hy : ys.map (cls .f32) = madeC us zs k) : predX us ys k = predY us (madeC us zs k) k (min us.length k) := by
  have hl : ys.length = k := by have := congrArg List.length hy; rw [made_len] at this; simpa using this
  rw [← hy, predY_map us ys k (by omega) _ (Nat.min_le_right _ _)]
  rfl
theorem made_bad {us zs : List Nat} {k n : Nat} (hk : k < n) {X : Option Nat} (hX : predY us (madeC us zs k) k (min us.length k) = X) (h : fin32 (fop .add .f32 (cls .f32 (zs.getD k 0)) X) = false) : finR2 (madeC us zs n) = ([], false) := by
  unfold finR2
  rw [if_neg]
  intro h2
  unfold finsC at h2
  rw [List.all_eq_true] at h2
  have hm : ∀ n, k < n → fop .add .f32 (cls .f32 (zs.getD k 0)) X ∈ madeC us zs n := by
    intro n hn
    induction n with
    | zero => omega
    | succ n ih =>
      show _ ∈ madeC us zs n ++ _
      by_cases h3 : k = n
      · subst h3; rw [hX]; simp
      · exact List.mem_append_left _ (ih (by omega))
  have := h2 _ (hm n hk)
  rw [h] at this; cases this

set_option maxHeartbeats 4000000 in
set_option maxRecDepth 100000 in
theorem make_any (a a2 : Option Addr) (n c g m c2 : Nat) (us zs : List Nat) (R : List (Option Nat)) (O : Bool) (w : World) (h1 : Holds .f32 w a n us) (h2 : Holds .f32 w a2 m zs) (hn : n ≤ 1048576) (hm : m ≤ 1048576) (hR : makeR us (cls .f32 g) zs = (R, O)) :
    Calls Try.prog 31 #[.agg #[.slice a n c, .float .f32 g], .slice a2 m c2] w fun e w' => ∃ v, e = .returned (.tuple #[v, .bool O]) ∧ ListIs w' w.heap.size R v ∧ Ext w w' := by
  have H1 := hid h1
  have H2 := hid h2
  have HN := hid hn
  have HM := hid hm
  have HR := hid hR
  clear h1 h2 hn hm hR
  cases hV : predC (us.map (cls .f32)) (cls .f32 g)
  · have e : O = false ∧ R = [] := by have := HR.out; unfold makeR at this; rw [hV] at this; simpa [eq_comm, and_comm] using this
    obtain ⟨rfl, rfl⟩ := e
    go_enter Try.func31, Try.ntmps31
    go_wp2_with (first | (go_at_call 65; with_reducible refine (validP_drew a n c g us _ _ (Holds.ext H1.out (by (repeat with_reducible (first | exact Ext.refl _ | exact ext_alloc _ _ | refine Ext.drewN ?_ _ | refine Ext.drew1 ?_ | refine Ext.set ?_ (by dsimp only; omega) _ | refine Ext.alloc ?_ _)))) HN.out hV).mono ?_; rintro e w' ⟨rfl, m1, rfl⟩))
    go_returns
    refine ⟨_, rfl, nil_is _ _, ?_⟩
    (repeat with_reducible (first | exact Ext.refl _ | exact ext_alloc _ _ | refine Ext.drewN ?_ _ | refine Ext.drew1 ?_ | refine Ext.set ?_ (by dsimp only; omega) _ | refine Ext.alloc ?_ _))
  cases hA : soundB (zs.map (cls .f32))
  · have e : O = false ∧ R = [] := by have := HR.out; unfold makeR at this; rw [hV, hA] at this; simpa [eq_comm, and_comm] using this
    obtain ⟨rfl, rfl⟩ := e
    go_enter Try.func31, Try.ntmps31
    go_wp2_with (first | (go_at_call 65; with_reducible refine (validP_drew a n c g us _ _ (Holds.ext H1.out (by (repeat with_reducible (first | exact Ext.refl _ | exact ext_alloc _ _ | refine Ext.drewN ?_ _ | refine Ext.drew1 ?_ | refine Ext.set ?_ (by dsimp only; omega) _ | refine Ext.alloc ?_ _)))) HN.out hV).mono ?_; rintro e w' ⟨rfl, m1, rfl⟩) | (go_at_call 66; with_reducible refine (isSound_drew _ m c2 zs _ _ (Holds.ext H2.out (by (repeat with_reducible (first | exact Ext.refl _ | exact ext_alloc _ _ | refine Ext.drewN ?_ _ | refine Ext.drew1 ?_ | refine Ext.set ?_ (by dsimp only; omega) _ | refine Ext.alloc ?_ _)))) HM.out hA).mono ?_; rintro e w' ⟨rfl, m2, rfl⟩))
    go_returns
    refine ⟨_, rfl, nil_is _ _, ?_⟩
    (repeat with_reducible (first | exact Ext.refl _ | exact ext_alloc _ _ | refine Ext.drewN ?_ _ | refine Ext.drew1 ?_ | refine Ext.set ?_ (by dsimp only; omega) _ | refine Ext.alloc ?_ _))
  have HS := hid (show finR2 (madeC us zs m) = (R, O) from by have := HR.out; unfold makeR at this; rw [hV, hA, H2.out.1] at this; simpa using this)
  clear HR
  obtain ⟨i0, hif, hz0, hz1, hz2⟩ := info_parts infoF
  have HI := hid (And.intro hif (And.intro hz0 (And.intro hz1 hz2)))
  clear hif hz0 hz1 hz2
  have hmk : ∀ w : World, (Instr.makeSlice 22 (.int .i64 (0 : Int)) (.int .i64 (m : Int))).run Try.prog w = .ok (.slice (some ⟨w.heap.size, 0, none⟩) 0 m) (w.alloc (.cells (madeCells #[.float .f32 0] m) 23)) := by
    intro w
    have := run_make (P := Try.prog) w 22 23 i0 (.float .f32 0) Try.underlying22 HI.out.1 HI.out.2.1 .i64 .i64 (0 : Int) (m : Int) (by have := HM.out; omega) (by have := HM.out; omega) (by rw [HI.out.2.2.2]; have := HM.out; omega) (by have := HM.out; omega)
    rw [HI.out.2.2.1] at this
    simpa [Value.cells] using this
  have HMC := hid (size_madeCells #[.float .f32 0] m)
  have HO0 := hid (fun (w0 : World) => World.ownsRow_made (e := 23) (size := 1) (base := w0.heap.size) w0 (madeCells #[.float .f32 0] m) m (Nat.le_refl _) (by have := HM.out; unfold maxLen; omega) (by rw [HMC.out]; omega))
  go_enter Try.func31, Try.ntmps31
  go_wp2_with (first | (go_at_call 65; with_reducible refine (validP_drew a n c g us _ _ (Holds.ext H1.out (by (repeat with_reducible (first | exact Ext.refl _ | exact ext_alloc _ _ | refine Ext.drewN ?_ _ | refine Ext.drew1 ?_ | refine Ext.set ?_ (by dsimp only; omega) _ | refine Ext.alloc ?_ _)))) HN.out hV).mono ?_; rintro e w' ⟨rfl, m1, rfl⟩) | (go_at_call 66; with_reducible refine (isSound_drew _ m c2 zs _ _ (Holds.ext H2.out (by (repeat with_reducible (first | exact Ext.refl _ | exact ext_alloc _ _ | refine Ext.drewN ?_ _ | refine Ext.drew1 ?_ | refine Ext.set ?_ (by dsimp only; omega) _ | refine Ext.alloc ?_ _)))) HM.out hA).mono ?_; rintro e w' ⟨rfl, m2, rfl⟩))
  try simp only [World.drewN_drewN]
  obtain ⟨w0, hw0⟩ : ∃ u, u = ((w.alloc (.cells #[.slice a n c, .float .f32 g] 29)).alloc (.cells #[.slice a n c, .float .f32 g] 29)).drewN (m1 + m2) := ⟨_, rfl⟩
  have EX := hid (show Ext w w0 from by rw [hw0]; (repeat with_reducible (first | exact Ext.refl _ | exact ext_alloc _ _ | refine Ext.drewN ?_ _ | refine Ext.drew1 ?_ | refine Ext.set ?_ (by dsimp only; omega) _ | refine Ext.alloc ?_ _)))
  have B0 : Hid (Box w0 w.heap.size #[.slice a n c, .float .f32 g]) := by rw [hw0]; exact hid (Box.drewN (Box.alloc (box_new (w := w) #[.slice a n c, .float .f32 g] 29) _) _)
  have HZ := hid (show w.heap.size < w0.heap.size from Box.lt B0.out)
  go_loopw [6, 22] (fun v i wr => ∃ (k : Nat) (ys : List Nat), k ≤ m ∧ i = .int .i64 k ∧ Hid (Own wr w0.heap.size k v ys) ∧ Hid (ys.map (cls .f32) = madeC us zs k) ∧ Hid (Ext w0 wr)) (fun _ i _ => m - (intOf i).toNat)
  case atStart =>
    have h0 := HO0.out w0
    rw [hw0] at h0 ⊢
    refine ⟨0, [], Nat.zero_le _, rfl, hid (by unfold Own; simpa using h0), rfl, hid (by (repeat with_reducible (first | exact Ext.refl _ | exact ext_alloc _ _ | refine Ext.drewN ?_ _ | refine Ext.drew1 ?_ | refine Ext.set ?_ (by dsimp only; omega) _ | refine Ext.alloc ?_ _)))⟩
  case round =>
    clear hw0
    obtain ⟨k, ys, hk, rfl, ho, hyy, he⟩ := hrel
    have hm2 : m ≤ 1048576 := HM.out
    clear hmk
    by_cases hlt : k < m
    · have hi0 : (0 : Int) ≤ (k : Int) := by omega
      have hi1 : (k : Int) < (m : Int) := by omega
      have EW := hid (Ext.trans EX.out he.out)
      obtain ⟨b, off, rfl, e1⟩ := cell_at H2.out EW.out k hlt
      obtain ⟨v1, v2, rfl, hy1, _, _⟩ := Own.holds ho.out
      have hpx := made_last hyy.out
      have HP := hid (fun (w9 : World) (e9 : Ext wr w9) => pred_any a v1 n k c v2 us ys w9 (Holds.ext H1.out (Ext.trans EW.out e9)) (by rw [List.take_of_length_le (by rw [hy1.1]; exact Nat.le_refl _)]; exact Holds.ext hy1 e9) (by rw [hy1.1]; exact Nat.le_refl _) HN.out (by omega))
      have HCC : Hid (madeC us zs (k + 1) = madeC us zs k ++ [fop .add .f32 (cls .f32 (zs.getD k 0)) (predX us ys k)]) := by
        show _ = _
        rw [hpx]; rfl
      clear hpx hy1
      generalize predX us ys k = X at HP HCC
      obtain ⟨q0, q1, ql⟩ := Box.cells2 (Box.ext B0.out he.out)
      generalize zs.getD k 0 = x at e1 HCC
      have HSZ := hid (Ext.size he.out)
      go_wp2_with fail
      refine (HP.out wr (Ext.refl _)).mono ?_
      rintro e w3 ⟨r, rfl, hr, E3⟩
      have ho3 := hid (Own.ext ho.out E3)
      have hs3 := hid (show wr.heap.size ≤ w3.heap.size from Ext.size E3)
      have he3 := hid (Ext.trans he.out E3)
      clear E3
      go_wp2_with (first | (refine wpList_fa rfl rfl rfl rfl rfl (is_self .f32 x) hr ?_; intro r2 m9 hr2 hrw2) | (at_builtin; refine wpList_append_lies _ rfl _ _ 22 rfl w0.heap.size 23 i0 (.float .f32 0) 1 4 Try.underlying22 HI.out.1 HI.out.2.1 HI.out.2.2.1 HI.out.2.2.2 rfl (by decide) _ _ _ rfl (Own.ext ho3.out (by (repeat with_reducible (first | exact Ext.refl _ | exact ext_alloc _ _ | refine Ext.drewN ?_ _ | refine Ext.drew1 ?_ | refine Ext.set ?_ (by dsimp only; omega) _ | refine Ext.alloc ?_ _)))) ⟨w3.heap.size, 0, none⟩ 1 1 [.float .f32 r2] rfl rfl (World.news_of_block (heap_alloc_new _ _)) (by intro u hu; simp at hu; subst hu; rfl) (by omega) (by have h9 := HM.out; unfold maxLen; omega) (by have h9 := HM.out; omega) (by have h8 := HSZ.out; have h7 := hs3.out; simp; omega) _ rfl ?_; intro g9 cap w4 hown hgrow hat hlt2))
      have h1 := hid (own_snoc hown)
      have h2 := hid (show Ext w0 w4 from But.below hgrow (Ext.trans he3.out (by (repeat with_reducible (first | exact Ext.refl _ | exact ext_alloc _ _ | refine Ext.drewN ?_ _ | refine Ext.drew1 ?_ | refine Ext.set ?_ (by dsimp only; omega) _ | refine Ext.alloc ?_ _)))) (fun k2 hk2 => (Own.block ho3.out k2 hk2).1))
      have h3 := hid (show (ys ++ [r2]).map (cls .f32) = madeC us zs (k + 1) from by rw [List.map_append, hyy.out, HCC.out, ← Is.out hr2]; rfl)
      clear hown hgrow hat hlt2
      go_wp2
      go_roundw
      case rel => exact ⟨k + 1, ys ++ [r2], by omega, by go_num, h1, h3, h2⟩
      case measure => simp [intOf]; omega
    · have hkn : k = m := by omega
      subst hkn
      go_wp2_with fail
      refine (finiteList_is _ _ w0.heap.size ys R O _ ho.out HM.out (by rw [hyy.out]; exact HS.out)).mono ?_
      rintro e w1 ⟨u, rfl, hu, E1⟩
      have hu1 := hid (ListIs.base hu (Nat.le_of_lt HZ.out))
      have hx1 := hid (Ext.trans (Ext.trans EX.out he.out) E1)
      clear hu E1
      go_wp2
      go_ret2
      exact ⟨_, rfl, hu1.out, hx1.out⟩



set_option maxHeartbeats 4000000 in
set_option maxRecDepth 100000 in
theorem l04Make_any (x : Nat) (a a2 : Option Addr) (n c m c2 g : Nat) (us zs : List Nat) (R : List (Option Nat)) (O : Bool) (w : World) (hb : Box w x #[.slice a n c, .float .f32 g]) (h1 : Holds .f32 w a n us) (h2 : Holds .f32 w a2 m zs) (hn : n ≤ 1048576) (hm : m ≤ 1048576) (hR : finR2 (madeC us zs m) = (R, O)) :
    Calls Try.prog 72 #[.pointer (some ⟨x, 0, none⟩), .slice a2 m c2] w fun e w' => ∃ v, e = .returned (.tuple #[v, .bool O]) ∧ ListIs w' w.heap.size R v ∧ Ext w w' := by
  have H1 := hid h1
  have H2 := hid h2
  have HB := hid hb
  have HN := hid hn
  have HM := hid hm
  have HS := hid hR
  clear h1 h2 hn hm hR hb
  obtain ⟨i0, hif, hz0, hz1, hz2⟩ := info_parts infoF
  have HI := hid (And.intro hif (And.intro hz0 (And.intro hz1 hz2)))
  clear hif hz0 hz1 hz2
  go_enter Try.func72, Try.ntmps72
  go_wp2_with fail
  go_loopw [6, 7] (fun v i wr => ∃ (k : Nat) (ys : List Nat), k ≤ m ∧ i = .int .i64 k ∧ Hid (Own wr w.heap.size k v ys) ∧ Hid (ys.map (cls .f32) = madeC us zs k) ∧ Hid (finsC (madeC us zs k) = true) ∧ Hid (Ext w wr)) (fun _ i _ => m - (intOf i).toNat)
  case atStart => exact ⟨0, [], Nat.zero_le _, rfl, hid (own_fresh (cs := #[]) (zs := []) (hid rfl) rfl (by simp) (by simp) (Nat.zero_le _)), rfl, hid rfl, hid (by (repeat with_reducible (first | exact Ext.refl _ | exact ext_alloc _ _ | refine Ext.drewN ?_ _ | refine Ext.drew1 ?_ | refine Ext.set ?_ (by dsimp only; omega) _ | refine Ext.alloc ?_ _)))⟩
  case round =>
    obtain ⟨k, ys, hk, rfl, ho, hyy, hfi, he⟩ := hrel
    have hm2 : m ≤ 1048576 := HM.out
    by_cases hlt : k < m
    · have hi0 : (0 : Int) ≤ (k : Int) := by omega
      have hi1 : (k : Int) < (m : Int) := by omega
      obtain ⟨v1, v2, rfl, hy1, _, _⟩ := Own.holds ho.out
      have hpx := made_last hyy.out
      have HAT := hid (fun (w9 : World) (e9 : Ext wr w9) => l04At_any x a v1 n c k v2 g k us ys w9 (Box.ext HB.out (Ext.trans he.out e9)) (Holds.ext H1.out (Ext.trans he.out e9)) (Holds.ext hy1 e9) HN.out (by omega) (Nat.le_refl _))
      have HNX : Hid (∀ b, predX us ys k = some b → nanW .f32 b = false) := num_pred us ys k _
      have HPX := hid hpx.symm
      have HCC : Hid (madeC us zs (k + 1) = madeC us zs k ++ [fop .add .f32 (cls .f32 (zs.getD k 0)) (predX us ys k)]) := by
        show _ = _
        rw [hpx]; rfl
      clear hpx hy1
      obtain ⟨b, off, rfl, e1⟩ := cell_at H2.out he.out k hlt
      have HSZ := hid (Ext.size he.out)
      generalize predX us ys k = X at HAT HNX HPX HCC
      have HBAD := hid (fun (hq : fin32 (fop .add .f32 (cls .f32 (zs.getD k 0)) X) = false) => made_bad (n := m) hlt HPX.out hq)
      have HNU := hid (num_of_cls (zs.getD k 0))
      generalize zs.getD k 0 = u at e1 HCC HBAD HNU
      cases hf : fin32 X
      · have hbad := HBAD.out (by
          cases hq : fin32 (fop .add .f32 (cls .f32 u) X)
          · rfl
          · have hq2 := (fin_add HNU.out HNX.out hq).2
            rw [hf] at hq2; cases hq2)
        have e : O = false ∧ R = [] := by have := HS.out; rw [hbad] at this; simpa [eq_comm, and_comm] using this
        obtain ⟨rfl, rfl⟩ := e
        go_wp2_with fail
        refine (HAT.out wr (Ext.refl _)).mono ?_
        rintro e w' ⟨r, rfl, hr, q, rfl⟩
        go_wp2_with (first | (go_at_call 78; refine (l01Finite_any _ _).mono ?_; rintro e w' ⟨rfl, q2, rfl⟩; rw [Is.out hr, hf]) | (refine wpList_fa rfl rfl rfl rfl rfl (is_self .f32 u) hr ?_; intro r2 m9 hr2 hrw2))
        go_returns
        exact ⟨_, rfl, nil_is _ _, Ext.trans he.out (by (repeat with_reducible (first | exact Ext.refl _ | exact ext_alloc _ _ | refine Ext.drewN ?_ _ | refine Ext.drew1 ?_ | refine Ext.set ?_ (by dsimp only; omega) _ | refine Ext.alloc ?_ _)))⟩
      cases hf2 : fin32 (fop .add .f32 (cls .f32 u) X)
      · have hbad := HBAD.out hf2
        have e : O = false ∧ R = [] := by have := HS.out; rw [hbad] at this; simpa [eq_comm, and_comm] using this
        obtain ⟨rfl, rfl⟩ := e
        go_wp2_with fail
        refine (HAT.out wr (Ext.refl _)).mono ?_
        rintro e w' ⟨r, rfl, hr, q, rfl⟩
        go_wp2_with (first | (go_at_call 78; refine (l01Finite_any _ _).mono ?_; rintro e w' ⟨rfl, q2, rfl⟩; rw [Is.out hr, hf]) | (go_at_call 78; refine (l01Finite_any _ _).mono ?_; rintro e w' ⟨rfl, q3, rfl⟩; rw [Is.out hr2, hf2]) | (refine wpList_fa rfl rfl rfl rfl rfl (is_self .f32 u) hr ?_; intro r2 m9 hr2 hrw2))
        go_returns
        exact ⟨_, rfl, nil_is _ _, Ext.trans he.out (by (repeat with_reducible (first | exact Ext.refl _ | exact ext_alloc _ _ | refine Ext.drewN ?_ _ | refine Ext.drew1 ?_ | refine Ext.set ?_ (by dsimp only; omega) _ | refine Ext.alloc ?_ _)))⟩
      · go_wp2_with fail
        refine (HAT.out wr (Ext.refl _)).mono ?_
        rintro e w' ⟨r, rfl, hr, q, rfl⟩
        go_wp2_with (first | (go_at_call 78; refine (l01Finite_any _ _).mono ?_; rintro e w' ⟨rfl, q2, rfl⟩; rw [Is.out hr, hf]) | (go_at_call 78; refine (l01Finite_any _ _).mono ?_; rintro e w' ⟨rfl, q3, rfl⟩; rw [Is.out hr2, hf2]) | (refine wpList_fa rfl rfl rfl rfl rfl (is_self .f32 u) hr ?_; intro r2 m9 hr2 hrw2) | (at_builtin; refine wpList_append_lies _ rfl _ _ 22 rfl w.heap.size 23 i0 (.float .f32 0) 1 4 Try.underlying22 HI.out.1 HI.out.2.1 HI.out.2.2.1 HI.out.2.2.2 rfl (by decide) _ _ _ rfl (Own.ext ho.out (by (repeat with_reducible (first | exact Ext.refl _ | exact ext_alloc _ _ | refine Ext.drewN ?_ _ | refine Ext.drew1 ?_ | refine Ext.set ?_ (by dsimp only; omega) _ | refine Ext.alloc ?_ _)))) ⟨wr.heap.size, 0, none⟩ 1 1 [.float .f32 r2] rfl rfl (World.news_of_block (heap_alloc_new _ _)) (by intro u hu; simp at hu; subst hu; rfl) (by omega) (by have h9 := HM.out; unfold maxLen; omega) (by have h9 := HM.out; omega) (by have h8 := HSZ.out; simp; omega) _ rfl ?_; intro g cap w1 hown hgrow hat hlt2))
        have h1 := hid (own_snoc hown)
        have h2 := hid (show Ext w w1 from But.below hgrow (Ext.trans he.out (by (repeat with_reducible (first | exact Ext.refl _ | exact ext_alloc _ _ | refine Ext.drewN ?_ _ | refine Ext.drew1 ?_ | refine Ext.set ?_ (by dsimp only; omega) _ | refine Ext.alloc ?_ _)))) (fun k2 hk2 => (Own.block ho.out k2 hk2).1))
        have h3 := hid (show (ys ++ [r2]).map (cls .f32) = madeC us zs (k + 1) from by rw [List.map_append, hyy.out, HCC.out, ← Is.out hr2]; rfl)
        have h4 := hid (show finsC (madeC us zs (k + 1)) = true from by rw [HCC.out]; have := hfi.out; unfold finsC at this ⊢; rw [List.all_append, this]; simpa using hf2)
        clear hown hgrow hat hlt2
        go_wp2
        go_roundw
        case rel => exact ⟨k + 1, ys ++ [r2], by omega, by go_num, h1, h3, h4, h2⟩
        case measure => simp [intOf]; omega
    · have hkn : k = m := by omega
      subst hkn
      have e : O = true ∧ R = madeC us zs k := by have := HS.out; unfold finR2 at this; rw [hfi.out] at this; simpa [eq_comm, and_comm] using this
      obtain ⟨rfl, rfl⟩ := e
      go_wp2_with fail
      go_ret2
      exact ⟨_, rfl, list_is ho.out hyy.out, he.out⟩

set_option maxHeartbeats 4000000 in
set_option maxRecDepth 100000 in
theorem sMake_any (a a2 : Option Addr) (n c g m c2 : Nat) (us zs : List Nat) (R : List (Option Nat)) (O : Bool) (w : World) (h1 : Holds .f32 w a n us) (h2 : Holds .f32 w a2 m zs) (hn : n ≤ 1048576) (hm : m ≤ 1048576) (hR : makeR us (cls .f32 g) zs = (R, O)) :
    Calls Try.prog 30 #[.agg #[.slice a n c, .float .f32 g], .slice a2 m c2] w fun e w' => ∃ v, e = .returned (.tuple #[v, .bool O]) ∧ ListIs w' w.heap.size R v ∧ Ext w w' := by
  have H1 := hid h1
  have H2 := hid h2
  have HN := hid hn
  have HM := hid hm
  have HR := hid hR
  clear h1 h2 hn hm hR
  cases hV : (predC (us.map (cls .f32)) (cls .f32 g) && soundB (zs.map (cls .f32)))
  · have e : O = false ∧ R = [] := by have := HR.out; unfold makeR at this; rw [hV] at this; simpa [eq_comm, and_comm] using this
    obtain ⟨rfl, rfl⟩ := e
    go_enter Try.func30, Try.ntmps30
    go_wp2_with fail
    refine (l04Both_drew _ a a2 n c m c2 g us zs _ _ (box_new _ _) (Holds.ext H1.out (by (repeat with_reducible (first | exact Ext.refl _ | exact ext_alloc _ _ | refine Ext.drewN ?_ _ | refine Ext.drew1 ?_ | refine Ext.set ?_ (by dsimp only; omega) _ | refine Ext.alloc ?_ _)))) (Holds.ext H2.out (by (repeat with_reducible (first | exact Ext.refl _ | exact ext_alloc _ _ | refine Ext.drewN ?_ _ | refine Ext.drew1 ?_ | refine Ext.set ?_ (by dsimp only; omega) _ | refine Ext.alloc ?_ _)))) HN.out HM.out hV).mono ?_
    rintro e w1 ⟨rfl, q, rfl⟩
    go_wp2_with fail
    go_returns
    refine ⟨_, rfl, nil_is _ _, ?_⟩
    (repeat with_reducible (first | exact Ext.refl _ | exact ext_alloc _ _ | refine Ext.drewN ?_ _ | refine Ext.drew1 ?_ | refine Ext.set ?_ (by dsimp only; omega) _ | refine Ext.alloc ?_ _))
  have HS := hid (show finR2 (madeC us zs m) = (R, O) from by have := HR.out; unfold makeR at this; rw [hV, H2.out.1] at this; simpa using this)
  clear HR
  go_enter Try.func30, Try.ntmps30
  go_wp2_with fail
  refine (l04Both_drew _ a a2 n c m c2 g us zs _ _ (box_new _ _) (Holds.ext H1.out (by (repeat with_reducible (first | exact Ext.refl _ | exact ext_alloc _ _ | refine Ext.drewN ?_ _ | refine Ext.drew1 ?_ | refine Ext.set ?_ (by dsimp only; omega) _ | refine Ext.alloc ?_ _)))) (Holds.ext H2.out (by (repeat with_reducible (first | exact Ext.refl _ | exact ext_alloc _ _ | refine Ext.drewN ?_ _ | refine Ext.drew1 ?_ | refine Ext.set ?_ (by dsimp only; omega) _ | refine Ext.alloc ?_ _)))) HN.out HM.out hV).mono ?_
  rintro e w1 ⟨rfl, q, rfl⟩
  go_wp2_with fail
  refine (l04Make_any _ a a2 n c m c2 g us zs R O _ (Box.drewN (box_new (w := w) #[.slice a n c, .float .f32 g] 29) _) (Holds.ext H1.out (by (repeat with_reducible (first | exact Ext.refl _ | exact ext_alloc _ _ | refine Ext.drewN ?_ _ | refine Ext.drew1 ?_ | refine Ext.set ?_ (by dsimp only; omega) _ | refine Ext.alloc ?_ _)))) (Holds.ext H2.out (by (repeat with_reducible (first | exact Ext.refl _ | exact ext_alloc _ _ | refine Ext.drewN ?_ _ | refine Ext.drew1 ?_ | refine Ext.set ?_ (by dsimp only; omega) _ | refine Ext.alloc ?_ _)))) HN.out HM.out HS.out).mono ?_
  rintro e w2 ⟨v, rfl, hv, E2⟩
  have HL2 := hid (ListIs.base hv (B' := w.heap.size) (by simp))
  have EY := hid (show Ext w w2 from Ext.trans (by (repeat with_reducible (first | exact Ext.refl _ | exact ext_alloc _ _ | refine Ext.drewN ?_ _ | refine Ext.drew1 ?_ | refine Ext.set ?_ (by dsimp only; omega) _ | refine Ext.alloc ?_ _))) E2)
  clear hv E2
  go_wp2_with fail
  go_returns
  exact ⟨_, rfl, HL2.out, EY.out⟩

/-- words of these classes -/
def wordsOf (cs : List (Option Nat)) : List Nat := cs.map fun X => X.getD 2143289344
theorem words_cls (ys : List Nat) : (wordsOf (ys.map (cls .f32))).map (cls .f32) = ys.map (cls .f32) := by
  unfold wordsOf
  simp only [List.map_map]
  apply List.map_congr_left
  intro y _
  show cls .f32 ((cls .f32 y).getD 2143289344) = cls .f32 y
  cases h : cls .f32 y with
  | none => decide
  | some b =>
    have e := cls_word h
    show cls .f32 b = some b
    rw [e]
    exact h.trans (by rw [e])
theorem made_congr {us xs ys : List Nat} (h : ∀ i, cls .f32 (xs.getD i 0) = cls .f32 (ys.getD i 0)) : ∀ k, madeC us xs k = madeC us ys k
  | 0 => rfl
  | k + 1 => by
    show madeC us xs k ++ _ = madeC us ys k ++ _
    rw [made_congr h k, h k]
theorem make_congr {us xs ys : List Nat} {g : Option Nat} (h : xs.map (cls .f32) = ys.map (cls .f32)) : makeR us g xs = makeR us g ys := by
  have hl : xs.length = ys.length := by simpa using congrArg List.length h
  unfold makeR
  rw [h, hl, made_congr (map_cls_get h)]
/-- what numbers drive -/
def driveR (us : List Nat) (g : Option Nat) (zs : List Nat) : List (Option Nat) × Bool := makeR us g (wordsOf (scaleC g (zs.map (cls .f32))))
theorem drive_len (us : List Nat) (g : Option Nat) (zs : List Nat) : (driveR us g zs).1.length ≤ 256 := make_len _ _ _
theorem drive_of {us ys zs : List Nat} {g : Option Nat} (hy : ys.map (cls .f32) = scaleC g (zs.map (cls .f32))) : driveR us g zs = makeR us g ys := by
  unfold driveR
  rw [← hy]
  exact make_congr (words_cls ys)
theorem scale_sound {ys zs : List Nat} {g : Nat} (hy : ys.map (cls .f32) = scaleC (cls .f32 g) (zs.map (cls .f32))) (h : soundB (ys.map (cls .f32)) = true) : soundB (zs.map (cls .f32)) = true := by
  rw [hy] at h
  unfold soundB scaleC at *
  simp only [Bool.and_eq_true, decide_eq_true_eq, List.length_map] at h ⊢
  refine ⟨h.1, ?_⟩
  unfold finsC at *
  rw [List.all_eq_true]
  intro X hX
  obtain ⟨z, hz, rfl⟩ := List.mem_map.1 hX
  have := List.all_eq_true.1 h.2 (fop .mul .f32 (cls .f32 z) (cls .f32 g)) (List.mem_map.2 ⟨cls .f32 z, hX, rfl⟩)
  exact (fin_mul (num_of_cls z) (num_of_cls g) this).1
theorem words_of_scale (zs : List Nat) (g : Nat) : (wordsOf (scaleC (cls .f32 g) (zs.map (cls .f32)))).map (cls .f32) = scaleC (cls .f32 g) (zs.map (cls .f32)) := by
  unfold wordsOf scaleC
  simp only [List.map_map]
  apply List.map_congr_left
  intro z _
  show cls .f32 ((fop .mul .f32 (cls .f32 z) (cls .f32 g)).getD 2143289344) = fop .mul .f32 (cls .f32 z) (cls .f32 g)
  cases h : fop .mul .f32 (cls .f32 z) (cls .f32 g) with
  | none => decide
  | some b => exact cls_num (num_of_fop b h)
theorem fop_mul_comm16 (k : FloatKind) (x y : Option Nat) : fop .mul k x y = fop .mul k y x := by
  have pc : ∀ x y : Ieee.Datum, x.product y = y.product x := by
    intro x y
    cases x <;> cases y <;> simp [Ieee.Datum.product, Nat.mul_comm, Int.add_comm, bne_comm]
  cases x with
  | none => cases y <;> rfl
  | some a =>
    cases y with
    | none => rfl
    | some b =>
      show ((k.format.read a).product (k.format.read b)).map k.format.write = ((k.format.read b).product (k.format.read a)).map k.format.write
      rw [pc]

set_option maxHeartbeats 4000000 in
set_option maxRecDepth 100000 in
theorem drive_any (a a2 : Option Addr) (n c g m c2 : Nat) (us zs : List Nat) (R : List (Option Nat)) (O : Bool) (w : World) (h1 : Holds .f32 w a n us) (h2 : Holds .f32 w a2 m zs) (hn : n ≤ 1048576) (hm : m ≤ 1048576) (hR : driveR us (cls .f32 g) zs = (R, O)) :
    Calls Try.prog 33 #[.agg #[.slice a n c, .float .f32 g], .slice a2 m c2] w fun e w' => ∃ v, e = .returned (.tuple #[v, .bool O]) ∧ ListIs w' w.heap.size R v ∧ Ext w w' := by
  have H1 := hid h1
  have H2 := hid h2
  have HN := hid hn
  have HM := hid hm
  have HR := hid hR
  clear h1 h2 hn hm hR
  go_enter Try.func33, Try.ntmps33
  go_wp2_with fail
  obtain ⟨w0, hw0⟩ : ∃ u, u = w.alloc (.cells #[.slice a n c, .float .f32 g] 29) := ⟨_, rfl⟩
  rw [← hw0]
  have EX := hid (show Ext w w0 from by rw [hw0]; (repeat with_reducible (first | exact Ext.refl _ | exact ext_alloc _ _ | refine Ext.drewN ?_ _ | refine Ext.drew1 ?_ | refine Ext.set ?_ (by dsimp only; omega) _ | refine Ext.alloc ?_ _)))
  have B0 : Hid (Box w0 w.heap.size #[.slice a n c, .float .f32 g]) := by rw [hw0]; exact hid (box_new (w := w) #[.slice a n c, .float .f32 g] 29)
  clear hw0
  obtain ⟨q0, q1, ql⟩ := Box.cells2 B0.out
  go_region_held3 (fun w' => w'.cell? ⟨w.heap.size, 0, none⟩ = some (.slice a n c) ∧ w'.cell? ⟨w.heap.size, 1, none⟩ = some (.float .f32 g))
    (first | (refine keep_of (c := w0) (S := fun w' => w'.cell? ⟨w.heap.size, 0, none⟩ = some (.slice a n c) ∧ w'.cell? ⟨w.heap.size, 1, none⟩ = some (.float .f32 g)) (fun u hu => ⟨Box.cell (Box.ext B0.out hu) 0, Box.cell (Box.ext B0.out hu) 1⟩) ?_; (repeat with_reducible (first | exact Ext.refl _ | exact ext_alloc _ _ | refine Ext.trans ?_ E5 | refine Ext.trans ?_ E6 | refine Ext.drewN ?_ _ | refine Ext.drew1 ?_ | refine Ext.alloc ?_ _))))
    (first | (go_at_call 75; refine (scaled_any a2 m c2 g zs _ (Holds.ext H2.out (Ext.trans EX.out (by (repeat with_reducible (first | exact Ext.refl _ | exact ext_alloc _ _ | refine Ext.drewN ?_ _ | refine Ext.drew1 ?_ | refine Ext.set ?_ (by dsimp only; omega) _ | refine Ext.alloc ?_ _))))) HM.out).mono ?_; rintro e w5 ⟨sb, sc, ys, rfl, sO, sy, E5⟩) | (go_at_call 31; refine (make_any a sb n c g m sc us ys R O _ (Holds.ext H1.out (Ext.trans EX.out (by (repeat with_reducible (first | exact Ext.refl _ | exact ext_alloc _ _ | refine Ext.trans ?_ E5 | refine Ext.trans ?_ E6 | refine Ext.drewN ?_ _ | refine Ext.drew1 ?_ | refine Ext.alloc ?_ _))))) (Holds.ext (own_hold sO) (by (repeat with_reducible (first | exact Ext.refl _ | exact ext_alloc _ _ | refine Ext.trans ?_ E5 | refine Ext.trans ?_ E6 | refine Ext.drewN ?_ _ | refine Ext.drew1 ?_ | refine Ext.alloc ?_ _)))) HN.out HM.out (by rw [← drive_of sy]; exact HR.out)).mono ?_; rintro e w6 ⟨v, rfl, hv, E6⟩))
  all_goals
    have HV := hid (ListIs.base hv (B' := w.heap.size) (by have s5 := Ext.size E5; have s6 := Ext.size EX.out; simp at s5; omega))
    have HE := hid (show Ext w w6 from Ext.trans EX.out (by (repeat with_reducible (first | exact Ext.refl _ | exact ext_alloc _ _ | refine Ext.trans ?_ E5 | refine Ext.trans ?_ E6 | refine Ext.drewN ?_ _ | refine Ext.drew1 ?_ | refine Ext.alloc ?_ _))))
    clear hv E6 E5
    go_wp2_with fail
    go_returns
    exact ⟨_, rfl, HV.out, by first | exact HE.out | exact Ext.trans HE.out (by (repeat with_reducible (first | exact Ext.refl _ | exact ext_alloc _ _ | refine Ext.drewN ?_ _ | refine Ext.drew1 ?_ | refine Ext.set ?_ (by dsimp only; omega) _ | refine Ext.alloc ?_ _)))⟩

set_option maxHeartbeats 4000000 in
set_option maxRecDepth 100000 in
theorem sDrive_any (a a2 : Option Addr) (n c g m c2 : Nat) (us zs : List Nat) (R : List (Option Nat)) (O : Bool) (w : World) (h1 : Holds .f32 w a n us) (h2 : Holds .f32 w a2 m zs) (hn : n ≤ 1048576) (hm : m ≤ 1048576) (hR : driveR us (cls .f32 g) zs = (R, O)) :
    Calls Try.prog 32 #[.agg #[.slice a n c, .float .f32 g], .slice a2 m c2] w fun e w' => ∃ v, e = .returned (.tuple #[v, .bool O]) ∧ ListIs w' w.heap.size R v ∧ Ext w w' := by
  have H1 := hid h1
  have H2 := hid h2
  have HN := hid hn
  have HM := hid hm
  have HR := hid hR
  clear h1 h2 hn hm hR
  have HL := hid H2.out.1
  cases hV : (predC (us.map (cls .f32)) (cls .f32 g) && soundB (zs.map (cls .f32)))
  · have e : O = false ∧ R = [] := by
      have h9 := HR.out
      have hz := words_of_scale zs g
      have h8 : (predC (us.map (cls .f32)) (cls .f32 g) && soundB ((wordsOf (scaleC (cls .f32 g) (zs.map (cls .f32)))).map (cls .f32))) = false := by
        cases h7 : soundB ((wordsOf (scaleC (cls .f32 g) (zs.map (cls .f32)))).map (cls .f32))
        · simp
        · rw [scale_sound hz h7] at hV; simpa using hV
      unfold driveR makeR at h9
      rw [h8] at h9
      simpa [eq_comm, and_comm] using h9
    obtain ⟨rfl, rfl⟩ := e
    go_enter Try.func32, Try.ntmps32
    go_wp2_with fail
    refine (l04Both_drew _ a a2 n c m c2 g us zs _ _ (box_new _ _) (Holds.ext H1.out (by (repeat with_reducible (first | exact Ext.refl _ | exact ext_alloc _ _ | refine Ext.drewN ?_ _ | refine Ext.drew1 ?_ | refine Ext.set ?_ (by dsimp only; omega) _ | refine Ext.alloc ?_ _)))) (Holds.ext H2.out (by (repeat with_reducible (first | exact Ext.refl _ | exact ext_alloc _ _ | refine Ext.drewN ?_ _ | refine Ext.drew1 ?_ | refine Ext.set ?_ (by dsimp only; omega) _ | refine Ext.alloc ?_ _)))) HN.out HM.out hV).mono ?_
    rintro e w1 ⟨rfl, q, rfl⟩
    go_wp2_with fail
    go_returns
    refine ⟨_, rfl, nil_is _ _, ?_⟩
    (repeat with_reducible (first | exact Ext.refl _ | exact ext_alloc _ _ | refine Ext.drewN ?_ _ | refine Ext.drew1 ?_ | refine Ext.set ?_ (by dsimp only; omega) _ | refine Ext.alloc ?_ _))
  have HV := hid hV
  obtain ⟨i0, hif, hz0, hz1, hz2⟩ := info_parts infoF
  have HI := hid (And.intro hif (And.intro hz0 (And.intro hz1 hz2)))
  clear hif hz0 hz1 hz2
  go_enter Try.func32, Try.ntmps32
  go_wp2_with fail
  refine (l04Both_drew _ a a2 n c m c2 g us zs _ _ (box_new _ _) (Holds.ext H1.out (by (repeat with_reducible (first | exact Ext.refl _ | exact ext_alloc _ _ | refine Ext.drewN ?_ _ | refine Ext.drew1 ?_ | refine Ext.set ?_ (by dsimp only; omega) _ | refine Ext.alloc ?_ _)))) (Holds.ext H2.out (by (repeat with_reducible (first | exact Ext.refl _ | exact ext_alloc _ _ | refine Ext.drewN ?_ _ | refine Ext.drew1 ?_ | refine Ext.set ?_ (by dsimp only; omega) _ | refine Ext.alloc ?_ _)))) HN.out HM.out hV).mono ?_
  rintro e w1 ⟨rfl, q, rfl⟩
  go_wp2_with fail
  obtain ⟨w0, hw0⟩ : ∃ u, u = (w.alloc (.cells #[.slice a n c, .float .f32 g] 29)).drewN q := ⟨_, rfl⟩
  have EX := hid (show Ext w w0 from by rw [hw0]; (repeat with_reducible (first | exact Ext.refl _ | exact ext_alloc _ _ | refine Ext.drewN ?_ _ | refine Ext.drew1 ?_ | refine Ext.set ?_ (by dsimp only; omega) _ | refine Ext.alloc ?_ _)))
  have B0 : Hid (Box w0 w.heap.size #[.slice a n c, .float .f32 g]) := by rw [hw0]; exact hid (Box.drewN (box_new (w := w) #[.slice a n c, .float .f32 g] 29) _)
  have HZ := hid (show w.heap.size < w0.heap.size from Box.lt B0.out)
  go_loopw [6, 7] (fun v i wr => ∃ (k : Nat) (ys : List Nat), k ≤ m ∧ i = .int .i64 k ∧ Hid (Own wr w0.heap.size k v ys) ∧ Hid (ys.map (cls .f32) = scaleC (cls .f32 g) ((zs.take k).map (cls .f32))) ∧ Hid (Ext w0 wr)) (fun _ i _ => m - (intOf i).toNat)
  case atStart =>
    rw [hw0]
    exact ⟨0, [], Nat.zero_le _, rfl, hid (own_fresh (cs := #[]) (zs := []) (hid rfl) rfl (by simp) (by simp) (Nat.zero_le _)), rfl, hid (by (repeat with_reducible (first | exact Ext.refl _ | exact ext_alloc _ _ | refine Ext.drewN ?_ _ | refine Ext.drew1 ?_ | refine Ext.set ?_ (by dsimp only; omega) _ | refine Ext.alloc ?_ _)))⟩
  case round =>
    clear hw0
    obtain ⟨k, ys, hk, rfl, ho, hyy, he⟩ := hrel
    have hm2 : m ≤ 1048576 := HM.out
    by_cases hlt : k < m
    · have hi0 : (0 : Int) ≤ (k : Int) := by omega
      have hi1 : (k : Int) < (m : Int) := by omega
      obtain ⟨b, off, rfl, e1⟩ := cell_at H2.out (Ext.trans EX.out he.out) k hlt
      have hs := hid (scaleC_snoc (cls .f32 g) zs k (by rw [HL.out]; exact hlt))
      generalize zs.getD k 0 = u at e1 hs
      obtain ⟨q0, q1, ql⟩ := Box.cells2 (Box.ext B0.out he.out)
      have HSZ := hid (Ext.size he.out)
      go_wp2_with fail
      refine wp_region_move_tail 8 (by kernel_rfl) (by kernel_rfl) (by kernel_rfl) (fun _ _ _ h => h) (Or.inl ⟨by rfl, fun w => by simp [execOp]; rfl⟩) ?_
      simp only [List.take_succ_cons, List.take_zero, List.drop_succ_cons, List.drop_zero]
      repeat (with_reducible refine wpM_cons ?_; first
        | (refine wpM_fa rfl rfl rfl rfl rfl (is_self .f32 g) (is_self .f32 u) ?_; intro r hr hrw)
        | (refine wpM_quiet rfl (fun K hK => ?_); go_simp; refine hK _ ?_; clear hK K))
      with_reducible refine wpM_nil ?_
      intro w3 hw3
      obtain ⟨nq, hw3⟩ := hw3
      subst hw3
      have hcl := hid (show cls .f32 r = fop .mul .f32 (cls .f32 u) (cls .f32 g) from by rw [Is.out hr, fop_mul_comm16])
      go_wp2_with (first | (at_builtin; refine wpList_append_lies _ rfl _ _ 22 rfl w0.heap.size 23 i0 (.float .f32 0) 1 4 Try.underlying22 HI.out.1 HI.out.2.1 HI.out.2.2.1 HI.out.2.2.2 rfl (by decide) _ _ _ rfl (Own.ext ho.out (by (repeat with_reducible (first | exact Ext.refl _ | exact ext_alloc _ _ | refine Ext.drewN ?_ _ | refine Ext.drew1 ?_ | refine Ext.set ?_ (by dsimp only; omega) _ | refine Ext.alloc ?_ _)))) ⟨wr.heap.size, 0, none⟩ 1 1 [.float .f32 r] rfl rfl (World.news_of_block (heap_alloc_new _ _)) (by intro u hu; simp at hu; subst hu; rfl) (by omega) (by have h9 := HM.out; unfold maxLen; omega) (by have h9 := HM.out; omega) (by have h8 := HSZ.out; simp; omega) _ rfl ?_; intro gg cap w1 hown hgrow hat hlt2))
      have h1 := hid (own_snoc hown)
      have h2 := hid (show Ext w0 w1 from But.below hgrow (Ext.trans he.out (by (repeat with_reducible (first | exact Ext.refl _ | exact ext_alloc _ _ | refine Ext.drewN ?_ _ | refine Ext.drew1 ?_ | refine Ext.set ?_ (by dsimp only; omega) _ | refine Ext.alloc ?_ _)))) (fun k2 hk2 => (Own.block ho.out k2 hk2).1))
      have h3 := hid (show (ys ++ [r]).map (cls .f32) = scaleC (cls .f32 g) ((zs.take (k + 1)).map (cls .f32)) from by rw [List.map_append, hyy.out, hs.out, ← hcl.out]; rfl)
      clear hown hgrow hat hlt2
      go_wp2
      go_roundw
      case rel => exact ⟨k + 1, ys ++ [r], by omega, by go_num, h1, h3, h2⟩
      case measure => simp [intOf]; omega
    · have hkn : k = m := by omega
      subst hkn
      have hyf := hyy.out
      rw [List.take_of_length_le (by rw [HL.out]; exact Nat.le_refl _)] at hyf
      obtain ⟨vb, vc, rfl, hh, _, _⟩ := Own.holds ho.out
      have HH := hid hh
      have HS := hid (show makeR us (cls .f32 g) ys = (R, O) from by rw [← drive_of hyf]; exact HR.out)
      have hyl : ys.length = k := Own.len ho.out
      cases hF : finsC (ys.map (cls .f32))
      · have e : O = false ∧ R = [] := by
          have := HS.out
          unfold makeR soundB at this
          rw [hF] at this
          simpa [eq_comm, and_comm] using this
        obtain ⟨rfl, rfl⟩ := e
        clear hh
        go_wp2_with fail
        refine (l02Finite_drew _ _ _ ys _ _ HH.out HM.out hF).mono ?_
        rintro e w5 ⟨rfl, m5, rfl⟩
        go_wp2_with fail
        go_returns
        exact ⟨_, rfl, nil_is _ _, Ext.trans EX.out (Ext.drewN he.out _)⟩
      · have HT := hid (show finR2 (madeC us ys k) = (R, O) from by
          have h9 := HS.out
          have hv := HV.out
          simp only [Bool.and_eq_true] at hv
          have h256 : k ≤ 256 := by have := sound_len hv.2; simp at this; have := HL.out; omega
          unfold makeR soundB at h9
          rw [hF, hv.1, decide_eq_true (by simp; omega), hyl] at h9
          simpa using h9)
        clear hh
        go_wp2_with fail
        refine (l02Finite_drew _ _ _ ys _ _ HH.out HM.out hF).mono ?_
        rintro e w5 ⟨rfl, m5, rfl⟩
        go_wp2_with fail
        refine (l04Make_any _ a vb n c k vc g us ys R O _ (Box.drewN (Box.ext B0.out he.out) _) (Holds.ext H1.out (Ext.trans EX.out (Ext.drewN he.out _))) (Holds.ext HH.out (by (repeat with_reducible (first | exact Ext.refl _ | exact ext_alloc _ _ | refine Ext.drewN ?_ _ | refine Ext.drew1 ?_ | refine Ext.set ?_ (by dsimp only; omega) _ | refine Ext.alloc ?_ _)))) HN.out HM.out HT.out).mono ?_
        rintro e w6 ⟨v, rfl, hv, E6⟩
        have HV2 := hid (ListIs.base hv (B' := w.heap.size) (by have s1 := Ext.size he.out; have s2 := HZ.out; simp; omega))
        have HE := hid (show Ext w w6 from Ext.trans EX.out (Ext.trans (Ext.drewN he.out _) E6))
        clear hv E6
        go_wp2_with fail
        go_returns
        exact ⟨_, rfl, HV2.out, HE.out⟩

end Go.Proofs.Ytofhemganefhcab
