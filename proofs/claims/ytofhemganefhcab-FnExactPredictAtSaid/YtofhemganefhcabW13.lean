/- What is left of a sound. -/
import Derived.Test.YtofhemganefhcabW12
import Derived.Test.YtofhemganefhcabFinOp
namespace Go.Proofs.Ytofhemganefhcab
open Go.RowKit Flt
set_option linter.unusedVariables false

theorem listK_bad {C : Nat → Option Nat} {n k : Nat} (hk : k < n) (h : fin32 (C k) = false) : soundR C n = ([], false) := by
  unfold soundR finR2
  rw [if_neg]
  unfold finsC listK
  intro h2
  rw [List.all_eq_true] at h2
  have := h2 (C k) (List.mem_map.2 ⟨k, List.mem_range.2 hk, rfl⟩)
  rw [h] at this; cases this
theorem num_pred (us zs : List Nat) (n : Nat) : ∀ k b, predK us zs n k = some b → nanW .f32 b = false
  | 0, b, h => by cases h; decide
  | k + 1, b, h => num_of_fop b h
theorem l04Both_drew (x : Nat) (a a2 : Option Addr) (n c m c2 g : Nat) (us zs : List Nat) (V : Bool) (w : World) (hb : Box w x #[.slice a n c, .float .f32 g]) (h1 : Holds .f32 w a n us) (h2 : Holds .f32 w a2 m zs) (hn : n ≤ 1048576) (hm : m ≤ 1048576) (hV : (predC (us.map (cls .f32)) (cls .f32 g) && soundB (zs.map (cls .f32))) = V) :
    Calls Try.prog 61 #[.pointer (some ⟨x, 0, none⟩), .slice a2 m c2] w fun e w' => e = .returned (.bool V) ∧ ∃ q, w' = w.drewN q := by
  have H1 := hid h1
  have H2 := hid h2
  have HB := hid hb
  have HN := hid hn
  have HM := hid hm
  subst hV
  clear h1 h2 hn hm hb
  cases hA : predC (us.map (cls .f32)) (cls .f32 g)
  · go_enter Try.func61, Try.ntmps61
    go_wp2_with (go_at_call 57; refine (l04Is_drew a n c g us _ _ _ HB.out H1.out HN.out hA).mono ?_; rintro e w' ⟨rfl, m1, rfl⟩)
    go_ret
    exact ⟨rfl, _, rfl⟩
  · cases hB : soundB (zs.map (cls .f32))
    all_goals
      go_enter Try.func61, Try.ntmps61
      go_wp2_with (first | (go_at_call 57; refine (l04Is_drew a n c g us _ _ _ HB.out H1.out HN.out hA).mono ?_; rintro e w' ⟨rfl, m1, rfl⟩) | (go_at_call 77; refine (l04Sound_drew a2 m c2 zs _ _ (Holds.ext H2.out (by (repeat with_reducible (first | exact Ext.refl _ | exact ext_alloc _ _ | refine Ext.drewN ?_ _ | refine Ext.drew1 ?_ | refine Ext.set ?_ (by dsimp only; omega) _ | refine Ext.alloc ?_ _)))) HM.out hB).mono ?_; rintro e w' ⟨rfl, m2, rfl⟩))
      go_ret
      exact ⟨rfl, _, rfl⟩

set_option maxHeartbeats 4000000 in
set_option maxRecDepth 100000 in
theorem res_any (a : Option Addr) (n c g bs os m c2 : Nat) (us zs : List Nat) (R : List (Option Nat)) (O : Bool) (w : World) (h1 : Holds .f32 w a n us) (h2 : Holds .f32 w (some ⟨bs, os, none⟩) m zs) (hn : n ≤ 1048576) (hm : m ≤ 1048576) (hcap : m ≤ c2) (hR : resR us (cls .f32 g) zs = (R, O)) :
    Calls Try.prog 29 #[.agg #[.slice a n c, .float .f32 g], .slice (some ⟨bs, os, none⟩) m c2] w fun e w' => ∃ v, e = .returned (.tuple #[v, .bool O]) ∧ ListIs w' w.heap.size R v ∧ Ext w w' := by
  have H1 := hid h1
  have H2 := hid h2
  have HN := hid hn
  have HM := hid hm
  have HR := hid hR
  clear h1 h2 hn hm hR
  cases hV : predC (us.map (cls .f32)) (cls .f32 g)
  · have e : O = false ∧ R = [] := by have := HR.out; unfold resR at this; rw [hV] at this; simpa [eq_comm, and_comm] using this
    obtain ⟨rfl, rfl⟩ := e
    go_enter Try.func29, Try.ntmps29
    go_wp2_with (first | (go_at_call 65; with_reducible refine (validP_drew a n c g us _ _ (Holds.ext H1.out (by (repeat with_reducible (first | exact Ext.refl _ | exact ext_alloc _ _ | refine Ext.drewN ?_ _ | refine Ext.drew1 ?_ | refine Ext.set ?_ (by dsimp only; omega) _ | refine Ext.alloc ?_ _)))) HN.out hV).mono ?_; rintro e w' ⟨rfl, m1, rfl⟩))
    go_returns
    refine ⟨_, rfl, nil_is _ _, ?_⟩
    (repeat with_reducible (first | exact Ext.refl _ | exact ext_alloc _ _ | refine Ext.drewN ?_ _ | refine Ext.drew1 ?_ | refine Ext.set ?_ (by dsimp only; omega) _ | refine Ext.alloc ?_ _))
  cases hA : soundB (zs.map (cls .f32))
  · have e : O = false ∧ R = [] := by have := HR.out; unfold resR at this; rw [hV, hA] at this; simpa [eq_comm, and_comm] using this
    obtain ⟨rfl, rfl⟩ := e
    go_enter Try.func29, Try.ntmps29
    go_wp2_with (first | (go_at_call 65; with_reducible refine (validP_drew a n c g us _ _ (Holds.ext H1.out (by (repeat with_reducible (first | exact Ext.refl _ | exact ext_alloc _ _ | refine Ext.drewN ?_ _ | refine Ext.drew1 ?_ | refine Ext.set ?_ (by dsimp only; omega) _ | refine Ext.alloc ?_ _)))) HN.out hV).mono ?_; rintro e w' ⟨rfl, m1, rfl⟩) | (go_at_call 66; with_reducible refine (isSound_drew _ m c2 zs _ _ (Holds.ext H2.out (by (repeat with_reducible (first | exact Ext.refl _ | exact ext_alloc _ _ | refine Ext.drewN ?_ _ | refine Ext.drew1 ?_ | refine Ext.set ?_ (by dsimp only; omega) _ | refine Ext.alloc ?_ _)))) HM.out hA).mono ?_; rintro e w' ⟨rfl, m2, rfl⟩))
    go_returns
    refine ⟨_, rfl, nil_is _ _, ?_⟩
    (repeat with_reducible (first | exact Ext.refl _ | exact ext_alloc _ _ | refine Ext.drewN ?_ _ | refine Ext.drew1 ?_ | refine Ext.set ?_ (by dsimp only; omega) _ | refine Ext.alloc ?_ _))
  have HS := hid (show soundR (resC us zs) m = (R, O) from by have := HR.out; unfold resR at this; rw [hV, hA, H2.out.1] at this; simpa using this)
  clear HR
  go_enter Try.func29, Try.ntmps29
  go_wp2_with (first | (go_at_call 65; with_reducible refine (validP_drew a n c g us _ _ (Holds.ext H1.out (by (repeat with_reducible (first | exact Ext.refl _ | exact ext_alloc _ _ | refine Ext.drewN ?_ _ | refine Ext.drew1 ?_ | refine Ext.set ?_ (by dsimp only; omega) _ | refine Ext.alloc ?_ _)))) HN.out hV).mono ?_; rintro e w' ⟨rfl, m1, rfl⟩) | (go_at_call 66; with_reducible refine (isSound_drew _ m c2 zs _ _ (Holds.ext H2.out (by (repeat with_reducible (first | exact Ext.refl _ | exact ext_alloc _ _ | refine Ext.drewN ?_ _ | refine Ext.drew1 ?_ | refine Ext.set ?_ (by dsimp only; omega) _ | refine Ext.alloc ?_ _)))) HM.out hA).mono ?_; rintro e w' ⟨rfl, m2, rfl⟩))
  try simp only [World.drewN_drewN]
  obtain ⟨w0, hw0⟩ : ∃ u, u = (((w.alloc (.cells #[.slice a n c, .float .f32 g] 29)).alloc (.cells #[.slice (some ⟨bs, os, none⟩) m c2] 22)).alloc (.cells #[.slice a n c, .float .f32 g] 29)).drewN (m1 + m2) := ⟨_, rfl⟩
  rw [← hw0]
  have EX := hid (show Ext w w0 from by rw [hw0]; (repeat with_reducible (first | exact Ext.refl _ | exact ext_alloc _ _ | refine Ext.drewN ?_ _ | refine Ext.drew1 ?_ | refine Ext.set ?_ (by dsimp only; omega) _ | refine Ext.alloc ?_ _)))
  have B0 : Hid (Box w0 w.heap.size #[.slice a n c, .float .f32 g]) := by rw [hw0]; exact hid (Box.drewN (Box.alloc (Box.alloc (box_new (w := w) #[.slice a n c, .float .f32 g] 29) _) _) _)
  have B1 : Hid (Box w0 (w.heap.size + 1) #[.slice (some ⟨bs, os, none⟩) m c2]) := by rw [hw0]; exact hid (Box.drewN (Box.cast' (Box.alloc (box_new (w := (w.alloc (.cells #[.slice a n c, .float .f32 g] 29))) #[.slice (some ⟨bs, os, none⟩) m c2] 22) _) (by simp)) _)
  clear hw0
  obtain ⟨q0, ql⟩ := Box.cells1 B1.out
  go_wp2_with fail
  refine (soundOf_any m 71 #[.pointer (some ⟨w.heap.size + 1, 0, none⟩), .pointer (some ⟨w.heap.size, 0, none⟩)] (resC us zs) R O w0 HM.out (fun _ _ => by simp [go_sem]) (fun k hk wr e => res_clo k _ _ n c g m c2 bs os a us zs wr hk HN.out HM.out hcap (Box.ext B1.out e) (Box.ext B0.out e) (Holds.ext H1.out (Ext.trans EX.out e)) (Holds.ext H2.out (Ext.trans EX.out e))) HS.out).mono ?_
  rintro e w1 ⟨v, rfl, hv, E1⟩
  have HL2 := hid hv
  have EY := hid (Ext.trans EX.out E1)
  have HZ := hid (show w.heap.size ≤ w0.heap.size from Ext.size EX.out)
  clear hv E1 q0 ql
  go_wp2_with fail
  go_returns
  exact ⟨_, rfl, ListIs.base HL2.out HZ.out, EY.out⟩

set_option maxHeartbeats 4000000 in
set_option maxRecDepth 100000 in
theorem l04Res_any (x : Nat) (a a2 : Option Addr) (n c m c2 g : Nat) (us zs : List Nat) (R : List (Option Nat)) (O : Bool) (w : World) (hb : Box w x #[.slice a n c, .float .f32 g]) (h1 : Holds .f32 w a n us) (h2 : Holds .f32 w a2 m zs) (hn : n ≤ 1048576) (hm : m ≤ 1048576) (hR : soundR (resC us zs) m = (R, O)) :
    Calls Try.prog 69 #[.pointer (some ⟨x, 0, none⟩), .slice a2 m c2] w fun e w' => ∃ v, e = .returned (.tuple #[v, .bool O]) ∧ ListIs w' w.heap.size R v ∧ Ext w w' := by
  have H1 := hid h1
  have H2 := hid h2
  have HB := hid hb
  have HN := hid hn
  have HM := hid hm
  have HS := hid hR
  clear h1 h2 hn hm hR hb
  obtain ⟨i0, hif, hz0, hz1, hz2⟩ := info_parts infoF
  have HI := hid (And.intro hif (And.intro hz0 (And.intro hz1 hz2)))
  clear hif hz0 hz1 hz2
  go_enter Try.func69, Try.ntmps69
  go_wp2_with fail
  go_loopw [6, 7] (fun v i wr => ∃ (k : Nat) (ys : List Nat), k ≤ m ∧ i = .int .i64 k ∧ Hid (Own wr w.heap.size k v ys) ∧ Hid (ys.map (cls .f32) = listK (resC us zs) k) ∧ Hid (Ext w wr)) (fun _ i _ => m - (intOf i).toNat)
  case atStart => exact ⟨0, [], Nat.zero_le _, rfl, hid (own_fresh (cs := #[]) (zs := []) (hid rfl) rfl (by simp) (by simp) (Nat.zero_le _)), rfl, hid (by (repeat with_reducible (first | exact Ext.refl _ | exact ext_alloc _ _ | refine Ext.drewN ?_ _ | refine Ext.drew1 ?_ | refine Ext.set ?_ (by dsimp only; omega) _ | refine Ext.alloc ?_ _)))⟩
  case round =>
    obtain ⟨k, ys, hk, rfl, ho, hyy, he⟩ := hrel
    have hm2 : m ≤ 1048576 := HM.out
    have hs := hid (listK_succ (resC us zs) k)
    by_cases hlt : k < m
    · have hi0 : (0 : Int) ≤ (k : Int) := by omega
      have hi1 : (k : Int) < (m : Int) := by omega
      have HCC : Hid (resC us zs k = fop .sub .f32 (cls .f32 (zs.getD k 0)) (predX us zs k)) := rfl
      have HNX : Hid (∀ b, predX us zs k = some b → nanW .f32 b = false) := num_pred us zs k _
      have HAT := hid (fun (w9 : World) (e9 : Ext w w9) => l04At_any x a a2 n c m c2 g k us zs w9 (Box.ext HB.out e9) (Holds.ext H1.out e9) (Holds.ext H2.out e9) HN.out HM.out (by omega))
      generalize predX us zs k = X at HCC HNX HAT
      cases hf : fin32 X
      · have hbad := listK_bad (C := resC us zs) hlt (by
          cases hq : fin32 (resC us zs k)
          · rfl
          · rw [HCC.out] at hq
            have hq2 := (fin_sub (num_of_cls _) HNX.out hq).2
            rw [hf] at hq2; cases hq2)
        have e : O = false ∧ R = [] := by have := HS.out; rw [hbad] at this; simpa [eq_comm, and_comm] using this
        obtain ⟨rfl, rfl⟩ := e
        go_wp2_with (first | (go_at_call 64; refine (HAT.out _ he.out).mono ?_; rintro e w' ⟨r, rfl, hr, q, rfl⟩) | (go_at_call 78; refine (l01Finite_any _ _).mono ?_; rintro e w' ⟨rfl, q2, rfl⟩; rw [Is.out hr, hf]))
        go_returns
        exact ⟨_, rfl, nil_is _ _, Ext.trans he.out (by (repeat with_reducible (first | exact Ext.refl _ | exact ext_alloc _ _ | refine Ext.drewN ?_ _ | refine Ext.drew1 ?_ | refine Ext.set ?_ (by dsimp only; omega) _ | refine Ext.alloc ?_ _)))⟩
      · obtain ⟨b, off, rfl, e1⟩ := cell_at H2.out he.out k hlt
        generalize zs.getD k 0 = u at e1 HCC
        have HSZ := hid (Ext.size he.out)
        go_wp2_with fail
        refine (HAT.out _ he.out).mono ?_
        rintro e w' ⟨r, rfl, hr, q, rfl⟩
        go_wp2_with (first | (go_at_call 78; refine (l01Finite_any _ _).mono ?_; rintro e w' ⟨rfl, q2, rfl⟩; rw [Is.out hr, hf]) | (refine wpList_fa rfl rfl rfl rfl rfl (is_self .f32 u) hr ?_; intro r2 m9 hr2 hrw2) | (at_builtin; refine wpList_append_lies _ rfl _ _ 22 rfl w.heap.size 23 i0 (.float .f32 0) 1 4 Try.underlying22 HI.out.1 HI.out.2.1 HI.out.2.2.1 HI.out.2.2.2 rfl (by decide) _ _ _ rfl (Own.ext ho.out (by (repeat with_reducible (first | exact Ext.refl _ | exact ext_alloc _ _ | refine Ext.drewN ?_ _ | refine Ext.drew1 ?_ | refine Ext.set ?_ (by dsimp only; omega) _ | refine Ext.alloc ?_ _)))) ⟨wr.heap.size, 0, none⟩ 1 1 [.float .f32 r2] rfl rfl (World.news_of_block (heap_alloc_new _ _)) (by intro u hu; simp at hu; subst hu; rfl) (by omega) (by have h9 := HM.out; unfold maxLen; omega) (by have h9 := HM.out; omega) (by have h8 := HSZ.out; simp; omega) _ rfl ?_; intro g cap w1 hown hgrow hat hlt2))
        have h1 := hid (own_snoc hown)
        have h2 := hid (show Ext w w1 from But.below hgrow (Ext.trans he.out (by (repeat with_reducible (first | exact Ext.refl _ | exact ext_alloc _ _ | refine Ext.drewN ?_ _ | refine Ext.drew1 ?_ | refine Ext.set ?_ (by dsimp only; omega) _ | refine Ext.alloc ?_ _)))) (fun k2 hk2 => (Own.block ho.out k2 hk2).1))
        have h3 := hid (show (ys ++ [r2]).map (cls .f32) = listK (resC us zs) (k + 1) from by rw [List.map_append, hyy.out, hs.out, HCC.out, ← Is.out hr2]; rfl)
        clear hown hgrow hat hlt2
        go_wp2
        go_roundw
        case rel => exact ⟨k + 1, ys ++ [r2], by omega, by go_num, h1, h3, h2⟩
        case measure => simp [intOf]; omega
    · have hkn : k = m := by omega
      subst hkn
      go_wp2_with fail
      refine (l02List_is _ _ w.heap.size ys R O _ ho.out HM.out (by rw [hyy.out]; exact HS.out)).mono ?_
      rintro e w1 ⟨u, rfl, hu, E1⟩
      have hu1 := hid hu
      have hx1 := hid (Ext.trans he.out E1)
      clear hu E1
      go_wp2
      go_ret2
      exact ⟨_, rfl, hu1.out, hx1.out⟩

set_option maxHeartbeats 4000000 in
set_option maxRecDepth 100000 in
theorem sRes_any (a a2 : Option Addr) (n c g m c2 : Nat) (us zs : List Nat) (R : List (Option Nat)) (O : Bool) (w : World) (h1 : Holds .f32 w a n us) (h2 : Holds .f32 w a2 m zs) (hn : n ≤ 1048576) (hm : m ≤ 1048576) (hR : resR us (cls .f32 g) zs = (R, O)) :
    Calls Try.prog 28 #[.agg #[.slice a n c, .float .f32 g], .slice a2 m c2] w fun e w' => ∃ v, e = .returned (.tuple #[v, .bool O]) ∧ ListIs w' w.heap.size R v ∧ Ext w w' := by
  have H1 := hid h1
  have H2 := hid h2
  have HN := hid hn
  have HM := hid hm
  have HR := hid hR
  clear h1 h2 hn hm hR
  cases hV : (predC (us.map (cls .f32)) (cls .f32 g) && soundB (zs.map (cls .f32)))
  · have e : O = false ∧ R = [] := by have := HR.out; unfold resR at this; rw [hV] at this; simpa [eq_comm, and_comm] using this
    obtain ⟨rfl, rfl⟩ := e
    go_enter Try.func28, Try.ntmps28
    go_wp2_with fail
    refine (l04Both_drew _ a a2 n c m c2 g us zs _ _ (box_new _ _) (Holds.ext H1.out (by (repeat with_reducible (first | exact Ext.refl _ | exact ext_alloc _ _ | refine Ext.drewN ?_ _ | refine Ext.drew1 ?_ | refine Ext.set ?_ (by dsimp only; omega) _ | refine Ext.alloc ?_ _)))) (Holds.ext H2.out (by (repeat with_reducible (first | exact Ext.refl _ | exact ext_alloc _ _ | refine Ext.drewN ?_ _ | refine Ext.drew1 ?_ | refine Ext.set ?_ (by dsimp only; omega) _ | refine Ext.alloc ?_ _)))) HN.out HM.out hV).mono ?_
    rintro e w1 ⟨rfl, q, rfl⟩
    go_wp2_with fail
    go_returns
    refine ⟨_, rfl, nil_is _ _, ?_⟩
    (repeat with_reducible (first | exact Ext.refl _ | exact ext_alloc _ _ | refine Ext.drewN ?_ _ | refine Ext.drew1 ?_ | refine Ext.set ?_ (by dsimp only; omega) _ | refine Ext.alloc ?_ _))
  have HS := hid (show soundR (resC us zs) m = (R, O) from by have := HR.out; unfold resR at this; rw [hV, H2.out.1] at this; simpa using this)
  clear HR
  go_enter Try.func28, Try.ntmps28
  go_wp2_with fail
  refine (l04Both_drew _ a a2 n c m c2 g us zs _ _ (box_new _ _) (Holds.ext H1.out (by (repeat with_reducible (first | exact Ext.refl _ | exact ext_alloc _ _ | refine Ext.drewN ?_ _ | refine Ext.drew1 ?_ | refine Ext.set ?_ (by dsimp only; omega) _ | refine Ext.alloc ?_ _)))) (Holds.ext H2.out (by (repeat with_reducible (first | exact Ext.refl _ | exact ext_alloc _ _ | refine Ext.drewN ?_ _ | refine Ext.drew1 ?_ | refine Ext.set ?_ (by dsimp only; omega) _ | refine Ext.alloc ?_ _)))) HN.out HM.out hV).mono ?_
  rintro e w1 ⟨rfl, q, rfl⟩
  go_wp2_with fail
  refine (l04Res_any _ a a2 n c m c2 g us zs R O _ (Box.drewN (box_new (w := w) #[.slice a n c, .float .f32 g] 29) _) (Holds.ext H1.out (by (repeat with_reducible (first | exact Ext.refl _ | exact ext_alloc _ _ | refine Ext.drewN ?_ _ | refine Ext.drew1 ?_ | refine Ext.set ?_ (by dsimp only; omega) _ | refine Ext.alloc ?_ _)))) (Holds.ext H2.out (by (repeat with_reducible (first | exact Ext.refl _ | exact ext_alloc _ _ | refine Ext.drewN ?_ _ | refine Ext.drew1 ?_ | refine Ext.set ?_ (by dsimp only; omega) _ | refine Ext.alloc ?_ _)))) HN.out HM.out HS.out).mono ?_
  rintro e w2 ⟨v, rfl, hv, E2⟩
  have HL2 := hid (ListIs.base hv (B' := w.heap.size) (by simp))
  have EY := hid (show Ext w w2 from Ext.trans (by (repeat with_reducible (first | exact Ext.refl _ | exact ext_alloc _ _ | refine Ext.drewN ?_ _ | refine Ext.drew1 ?_ | refine Ext.set ?_ (by dsimp only; omega) _ | refine Ext.alloc ?_ _))) E2)
  clear hv E2
  go_wp2_with fail
  go_returns
  exact ⟨_, rfl, HL2.out, EY.out⟩

end Go.Proofs.Ytofhemganefhcab
