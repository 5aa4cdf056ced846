/- A sound through a window. -/
import Derived.Test.YtpmjiabllmomjaaV10
import Derived.Test.YtpmjiabllmomjaaV17
namespace Go.Proofs.Ytpmjiabllmomjaa
open Go.RowKit Flt
set_option linter.unusedVariables false

def winC (us vs : List Nat) (k : Nat) : Option Nat := fop .mul .f32 (cls .f32 (us.getD k 0)) (cls .f32 (vs.getD k 0))
def winSR (us vs : List Nat) : List (Option Nat) × Bool := if soundB (us.map (cls .f32)) && (soundB (vs.map (cls .f32)) && decide (us.length = vs.length)) then soundR (winC us vs) us.length else ([], false)
theorem winS_len (us vs : List Nat) : (winSR us vs).1.length ≤ 256 := by
  unfold winSR
  split
  · rename_i h
    simp only [Bool.and_eq_true] at h
    have h1 := sound_len h.1
    have h2 := soundR_len (winC us vs) us.length
    simp at h1
    omega
  · exact Nat.zero_le _
set_option maxRecDepth 100000 in
theorem winS_clo (k b1 b2 n c1 c2 : Nat) (a1 a2 : Option Addr) (us vs : List Nat) (w : World) (hk : k < n) (hn : n ≤ 1048576) (h1 : Box w b1 #[.slice a1 n c1]) (h2 : Box w b2 #[.slice a2 n c2]) (g1 : Holds .f32 w a1 n us) (g2 : Holds .f32 w a2 n vs) :
    Calls Try.prog 56 #[.int .i64 (k : Int), .pointer (some ⟨b1, 0, none⟩), .pointer (some ⟨b2, 0, none⟩)] w fun e w' => ∃ r, e = .returned (.float .f32 r) ∧ cls .f32 r = winC us vs k ∧ Ext w w' := by
  obtain ⟨d1, l1⟩ := Box.cells1 h1
  obtain ⟨d2, l2⟩ := Box.cells1 h2
  obtain ⟨b, off, rfl, e1⟩ := cell_at g1 (Ext.refl w) k hk
  obtain ⟨b', off', rfl, e2⟩ := cell_at g2 (Ext.refl w) k hk
  have HCC : Hid (winC us vs k = fop .mul .f32 (cls .f32 (us.getD k 0)) (cls .f32 (vs.getD k 0))) := rfl
  generalize us.getD k 0 = u at e1 HCC
  generalize vs.getD k 0 = v at e2 HCC
  have hi0 : (0 : Int) ≤ (k : Int) := by omega
  have hi1 : (k : Int) < (n : Int) := by omega
  clear h1 h2 g1 g2
  go_enter Try.func56, Try.ntmps56
  go_wp2_with fail
  refine wp_region_many (by kernel_rfl) (by kernel_rfl) (by kernel_rfl) ?_
  repeat (with_reducible refine wpM_cons ?_; first
    | (refine wpM_fa rfl rfl rfl rfl rfl (by first | assumption | exact is_const (by decide) | exact is_int _ | exact is_self _ _) (by first | assumption | exact is_const (by decide) | exact is_int _ | exact is_self _ _) ?_; intro r hr hrw)
    | (refine wpM_quiet rfl (fun K hK => ?_); go_simp; refine hK _ ?_; clear hK K))
  with_reducible refine wpM_nil ?_
  intro w3 hw3
  obtain ⟨nq, hw3⟩ := hw3
  subst hw3
  go_wp2_with fail
  go_returns
  exact ⟨_, rfl, by rw [HCC.out]; exact Is.out hr, by (repeat with_reducible (first | exact Ext.refl _ | exact ext_alloc _ _ | refine Ext.drewN ?_ _ | refine Ext.drew1 ?_ | refine Ext.set ?_ (by dsimp only; omega) _ | refine Ext.alloc ?_ _))⟩

set_option maxHeartbeats 4000000 in
set_option maxRecDepth 100000 in
theorem winS_any (a1 a2 : Option Addr) (n m c1 c2 : Nat) (us vs : List Nat) (R : List (Option Nat)) (O : Bool) (w : World) (h1 : Holds .f32 w a1 n us) (h2 : Holds .f32 w a2 m vs) (hn : n ≤ 1048576) (hm : m ≤ 1048576) (hR : winSR us vs = (R, O)) :
    Calls Try.prog 22 #[.slice a1 n c1, .slice a2 m c2] w fun e w' => ∃ v, e = .returned (.tuple #[v, .bool O]) ∧ ListIs w' w.heap.size R v ∧ Ext w w' := by
  have H1 := hid h1
  have H2 := hid h2
  have HN := hid hn
  have HM := hid hm
  have HR : Hid ((if soundB (us.map (cls .f32)) && (soundB (vs.map (cls .f32)) && decide (n = m)) then soundR (winC us vs) n else ([], false)) = (R, O)) := by
    have := hR
    unfold winSR at this
    rw [h1.1, h2.1] at this
    exact this
  clear h1 h2 hn hm hR
  cases hA : soundB (us.map (cls .f32))
  · have e : O = false ∧ R = [] := by have := HR.out; rw [hA] at this; simpa [eq_comm, and_comm] using this
    obtain ⟨rfl, rfl⟩ := e
    go_enter Try.func22, Try.ntmps22
    go_wp2_with (first | (go_at_call 55; with_reducible refine (isSound_drew a1 n c1 us _ _ (Holds.ext H1.out (by (repeat with_reducible (first | exact Ext.refl _ | exact ext_alloc _ _ | refine Ext.drewN ?_ _ | refine Ext.drew1 ?_ | refine Ext.set ?_ (by dsimp only; omega) _ | refine Ext.alloc ?_ _)))) HN.out hA).mono ?_; rintro e w' ⟨rfl, m1, rfl⟩))
    go_returns
    refine ⟨_, rfl, nil_is _ _, ?_⟩
    (repeat with_reducible (first | exact Ext.refl _ | exact ext_alloc _ _ | refine Ext.drewN ?_ _ | refine Ext.drew1 ?_ | refine Ext.set ?_ (by dsimp only; omega) _ | refine Ext.alloc ?_ _))
  cases hB : soundB (vs.map (cls .f32))
  · have e : O = false ∧ R = [] := by have := HR.out; rw [hA, hB] at this; simpa [eq_comm, and_comm] using this
    obtain ⟨rfl, rfl⟩ := e
    go_enter Try.func22, Try.ntmps22
    go_wp2_with (first | (go_at_call 55; with_reducible refine (isSound_drew a1 n c1 us _ _ (Holds.ext H1.out (by (repeat with_reducible (first | exact Ext.refl _ | exact ext_alloc _ _ | refine Ext.drewN ?_ _ | refine Ext.drew1 ?_ | refine Ext.set ?_ (by dsimp only; omega) _ | refine Ext.alloc ?_ _)))) HN.out hA).mono ?_; rintro e w' ⟨rfl, m1, rfl⟩) | (go_at_call 55; with_reducible refine (isSound_drew a2 m c2 vs _ _ (Holds.ext H2.out (by (repeat with_reducible (first | exact Ext.refl _ | exact ext_alloc _ _ | refine Ext.drewN ?_ _ | refine Ext.drew1 ?_ | refine Ext.set ?_ (by dsimp only; omega) _ | refine Ext.alloc ?_ _)))) HM.out hB).mono ?_; rintro e w' ⟨rfl, m2, rfl⟩))
    go_returns
    refine ⟨_, rfl, nil_is _ _, ?_⟩
    (repeat with_reducible (first | exact Ext.refl _ | exact ext_alloc _ _ | refine Ext.drewN ?_ _ | refine Ext.drew1 ?_ | refine Ext.set ?_ (by dsimp only; omega) _ | refine Ext.alloc ?_ _))
  cases hC : decide (n = m)
  · have e : O = false ∧ R = [] := by have := HR.out; rw [hA, hB, hC] at this; simpa [eq_comm, and_comm] using this
    obtain ⟨rfl, rfl⟩ := e
    have hne : ¬ ((n : Int) = (m : Int)) := by have := of_decide_eq_false hC; omega
    clear hC
    go_enter Try.func22, Try.ntmps22
    go_wp2_with (first | (go_at_call 55; with_reducible refine (isSound_drew a1 n c1 us _ _ (Holds.ext H1.out (by (repeat with_reducible (first | exact Ext.refl _ | exact ext_alloc _ _ | refine Ext.drewN ?_ _ | refine Ext.drew1 ?_ | refine Ext.set ?_ (by dsimp only; omega) _ | refine Ext.alloc ?_ _)))) HN.out hA).mono ?_; rintro e w' ⟨rfl, m1, rfl⟩) | (go_at_call 55; with_reducible refine (isSound_drew a2 m c2 vs _ _ (Holds.ext H2.out (by (repeat with_reducible (first | exact Ext.refl _ | exact ext_alloc _ _ | refine Ext.drewN ?_ _ | refine Ext.drew1 ?_ | refine Ext.set ?_ (by dsimp only; omega) _ | refine Ext.alloc ?_ _)))) HM.out hB).mono ?_; rintro e w' ⟨rfl, m2, rfl⟩))
    go_returns
    refine ⟨_, rfl, nil_is _ _, ?_⟩
    (repeat with_reducible (first | exact Ext.refl _ | exact ext_alloc _ _ | refine Ext.drewN ?_ _ | refine Ext.drew1 ?_ | refine Ext.set ?_ (by dsimp only; omega) _ | refine Ext.alloc ?_ _))
  obtain rfl := of_decide_eq_true hC
  have HS := hid (show soundR (winC us vs) n = (R, O) from by have := HR.out; rw [hA, hB] at this; simpa using this)
  clear hC HR
  go_enter Try.func22, Try.ntmps22
  go_wp2_with (first | (go_at_call 55; with_reducible refine (isSound_drew a1 n c1 us _ _ (Holds.ext H1.out (by (repeat with_reducible (first | exact Ext.refl _ | exact ext_alloc _ _ | refine Ext.drewN ?_ _ | refine Ext.drew1 ?_ | refine Ext.set ?_ (by dsimp only; omega) _ | refine Ext.alloc ?_ _)))) HN.out hA).mono ?_; rintro e w' ⟨rfl, m1, rfl⟩) | (go_at_call 55; with_reducible refine (isSound_drew a2 n c2 vs _ _ (Holds.ext H2.out (by (repeat with_reducible (first | exact Ext.refl _ | exact ext_alloc _ _ | refine Ext.drewN ?_ _ | refine Ext.drew1 ?_ | refine Ext.set ?_ (by dsimp only; omega) _ | refine Ext.alloc ?_ _)))) HM.out hB).mono ?_; rintro e w' ⟨rfl, m2, rfl⟩))
  try simp only [World.drewN_drewN]
  obtain ⟨w0, hw0⟩ : ∃ u, u = ((w.alloc (.cells #[.slice a1 n c1] 22)).alloc (.cells #[.slice a2 n c2] 22)).drewN (m1 + m2) := ⟨_, rfl⟩
  rw [← hw0]
  have EX := hid (show Ext w w0 from by rw [hw0]; (repeat with_reducible (first | exact Ext.refl _ | exact ext_alloc _ _ | refine Ext.drewN ?_ _ | refine Ext.drew1 ?_ | refine Ext.set ?_ (by dsimp only; omega) _ | refine Ext.alloc ?_ _)))
  have B0 : Hid (Box w0 w.heap.size #[.slice a1 n c1]) := by rw [hw0]; exact hid (Box.drewN (Box.alloc (box_new (w := w) #[.slice a1 n c1] 22) _) _)
  have B1 : Hid (Box w0 (w.heap.size + 1) #[.slice a2 n c2]) := by rw [hw0]; exact hid (Box.drewN (Box.cast' (box_new (w := (w.alloc (.cells #[.slice a1 n c1] 22))) #[.slice a2 n c2] 22) (by simp)) _)
  clear hw0
  obtain ⟨q0, ql⟩ := Box.cells1 B0.out
  go_wp2_with fail
  refine (soundOf_any n 56 #[.pointer (some ⟨w.heap.size, 0, none⟩), .pointer (some ⟨w.heap.size + 1, 0, none⟩)] (winC us vs) R O w0 HN.out (fun _ _ => by simp [go_sem]) (fun k hk wr e => winS_clo k _ _ n c1 c2 a1 a2 us vs wr hk HN.out (Box.ext B0.out e) (Box.ext B1.out e) (Holds.ext H1.out (Ext.trans EX.out e)) (Holds.ext H2.out (Ext.trans EX.out e))) HS.out).mono ?_
  rintro e w1 ⟨v, rfl, hv, E1⟩
  have HL := hid hv
  have EY := hid (Ext.trans EX.out E1)
  have HZ := hid (show w.heap.size ≤ w0.heap.size from Ext.size EX.out)
  clear hv E1 q0 ql
  go_wp2_with fail
  go_returns
  exact ⟨_, rfl, ListIs.base HL.out HZ.out, EY.out⟩

set_option maxHeartbeats 4000000 in
set_option maxRecDepth 100000 in
theorem sWinS_any (a1 a2 : Option Addr) (n m c1 c2 : Nat) (us vs : List Nat) (R : List (Option Nat)) (O : Bool) (w : World) (h1 : Holds .f32 w a1 n us) (h2 : Holds .f32 w a2 m vs) (hn : n ≤ 1048576) (hm : m ≤ 1048576) (hR : winSR us vs = (R, O)) :
    Calls Try.prog 20 #[.slice a1 n c1, .slice a2 m c2] w fun e w' => ∃ v, e = .returned (.tuple #[v, .bool O]) ∧ ListIs w' w.heap.size R v ∧ Ext w w' := by
  have H1 := hid h1
  have H2 := hid h2
  have HN := hid hn
  have HM := hid hm
  have HR : Hid ((if soundB (us.map (cls .f32)) && (soundB (vs.map (cls .f32)) && decide (n = m)) then soundR (winC us vs) n else ([], false)) = (R, O)) := by
    have := hR
    unfold winSR at this
    rw [h1.1, h2.1] at this
    exact this
  clear h1 h2 hn hm hR
  cases hA : soundB (us.map (cls .f32))
  · have e : O = false ∧ R = [] := by have := HR.out; rw [hA] at this; simpa [eq_comm, and_comm] using this
    obtain ⟨rfl, rfl⟩ := e
    go_enter Try.func20, Try.ntmps20
    go_wp2_with (first | (go_at_call 53; with_reducible refine (l03Sound_drew a1 n c1 us _ _ (Holds.ext H1.out (by (repeat with_reducible (first | exact Ext.refl _ | exact ext_alloc _ _ | refine Ext.drewN ?_ _ | refine Ext.drew1 ?_ | refine Ext.set ?_ (by dsimp only; omega) _ | refine Ext.alloc ?_ _)))) HN.out hA).mono ?_; rintro e w' ⟨rfl, m1, rfl⟩))
    go_returns
    refine ⟨_, rfl, nil_is _ _, ?_⟩
    (repeat with_reducible (first | exact Ext.refl _ | exact ext_alloc _ _ | refine Ext.drewN ?_ _ | refine Ext.drew1 ?_ | refine Ext.set ?_ (by dsimp only; omega) _ | refine Ext.alloc ?_ _))
  cases hB : soundB (vs.map (cls .f32))
  · have e : O = false ∧ R = [] := by have := HR.out; rw [hA, hB] at this; simpa [eq_comm, and_comm] using this
    obtain ⟨rfl, rfl⟩ := e
    go_enter Try.func20, Try.ntmps20
    go_wp2_with (first | (go_at_call 53; with_reducible refine (l03Sound_drew a1 n c1 us _ _ (Holds.ext H1.out (by (repeat with_reducible (first | exact Ext.refl _ | exact ext_alloc _ _ | refine Ext.drewN ?_ _ | refine Ext.drew1 ?_ | refine Ext.set ?_ (by dsimp only; omega) _ | refine Ext.alloc ?_ _)))) HN.out hA).mono ?_; rintro e w' ⟨rfl, m1, rfl⟩) | (go_at_call 53; with_reducible refine (l03Sound_drew a2 m c2 vs _ _ (Holds.ext H2.out (by (repeat with_reducible (first | exact Ext.refl _ | exact ext_alloc _ _ | refine Ext.drewN ?_ _ | refine Ext.drew1 ?_ | refine Ext.set ?_ (by dsimp only; omega) _ | refine Ext.alloc ?_ _)))) HM.out hB).mono ?_; rintro e w' ⟨rfl, m2, rfl⟩))
    go_returns
    refine ⟨_, rfl, nil_is _ _, ?_⟩
    (repeat with_reducible (first | exact Ext.refl _ | exact ext_alloc _ _ | refine Ext.drewN ?_ _ | refine Ext.drew1 ?_ | refine Ext.set ?_ (by dsimp only; omega) _ | refine Ext.alloc ?_ _))
  cases hC : decide (n = m)
  · have e : O = false ∧ R = [] := by have := HR.out; rw [hA, hB, hC] at this; simpa [eq_comm, and_comm] using this
    obtain ⟨rfl, rfl⟩ := e
    have hne : ¬ ((n : Int) = (m : Int)) := by have := of_decide_eq_false hC; omega
    clear hC
    go_enter Try.func20, Try.ntmps20
    go_wp2_with (first | (go_at_call 53; with_reducible refine (l03Sound_drew a1 n c1 us _ _ (Holds.ext H1.out (by (repeat with_reducible (first | exact Ext.refl _ | exact ext_alloc _ _ | refine Ext.drewN ?_ _ | refine Ext.drew1 ?_ | refine Ext.set ?_ (by dsimp only; omega) _ | refine Ext.alloc ?_ _)))) HN.out hA).mono ?_; rintro e w' ⟨rfl, m1, rfl⟩) | (go_at_call 53; with_reducible refine (l03Sound_drew a2 m c2 vs _ _ (Holds.ext H2.out (by (repeat with_reducible (first | exact Ext.refl _ | exact ext_alloc _ _ | refine Ext.drewN ?_ _ | refine Ext.drew1 ?_ | refine Ext.set ?_ (by dsimp only; omega) _ | refine Ext.alloc ?_ _)))) HM.out hB).mono ?_; rintro e w' ⟨rfl, m2, rfl⟩))
    go_returns
    refine ⟨_, rfl, nil_is _ _, ?_⟩
    (repeat with_reducible (first | exact Ext.refl _ | exact ext_alloc _ _ | refine Ext.drewN ?_ _ | refine Ext.drew1 ?_ | refine Ext.set ?_ (by dsimp only; omega) _ | refine Ext.alloc ?_ _))
  obtain rfl := of_decide_eq_true hC
  have HS := hid (show soundR (winC us vs) n = (R, O) from by have := HR.out; rw [hA, hB] at this; simpa using this)
  clear hC HR
  obtain ⟨i0, hif, hz0, hz1, hz2⟩ := info_parts infoF
  have HI := hid (And.intro hif (And.intro hz0 (And.intro hz1 hz2)))
  clear hif hz0 hz1 hz2
  go_enter Try.func20, Try.ntmps20
  go_wp2_with (first | (go_at_call 53; with_reducible refine (l03Sound_drew a1 n c1 us _ _ (Holds.ext H1.out (by (repeat with_reducible (first | exact Ext.refl _ | exact ext_alloc _ _ | refine Ext.drewN ?_ _ | refine Ext.drew1 ?_ | refine Ext.set ?_ (by dsimp only; omega) _ | refine Ext.alloc ?_ _)))) HN.out hA).mono ?_; rintro e w' ⟨rfl, m1, rfl⟩) | (go_at_call 53; with_reducible refine (l03Sound_drew a2 n c2 vs _ _ (Holds.ext H2.out (by (repeat with_reducible (first | exact Ext.refl _ | exact ext_alloc _ _ | refine Ext.drewN ?_ _ | refine Ext.drew1 ?_ | refine Ext.set ?_ (by dsimp only; omega) _ | refine Ext.alloc ?_ _)))) HM.out hB).mono ?_; rintro e w' ⟨rfl, m2, rfl⟩))
  go_loopw [6, 26] (fun v i wr => ∃ (k : Nat) (ys : List Nat), k ≤ n ∧ i = .int .i64 k ∧ Hid (Own wr w.heap.size k v ys) ∧ Hid (ys.map (cls .f32) = listK (winC us vs) k) ∧ Hid (Ext w wr)) (fun _ i _ => n - (intOf i).toNat)
  case atStart => exact ⟨0, [], Nat.zero_le _, rfl, hid (own_fresh (cs := #[]) (zs := []) (hid rfl) rfl (by simp) (by simp) (Nat.zero_le _)), rfl, hid (by (repeat with_reducible (first | exact Ext.refl _ | exact ext_alloc _ _ | refine Ext.drewN ?_ _ | refine Ext.drew1 ?_ | refine Ext.set ?_ (by dsimp only; omega) _ | refine Ext.alloc ?_ _)))⟩
  case round =>
    obtain ⟨k, ys, hk, rfl, ho, hyy, he⟩ := hrel
    have hn2 : n ≤ 1048576 := HN.out
    by_cases hlt : k < n
    · have hi0 : (0 : Int) ≤ (k : Int) := by omega
      have hi1 : (k : Int) < (n : Int) := by omega
      obtain ⟨b, off, rfl, e1⟩ := cell_at H1.out he.out k hlt
      obtain ⟨b', off', rfl, e2⟩ := cell_at H2.out he.out k hlt
      have hs := hid (listK_succ (winC us vs) k)
      have HCC : Hid (winC us vs k = fop .mul .f32 (cls .f32 (us.getD k 0)) (cls .f32 (vs.getD k 0))) := rfl
      generalize us.getD k 0 = u at e1 HCC
      generalize vs.getD k 0 = v at e2 HCC
      have HSZ := hid (Ext.size he.out)
      go_wp2_with fail
      refine wp_region_move_tail 10 (by kernel_rfl) (by kernel_rfl) (by kernel_rfl) (fun _ _ _ h => h) (Or.inl ⟨by rfl, fun w => by simp [execOp]; rfl⟩) ?_
      simp only [List.take_succ_cons, List.take_zero, List.drop_succ_cons, List.drop_zero]
      repeat (with_reducible refine wpM_cons ?_; first
        | (refine wpM_fa rfl rfl rfl rfl rfl (by first | assumption | exact is_const (by decide) | exact is_int _ | exact is_self _ _) (by first | assumption | exact is_const (by decide) | exact is_int _ | exact is_self _ _) ?_; intro r hr hrw)
        | (refine wpM_quiet rfl (fun K hK => ?_); go_simp; refine hK _ ?_; clear hK K))
      with_reducible refine wpM_nil ?_
      intro w3 hw3
      obtain ⟨nq, hw3⟩ := hw3
      subst hw3
      go_wp2_with (at_builtin; refine wpList_append_lies _ rfl _ _ 22 rfl w.heap.size 33 i0 (.float .f32 0) 1 4 Try.underlying22 HI.out.1 HI.out.2.1 HI.out.2.2.1 HI.out.2.2.2 rfl (by decide) _ _ _ rfl (Own.ext ho.out (by (repeat with_reducible (first | exact Ext.refl _ | exact ext_alloc _ _ | refine Ext.drewN ?_ _ | refine Ext.drew1 ?_ | refine Ext.set ?_ (by dsimp only; omega) _ | refine Ext.alloc ?_ _)))) ⟨wr.heap.size, 0, none⟩ 1 1 [.float .f32 r] rfl rfl (World.news_of_block (heap_alloc_new _ _)) (by intro u hu; simp at hu; subst hu; rfl) (by omega) (by have h9 := HN.out; unfold maxLen; omega) (by have h9 := HN.out; omega) (by have h8 := HSZ.out; simp; omega) _ rfl ?_; intro g cap w1 hown hgrow hat hlt2)
      have h1 := hid (own_snoc hown)
      have h2 := hid (show Ext w w1 from But.below hgrow (Ext.trans he.out (by (repeat with_reducible (first | exact Ext.refl _ | exact ext_alloc _ _ | refine Ext.drewN ?_ _ | refine Ext.drew1 ?_ | refine Ext.set ?_ (by dsimp only; omega) _ | refine Ext.alloc ?_ _)))) (fun k2 hk2 => (Own.block ho.out k2 hk2).1))
      have h3 := hid (show (ys ++ [r]).map (cls .f32) = listK (winC us vs) (k + 1) from by rw [List.map_append, hyy.out, hs.out, HCC.out, ← hr.out]; rfl)
      clear hown hgrow hat hlt2
      go_wp2
      go_roundw
      case rel => exact ⟨k + 1, ys ++ [r], by omega, by go_num, h1, h3, h2⟩
      case measure => simp [intOf]; omega
    · have hkn : k = n := by omega
      subst hkn
      go_wp2_with fail
      refine (l03List_is _ _ w.heap.size ys R O _ ho.out HN.out (by rw [hyy.out]; exact HS.out)).mono ?_
      rintro e w1 ⟨u, rfl, hu, E1⟩
      have hu1 := hid hu
      have hx1 := hid (Ext.trans he.out E1)
      clear hu E1
      go_wp2
      go_ret2
      exact ⟨_, rfl, hu1.out, hx1.out⟩

end Go.Proofs.Ytpmjiabllmomjaa
