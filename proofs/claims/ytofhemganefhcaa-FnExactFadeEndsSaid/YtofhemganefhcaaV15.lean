/- A sound that begins and ends softly: the program's contract. -/
import Derived.Test.YtofhemganefhcaaV14
namespace Go.Proofs.Ytofhemganefhcaa
open Go.RowKit Flt
set_option linter.unusedVariables false

set_option maxHeartbeats 4000000 in
set_option maxRecDepth 100000 in
theorem soft_any (a : Option Addr) (n c : Nat) (i o : Int) (zs : List Nat) (R : List (Option Nat)) (O : Bool) (w : World) (h : Holds .f32 w a n zs) (hn : n ≤ 1048576) (hR : softR zs i o = (R, O)) :
    Calls Try.prog 73 #[.slice a n c, .int .i64 i, .int .i64 o] w fun e w' => ∃ v, e = .returned (.tuple #[v, .bool O]) ∧ ListIs w' w.heap.size R v ∧ Ext w w' := by
  have H1 := hid h
  have HN := hid hn
  have HL := hid h.1
  have HR := hid hR
  clear h hn hR
  cases hA : soundB (zs.map (cls .f32))
  · have e : O = false ∧ R = [] := by have := HR.out; unfold softR at this; rw [if_neg (by rw [hA]; simp)] at this; simpa [eq_comm, and_comm] using this
    obtain ⟨rfl, rfl⟩ := e
    go_enter Try.func73, Try.ntmps73
    go_wp2_with (first | (go_at_call 60; with_reducible refine (isSound_drew a n c zs _ _ (Holds.ext H1.out (by (repeat with_reducible (first | exact Ext.refl _ | exact ext_alloc _ _ | refine Ext.drewN ?_ _ | refine Ext.drew1 ?_ | refine Ext.set ?_ (by dsimp only; omega) _ | refine Ext.alloc ?_ _)))) HN.out hA).mono ?_; rintro e w' ⟨rfl, m1, rfl⟩))
    go_returns
    refine ⟨_, rfl, nil_is _ _, ?_⟩
    (repeat with_reducible (first | exact Ext.refl _ | exact ext_alloc _ _ | refine Ext.drewN ?_ _ | refine Ext.drew1 ?_ | refine Ext.set ?_ (by dsimp only; omega) _ | refine Ext.alloc ?_ _))
  by_cases hi0 : i < 0
  · have e : O = false ∧ R = [] := by have := HR.out; unfold softR at this; rw [if_neg (by rw [hA, HL.out]; simp; omega)] at this; simpa [eq_comm, and_comm] using this
    obtain ⟨rfl, rfl⟩ := e
    go_enter Try.func73, Try.ntmps73
    go_wp2_with (first | (go_at_call 60; with_reducible refine (isSound_drew a n c zs _ _ (Holds.ext H1.out (by (repeat with_reducible (first | exact Ext.refl _ | exact ext_alloc _ _ | refine Ext.drewN ?_ _ | refine Ext.drew1 ?_ | refine Ext.set ?_ (by dsimp only; omega) _ | refine Ext.alloc ?_ _)))) HN.out hA).mono ?_; rintro e w' ⟨rfl, m1, rfl⟩))
    go_returns
    refine ⟨_, rfl, nil_is _ _, ?_⟩
    (repeat with_reducible (first | exact Ext.refl _ | exact ext_alloc _ _ | refine Ext.drewN ?_ _ | refine Ext.drew1 ?_ | refine Ext.set ?_ (by dsimp only; omega) _ | refine Ext.alloc ?_ _))
  by_cases hi1 : (n : Int) < i
  · have e : O = false ∧ R = [] := by have := HR.out; unfold softR at this; rw [if_neg (by rw [hA, HL.out]; simp; omega)] at this; simpa [eq_comm, and_comm] using this
    obtain ⟨rfl, rfl⟩ := e
    go_enter Try.func73, Try.ntmps73
    go_wp2_with (first | (go_at_call 60; with_reducible refine (isSound_drew a n c zs _ _ (Holds.ext H1.out (by (repeat with_reducible (first | exact Ext.refl _ | exact ext_alloc _ _ | refine Ext.drewN ?_ _ | refine Ext.drew1 ?_ | refine Ext.set ?_ (by dsimp only; omega) _ | refine Ext.alloc ?_ _)))) HN.out hA).mono ?_; rintro e w' ⟨rfl, m1, rfl⟩))
    go_returns
    refine ⟨_, rfl, nil_is _ _, ?_⟩
    (repeat with_reducible (first | exact Ext.refl _ | exact ext_alloc _ _ | refine Ext.drewN ?_ _ | refine Ext.drew1 ?_ | refine Ext.set ?_ (by dsimp only; omega) _ | refine Ext.alloc ?_ _))
  by_cases ho0 : o < 0
  · have e : O = false ∧ R = [] := by have := HR.out; unfold softR at this; rw [if_neg (by rw [hA, HL.out]; simp; omega)] at this; simpa [eq_comm, and_comm] using this
    obtain ⟨rfl, rfl⟩ := e
    go_enter Try.func73, Try.ntmps73
    go_wp2_with (first | (go_at_call 60; with_reducible refine (isSound_drew a n c zs _ _ (Holds.ext H1.out (by (repeat with_reducible (first | exact Ext.refl _ | exact ext_alloc _ _ | refine Ext.drewN ?_ _ | refine Ext.drew1 ?_ | refine Ext.set ?_ (by dsimp only; omega) _ | refine Ext.alloc ?_ _)))) HN.out hA).mono ?_; rintro e w' ⟨rfl, m1, rfl⟩))
    go_returns
    refine ⟨_, rfl, nil_is _ _, ?_⟩
    (repeat with_reducible (first | exact Ext.refl _ | exact ext_alloc _ _ | refine Ext.drewN ?_ _ | refine Ext.drew1 ?_ | refine Ext.set ?_ (by dsimp only; omega) _ | refine Ext.alloc ?_ _))
  by_cases ho1 : (n : Int) < o
  · have e : O = false ∧ R = [] := by have := HR.out; unfold softR at this; rw [if_neg (by rw [hA, HL.out]; simp; omega)] at this; simpa [eq_comm, and_comm] using this
    obtain ⟨rfl, rfl⟩ := e
    go_enter Try.func73, Try.ntmps73
    go_wp2_with (first | (go_at_call 60; with_reducible refine (isSound_drew a n c zs _ _ (Holds.ext H1.out (by (repeat with_reducible (first | exact Ext.refl _ | exact ext_alloc _ _ | refine Ext.drewN ?_ _ | refine Ext.drew1 ?_ | refine Ext.set ?_ (by dsimp only; omega) _ | refine Ext.alloc ?_ _)))) HN.out hA).mono ?_; rintro e w' ⟨rfl, m1, rfl⟩))
    go_returns
    refine ⟨_, rfl, nil_is _ _, ?_⟩
    (repeat with_reducible (first | exact Ext.refl _ | exact ext_alloc _ _ | refine Ext.drewN ?_ _ | refine Ext.drew1 ?_ | refine Ext.set ?_ (by dsimp only; omega) _ | refine Ext.alloc ?_ _))
  obtain ⟨i, rfl⟩ : ∃ q : Nat, i = (q : Int) := ⟨i.toNat, by omega⟩
  obtain ⟨o, rfl⟩ : ∃ q : Nat, o = (q : Int) := ⟨o.toNat, by omega⟩
  have hin : i ≤ n := by omega
  have hon : o ≤ n := by omega
  have HS := hid (show soundR (softC zs i o n) n = (R, O) from by have := HR.out; unfold softR at this; rw [if_pos (by rw [hA, HL.out]; simp; omega), HL.out] at this; simpa using this)
  have HI := hid hin
  have HO := hid hon
  clear HR hin hon
  go_enter Try.func73, Try.ntmps73
  go_wp2_with (first | (go_at_call 60; with_reducible refine (isSound_drew a n c zs _ _ (Holds.ext H1.out (by (repeat with_reducible (first | exact Ext.refl _ | exact ext_alloc _ _ | refine Ext.drewN ?_ _ | refine Ext.drew1 ?_ | refine Ext.set ?_ (by dsimp only; omega) _ | refine Ext.alloc ?_ _)))) HN.out hA).mono ?_; rintro e w' ⟨rfl, m1, rfl⟩))
  obtain ⟨w0, hw0⟩ : ∃ u, u = ((((w.alloc (.cells #[.slice a n c] 22)).alloc (.cells #[.int .i64 (i : Int)] 2)).alloc (.cells #[.int .i64 (o : Int)] 2)).alloc (.cells #[.int .i64 (n : Int)] 2)).drewN m1 := ⟨_, rfl⟩
  rw [← hw0]
  have EX := hid (show Ext w w0 from by rw [hw0]; (repeat with_reducible (first | exact Ext.refl _ | exact ext_alloc _ _ | refine Ext.drewN ?_ _ | refine Ext.drew1 ?_ | refine Ext.set ?_ (by dsimp only; omega) _ | refine Ext.alloc ?_ _)))
  have B0 : Hid (Box w0 w.heap.size #[.slice a n c]) := by rw [hw0]; exact hid (Box.drewN (Box.alloc (Box.alloc (Box.alloc (box_new (w := w) #[.slice a n c] 22) _) _) _) _)
  have B1 : Hid (Box w0 (w.heap.size + 1) #[.int .i64 (i : Int)]) := by rw [hw0]; exact hid (Box.drewN (Box.cast' (Box.alloc (Box.alloc (box_new (w := (w.alloc (.cells #[.slice a n c] 22))) #[.int .i64 (i : Int)] 2) _) _) (by simp)) _)
  have B2 : Hid (Box w0 (w.heap.size + 2) #[.int .i64 (o : Int)]) := by rw [hw0]; exact hid (Box.drewN (Box.cast' (Box.alloc (box_new (w := ((w.alloc (.cells #[.slice a n c] 22)).alloc (.cells #[.int .i64 (i : Int)] 2))) #[.int .i64 (o : Int)] 2) _) (by simp)) _)
  have B3 : Hid (Box w0 (w.heap.size + 3) #[.int .i64 (n : Int)]) := by rw [hw0]; exact hid (Box.drewN (Box.cast' (box_new (w := (((w.alloc (.cells #[.slice a n c] 22)).alloc (.cells #[.int .i64 (i : Int)] 2)).alloc (.cells #[.int .i64 (o : Int)] 2))) #[.int .i64 (n : Int)] 2) (by simp)) _)
  clear hw0
  refine (soundOf_any n 98 #[.pointer (some ⟨w.heap.size, 0, none⟩), .pointer (some ⟨w.heap.size + 1, 0, none⟩), .pointer (some ⟨w.heap.size + 3, 0, none⟩), .pointer (some ⟨w.heap.size + 2, 0, none⟩)] (softC zs i o n) R O w0 HN.out (fun _ _ => by simp [go_sem]) (fun k hk wr e => soft_clo k _ _ _ _ n c i o a zs wr hk HN.out HI.out HO.out (Box.ext B0.out e) (Box.ext B1.out e) (Box.ext B3.out e) (Box.ext B2.out e) (Holds.ext H1.out (Ext.trans EX.out e))) HS.out).mono ?_
  rintro e w1 ⟨v, rfl, hv, E1⟩
  have HL2 := hid hv
  have EY := hid (Ext.trans EX.out E1)
  have HZ := hid (show w.heap.size ≤ w0.heap.size from Ext.size EX.out)
  clear hv E1
  go_wp2_with fail
  go_returns
  exact ⟨_, rfl, ListIs.base HL2.out HZ.out, EY.out⟩
end Go.Proofs.Ytofhemganefhcaa
