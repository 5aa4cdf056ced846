/- Throats and voices that are the same. -/
import Derived.Test.YtkmgkcbbbaioiaaV4
import Derived.Test.YtkmgkcbbbaioiaaT17
import Derived.Test.YtkmgkcbbbaioiaaTail
import Derived.Deep.RegionHeld3
import Derived.Laws.StructEq
namespace Go.Proofs.Ytkmgkcbbbaioiaa
open Go.RowKit Flt
set_option linter.unusedVariables false

theorem Box.set5 {w : World} {b : Nat} {v0 v1 v2 v3 v4 : Value} (h : Box w b #[v0, v1, v2, v3, v4]) (u0 u1 u2 u3 u4 : Value) : Box (((((w.setCell ⟨b, 0, none⟩ u0).setCell ⟨b, 1, none⟩ u1).setCell ⟨b, 2, none⟩ u2).setCell ⟨b, 3, none⟩ u3).setCell ⟨b, 4, none⟩ u4) b #[u0, u1, u2, u3, u4] := Box.eqv (box_set (j := 4) (box_set (j := 3) (box_set (j := 2) (box_set (j := 1) (box_set (j := 0) h u0) u1) u2) u3) u4) (by rfl)
theorem ext_set5 {a w : World} {b : Nat} (h : Ext a w) (hb : a.heap.size ≤ b) (u0 u1 u2 u3 u4 : Value) : Ext a (((((w.setCell ⟨b, 0, none⟩ u0).setCell ⟨b, 1, none⟩ u1).setCell ⟨b, 2, none⟩ u2).setCell ⟨b, 3, none⟩ u3).setCell ⟨b, 4, none⟩ u4) := Ext.set (Ext.set (Ext.set (Ext.set (Ext.set h hb _) hb _) hb _) hb _) hb _
set_option maxHeartbeats 1000000 in
set_option maxRecDepth 100000 in
theorem bitsOfThroat_any (p o c b s : Nat) (w : World) (hp : p < 4294967296) (ho : o < 4294967296) (hc : c < 4294967296) (hb : b < 4294967296) (hs : s < 4294967296) :
    Calls Try.prog 50 #[.agg #[.float .f32 p, .float .f32 o, .float .f32 c, .float .f32 b, .float .f32 s]] w fun e w' => e = .returned (.agg #[.int .i64 (bitsC (cls .f32 p)), .int .i64 (bitsC (cls .f32 o)), .int .i64 (bitsC (cls .f32 c)), .int .i64 (bitsC (cls .f32 b)), .int .i64 (bitsC (cls .f32 s))]) ∧ Ext w w' := by
  have BA := hid (Box.ext (box_new (w := w) #[.float .f32 p, .float .f32 o, .float .f32 c, .float .f32 b, .float .f32 s] 26) (show Ext _ (( w.alloc (.cells #[.float .f32 p, .float .f32 o, .float .f32 c, .float .f32 b, .float .f32 s] 26)).alloc (.cells #[.int .i64 0, .int .i64 0, .int .i64 0, .int .i64 0, .int .i64 0] 67)) from (by (repeat with_reducible (first | exact Ext.refl _ | exact ext_alloc _ _ | refine Ext.drewN ?_ _ | refine Ext.drew1 ?_ | refine Ext.set ?_ (by dsimp only; omega) _ | refine Ext.alloc ?_ _)))))
  have BV := hid (Box.cast' (b' := w.heap.size + 1) (box_new (w := w.alloc (.cells #[.float .f32 p, .float .f32 o, .float .f32 c, .float .f32 b, .float .f32 s] 26)) #[.int .i64 0, .int .i64 0, .int .i64 0, .int .i64 0, .int .i64 0] 67) (by simp))
  go_enter Try.func50, Try.ntmps50
  go_wp2
  refine wp_region_tail 15 (by kernel_rfl) (by kernel_rfl) (by kernel_rfl) ?_
  simp only [List.take_succ_cons, List.take_zero, List.drop_succ_cons, List.drop_zero]
  repeat (refine wpM_quiet rfl (fun K hK => ?_); go_simp; first | (refine hK _ ?_; clear hK K) | (apply Exists.intro; refine ⟨fun _ => ?_, hK _ ?_⟩; (go_at_call 78; refine Calls.quiet_of (bitsOf_any _ (by assumption) _)); clear hK K))
  refine wpM_nil ?_
  intro w3 hw3
  obtain ⟨nq, hw3⟩ := hw3
  subst hw3
  go_wp2_with fail
  go_returns
  refine ⟨rfl, ?_⟩
  (repeat with_reducible (first | exact Ext.refl _ | exact ext_alloc _ _ | refine Ext.drewN ?_ _ | refine Ext.drew1 ?_ | refine Ext.set ?_ (by dsimp only; omega) _ | refine Ext.alloc ?_ _))
set_option maxHeartbeats 1000000 in
set_option maxRecDepth 100000 in
theorem bitsOfVoice_any (p n : Nat) (s : Int) (w : World) (hp : p < 4294967296) (hn : n < 4294967296) :
    Calls Try.prog 55 #[.agg #[.float .f32 p, .float .f32 n, .int .i64 s]] w fun e w' => e = .returned (.agg #[.int .i64 (bitsC (cls .f32 p)), .int .i64 (bitsC (cls .f32 n)), .int .i64 s]) ∧ Ext w w' := by
  have BA := hid (Box.ext (box_new (w := w) #[.float .f32 p, .float .f32 n, .int .i64 s] 32) (show Ext _ (( w.alloc (.cells #[.float .f32 p, .float .f32 n, .int .i64 s] 32)).alloc (.cells #[.int .i64 0, .int .i64 0, .int .i64 0] 73)) from (by (repeat with_reducible (first | exact Ext.refl _ | exact ext_alloc _ _ | refine Ext.drewN ?_ _ | refine Ext.drew1 ?_ | refine Ext.set ?_ (by dsimp only; omega) _ | refine Ext.alloc ?_ _)))))
  have BV := hid (Box.cast' (b' := w.heap.size + 1) (box_new (w := w.alloc (.cells #[.float .f32 p, .float .f32 n, .int .i64 s] 32)) #[.int .i64 0, .int .i64 0, .int .i64 0] 73) (by simp))
  go_enter Try.func55, Try.ntmps55
  go_wp2
  refine wp_region_tail 8 (by kernel_rfl) (by kernel_rfl) (by kernel_rfl) ?_
  simp only [List.take_succ_cons, List.take_zero, List.drop_succ_cons, List.drop_zero]
  repeat (refine wpM_quiet rfl (fun K hK => ?_); go_simp; first | (refine hK _ ?_; clear hK K) | (apply Exists.intro; refine ⟨fun _ => ?_, hK _ ?_⟩; (go_at_call 78; refine Calls.quiet_of (bitsOf_any _ (by assumption) _)); clear hK K))
  refine wpM_nil ?_
  intro w3 hw3
  obtain ⟨nq, hw3⟩ := hw3
  subst hw3
  go_wp2_with fail
  go_returns
  refine ⟨rfl, ?_⟩
  (repeat with_reducible (first | exact Ext.refl _ | exact ext_alloc _ _ | refine Ext.drewN ?_ _ | refine Ext.drew1 ?_ | refine Ext.set ?_ (by dsimp only; omega) _ | refine Ext.alloc ?_ _))
def sameT (p o c b s p2 o2 c2 b2 s2 : Nat) : Bool := eqW p p2 && (eqW o o2 && (eqW c c2 && (eqW b b2 && eqW s s2)))
def sameV (p n : Nat) (s : Int) (p2 n2 : Nat) (s2 : Int) : Bool := eqW p p2 && (eqW n n2 && decide (s = s2))
theorem eql_throatBits (x0 x1 x2 x3 x4 y0 y1 y2 y3 y4 : Int) (w : World) : (binOp .eql 67 (.agg #[.int .i64 x0, .int .i64 x1, .int .i64 x2, .int .i64 x3, .int .i64 x4]) (.agg #[.int .i64 y0, .int .i64 y1, .int .i64 y2, .int .i64 y3, .int .i64 y4])).run Try.prog w = .ok (.bool (x0 == y0 && (x1 == y1 && (x2 == y2 && (x3 == y3 && (x4 == y4)))))) w := by
  by_cases h0 : x0 = y0
  · subst h0
    by_cases h1 : x1 = y1
    · subst h1
      by_cases h2 : x2 = y2
      · subst h2
        by_cases h3 : x3 = y3
        · subst h3
          by_cases h4 : x4 = y4
          · subst h4
            simp [go_sem]
          · have e4 : (x4 == y4) = false := by simpa using h4
            simp [go_sem, e4]
        · have e3 : (x3 == y3) = false := by simpa using h3
          simp [go_sem, e3]
      · have e2 : (x2 == y2) = false := by simpa using h2
        simp [go_sem, e2]
    · have e1 : (x1 == y1) = false := by simpa using h1
      simp [go_sem, e1]
  · have e0 : (x0 == y0) = false := by simpa using h0
    simp [go_sem, e0]
theorem eql_voiceBits (x0 x1 x2 y0 y1 y2 : Int) (w : World) : (binOp .eql 73 (.agg #[.int .i64 x0, .int .i64 x1, .int .i64 x2]) (.agg #[.int .i64 y0, .int .i64 y1, .int .i64 y2])).run Try.prog w = .ok (.bool (x0 == y0 && (x1 == y1 && (x2 == y2)))) w := by
  by_cases h0 : x0 = y0
  · subst h0
    by_cases h1 : x1 = y1
    · subst h1
      by_cases h2 : x2 = y2
      · subst h2
        simp [go_sem]
      · have e2 : (x2 == y2) = false := by simpa using h2
        simp [go_sem, e2]
    · have e1 : (x1 == y1) = false := by simpa using h1
      simp [go_sem, e1]
  · have e0 : (x0 == y0) = false := by simpa using h0
    simp [go_sem, e0]
set_option maxHeartbeats 1000000 in
set_option maxRecDepth 100000 in
theorem sameThroat_is (p o c b s : Nat) (p2 o2 c2 b2 s2 : Nat) (V : Bool) (w : World) (hp : p < 4294967296) (ho : o < 4294967296) (hc : c < 4294967296) (hb : b < 4294967296) (hs : s < 4294967296) (hp2 : p2 < 4294967296) (ho2 : o2 < 4294967296) (hc2 : c2 < 4294967296) (hb2 : b2 < 4294967296) (hs2 : s2 < 4294967296) (hV : sameT p o c b s p2 o2 c2 b2 s2 = V) :
    Calls Try.prog 19 #[.agg #[.float .f32 p, .float .f32 o, .float .f32 c, .float .f32 b, .float .f32 s], .agg #[.float .f32 p2, .float .f32 o2, .float .f32 c2, .float .f32 b2, .float .f32 s2]] w fun e w' => e = .returned (.bool V) ∧ Ext w w' := by
  have Hp := hid hp
  have Ho := hid ho
  have Hc := hid hc
  have Hb := hid hb
  have Hs := hid hs
  have Hp2 := hid hp2
  have Ho2 := hid ho2
  have Hc2 := hid hc2
  have Hb2 := hid hb2
  have Hs2 := hid hs2
  have HV := hid hV
  clear hV hp ho hc hb hs hp2 ho2 hc2 hb2 hs2
  have heq := fun w => eql_throatBits (bitsC (cls .f32 p)) (bitsC (cls .f32 o)) (bitsC (cls .f32 c)) (bitsC (cls .f32 b)) (bitsC (cls .f32 s)) (bitsC (cls .f32 p2)) (bitsC (cls .f32 o2)) (bitsC (cls .f32 c2)) (bitsC (cls .f32 b2)) (bitsC (cls .f32 s2)) w
  go_enter Try.func19, Try.ntmps19
  go_wp2_with fail
  obtain ⟨w0, hw0⟩ : ∃ u, u = ((w.alloc (.cells #[.float .f32 p, .float .f32 o, .float .f32 c, .float .f32 b, .float .f32 s] 26)).alloc (.cells #[.float .f32 p2, .float .f32 o2, .float .f32 c2, .float .f32 b2, .float .f32 s2] 26)) := ⟨_, rfl⟩
  rw [← hw0]
  have EX := hid (show Ext w w0 from by rw [hw0]; (repeat with_reducible (first | exact Ext.refl _ | exact ext_alloc _ _ | refine Ext.drewN ?_ _ | refine Ext.drew1 ?_ | refine Ext.set ?_ (by dsimp only; omega) _ | refine Ext.alloc ?_ _)))
  have A : Hid (Box w0 w.heap.size #[.float .f32 p, .float .f32 o, .float .f32 c, .float .f32 b, .float .f32 s]) := by rw [hw0]; exact hid (Box.alloc (box_new (w := w) #[.float .f32 p, .float .f32 o, .float .f32 c, .float .f32 b, .float .f32 s] 26) _)
  have B : Hid (Box w0 (w.heap.size + 1) #[.float .f32 p2, .float .f32 o2, .float .f32 c2, .float .f32 b2, .float .f32 s2]) := by rw [hw0]; exact hid (Box.cast' (box_new (w := w.alloc (.cells #[.float .f32 p, .float .f32 o, .float .f32 c, .float .f32 b, .float .f32 s] 26)) #[.float .f32 p2, .float .f32 o2, .float .f32 c2, .float .f32 b2, .float .f32 s2] 26) (by simp))
  clear hw0
  obtain ⟨a0, a1, a2, a3, a4, al⟩ := Box.cells5 A.out
  obtain ⟨B0, B1, B2, B3, B4, bl⟩ := Box.cells5 B.out
  go_region_held3 (fun w' => w'.cell? ⟨w.heap.size, 0, none⟩ = some (.float .f32 p) ∧ w'.cell? ⟨w.heap.size, 1, none⟩ = some (.float .f32 o) ∧ w'.cell? ⟨w.heap.size, 2, none⟩ = some (.float .f32 c) ∧ w'.cell? ⟨w.heap.size, 3, none⟩ = some (.float .f32 b) ∧ w'.cell? ⟨w.heap.size, 4, none⟩ = some (.float .f32 s) ∧ w'.cell? ⟨w.heap.size + 1, 0, none⟩ = some (.float .f32 p2) ∧ w'.cell? ⟨w.heap.size + 1, 1, none⟩ = some (.float .f32 o2) ∧ w'.cell? ⟨w.heap.size + 1, 2, none⟩ = some (.float .f32 c2) ∧ w'.cell? ⟨w.heap.size + 1, 3, none⟩ = some (.float .f32 b2) ∧ w'.cell? ⟨w.heap.size + 1, 4, none⟩ = some (.float .f32 s2))
    (first | (refine keep_of (c := w0) (S := fun w' => w'.cell? ⟨w.heap.size, 0, none⟩ = some (.float .f32 p) ∧ w'.cell? ⟨w.heap.size, 1, none⟩ = some (.float .f32 o) ∧ w'.cell? ⟨w.heap.size, 2, none⟩ = some (.float .f32 c) ∧ w'.cell? ⟨w.heap.size, 3, none⟩ = some (.float .f32 b) ∧ w'.cell? ⟨w.heap.size, 4, none⟩ = some (.float .f32 s) ∧ w'.cell? ⟨w.heap.size + 1, 0, none⟩ = some (.float .f32 p2) ∧ w'.cell? ⟨w.heap.size + 1, 1, none⟩ = some (.float .f32 o2) ∧ w'.cell? ⟨w.heap.size + 1, 2, none⟩ = some (.float .f32 c2) ∧ w'.cell? ⟨w.heap.size + 1, 3, none⟩ = some (.float .f32 b2) ∧ w'.cell? ⟨w.heap.size + 1, 4, none⟩ = some (.float .f32 s2)) (fun u hu => ⟨Box.cell (Box.ext A.out hu) 0, Box.cell (Box.ext A.out hu) 1, Box.cell (Box.ext A.out hu) 2, Box.cell (Box.ext A.out hu) 3, Box.cell (Box.ext A.out hu) 4, Box.cell (Box.ext B.out hu) 0, Box.cell (Box.ext B.out hu) 1, Box.cell (Box.ext B.out hu) 2, Box.cell (Box.ext B.out hu) 3, Box.cell (Box.ext B.out hu) 4⟩) ?_; (repeat with_reducible (first | exact Ext.refl _ | exact ext_alloc _ _ | refine Ext.trans ?_ ED0 | refine Ext.trans ?_ ED1 | refine Ext.drewN ?_ _ | refine Ext.drew1 ?_ | refine Ext.alloc ?_ _))))
    (first | (go_at_call 50; with_reducible refine (bitsOfThroat_any p o c b s _ Hp.out Ho.out Hc.out Hb.out Hs.out).mono ?_; rintro e wD0 ⟨rfl, ED0⟩) | (go_at_call 50; with_reducible refine (bitsOfThroat_any p2 o2 c2 b2 s2 _ Hp2.out Ho2.out Hc2.out Hb2.out Hs2.out).mono ?_; rintro e wD1 ⟨rfl, ED1⟩))
  all_goals
    clear a0 a1 a2 a3 a4 al B0 B1 B2 B3 B4 bl
    go_wp2
    go_ret
    refine ⟨?_, ?_⟩
    · rw [← HV.out]
      unfold sameT eqW
      first | rfl | (congr 2; simp; done)
    · refine Ext.trans EX.out ?_
      (repeat with_reducible (first | exact Ext.refl _ | exact ext_alloc _ _ | refine Ext.trans ?_ ED0 | refine Ext.trans ?_ ED1 | refine Ext.drewN ?_ _ | refine Ext.drew1 ?_ | refine Ext.alloc ?_ _))
set_option maxHeartbeats 1000000 in
set_option maxRecDepth 100000 in
theorem sameVoice_is (p n : Nat) (s : Int) (p2 n2 : Nat) (s2 : Int) (V : Bool) (w : World) (hp : p < 4294967296) (hn : n < 4294967296) (hp2 : p2 < 4294967296) (hn2 : n2 < 4294967296) (hV : sameV p n s p2 n2 s2 = V) :
    Calls Try.prog 27 #[.agg #[.float .f32 p, .float .f32 n, .int .i64 s], .agg #[.float .f32 p2, .float .f32 n2, .int .i64 s2]] w fun e w' => e = .returned (.bool V) ∧ Ext w w' := by
  have Hp := hid hp
  have Hn := hid hn
  have Hp2 := hid hp2
  have Hn2 := hid hn2
  have HV := hid hV
  clear hV hp hn hp2 hn2
  have heq := fun w => eql_voiceBits (bitsC (cls .f32 p)) (bitsC (cls .f32 n)) s (bitsC (cls .f32 p2)) (bitsC (cls .f32 n2)) s2 w
  go_enter Try.func27, Try.ntmps27
  go_wp2_with fail
  obtain ⟨w0, hw0⟩ : ∃ u, u = ((w.alloc (.cells #[.float .f32 p, .float .f32 n, .int .i64 s] 32)).alloc (.cells #[.float .f32 p2, .float .f32 n2, .int .i64 s2] 32)) := ⟨_, rfl⟩
  rw [← hw0]
  have EX := hid (show Ext w w0 from by rw [hw0]; (repeat with_reducible (first | exact Ext.refl _ | exact ext_alloc _ _ | refine Ext.drewN ?_ _ | refine Ext.drew1 ?_ | refine Ext.set ?_ (by dsimp only; omega) _ | refine Ext.alloc ?_ _)))
  have A : Hid (Box w0 w.heap.size #[.float .f32 p, .float .f32 n, .int .i64 s]) := by rw [hw0]; exact hid (Box.alloc (box_new (w := w) #[.float .f32 p, .float .f32 n, .int .i64 s] 32) _)
  have B : Hid (Box w0 (w.heap.size + 1) #[.float .f32 p2, .float .f32 n2, .int .i64 s2]) := by rw [hw0]; exact hid (Box.cast' (box_new (w := w.alloc (.cells #[.float .f32 p, .float .f32 n, .int .i64 s] 32)) #[.float .f32 p2, .float .f32 n2, .int .i64 s2] 32) (by simp))
  clear hw0
  obtain ⟨a0, a1, a2, al⟩ := Box.cells3 A.out
  obtain ⟨B0, B1, B2, bl⟩ := Box.cells3 B.out
  go_region_held3 (fun w' => w'.cell? ⟨w.heap.size, 0, none⟩ = some (.float .f32 p) ∧ w'.cell? ⟨w.heap.size, 1, none⟩ = some (.float .f32 n) ∧ w'.cell? ⟨w.heap.size, 2, none⟩ = some (.int .i64 s) ∧ w'.cell? ⟨w.heap.size + 1, 0, none⟩ = some (.float .f32 p2) ∧ w'.cell? ⟨w.heap.size + 1, 1, none⟩ = some (.float .f32 n2) ∧ w'.cell? ⟨w.heap.size + 1, 2, none⟩ = some (.int .i64 s2))
    (first | (refine keep_of (c := w0) (S := fun w' => w'.cell? ⟨w.heap.size, 0, none⟩ = some (.float .f32 p) ∧ w'.cell? ⟨w.heap.size, 1, none⟩ = some (.float .f32 n) ∧ w'.cell? ⟨w.heap.size, 2, none⟩ = some (.int .i64 s) ∧ w'.cell? ⟨w.heap.size + 1, 0, none⟩ = some (.float .f32 p2) ∧ w'.cell? ⟨w.heap.size + 1, 1, none⟩ = some (.float .f32 n2) ∧ w'.cell? ⟨w.heap.size + 1, 2, none⟩ = some (.int .i64 s2)) (fun u hu => ⟨Box.cell (Box.ext A.out hu) 0, Box.cell (Box.ext A.out hu) 1, Box.cell (Box.ext A.out hu) 2, Box.cell (Box.ext B.out hu) 0, Box.cell (Box.ext B.out hu) 1, Box.cell (Box.ext B.out hu) 2⟩) ?_; (repeat with_reducible (first | exact Ext.refl _ | exact ext_alloc _ _ | refine Ext.trans ?_ ED0 | refine Ext.trans ?_ ED1 | refine Ext.drewN ?_ _ | refine Ext.drew1 ?_ | refine Ext.alloc ?_ _))))
    (first | (go_at_call 55; with_reducible refine (bitsOfVoice_any p n s _ Hp.out Hn.out).mono ?_; rintro e wD0 ⟨rfl, ED0⟩) | (go_at_call 55; with_reducible refine (bitsOfVoice_any p2 n2 s2 _ Hp2.out Hn2.out).mono ?_; rintro e wD1 ⟨rfl, ED1⟩))
  all_goals
    clear a0 a1 a2 al B0 B1 B2 bl
    go_wp2
    go_ret
    refine ⟨?_, ?_⟩
    · rw [← HV.out]
      unfold sameV eqW
      first | rfl | (congr 2; simp; done)
    · refine Ext.trans EX.out ?_
      (repeat with_reducible (first | exact Ext.refl _ | exact ext_alloc _ _ | refine Ext.trans ?_ ED0 | refine Ext.trans ?_ ED1 | refine Ext.drewN ?_ _ | refine Ext.drew1 ?_ | refine Ext.alloc ?_ _))
set_option maxHeartbeats 1000000 in
set_option maxRecDepth 100000 in
theorem sSameThroat_is (p o c b s : Nat) (p2 o2 c2 b2 s2 : Nat) (V : Bool) (w : World) (wp : p < 4294967296) (wo : o < 4294967296) (wc : c < 4294967296) (wb : b < 4294967296) (ws : s < 4294967296) (wp2 : p2 < 4294967296) (wo2 : o2 < 4294967296) (wc2 : c2 < 4294967296) (wb2 : b2 < 4294967296) (ws2 : s2 < 4294967296) (hV : sameT p o c b s p2 o2 c2 b2 s2 = V) :
    Calls Try.prog 18 #[.agg #[.float .f32 p, .float .f32 o, .float .f32 c, .float .f32 b, .float .f32 s], .agg #[.float .f32 p2, .float .f32 o2, .float .f32 c2, .float .f32 b2, .float .f32 s2]] w fun e w' => e = .returned (.bool V) ∧ Ext w w' := by
  have Hp := hid wp
  have Ho := hid wo
  have Hc := hid wc
  have Hb := hid wb
  have Hs := hid ws
  have Hp2 := hid wp2
  have Ho2 := hid wo2
  have Hc2 := hid wc2
  have Hb2 := hid wb2
  have Hs2 := hid ws2
  subst hV
  clear wp wo wc wb ws wp2 wo2 wc2 wb2 ws2
  unfold sameT
  cases hp : eqW p p2
  · go_enter Try.func18, Try.ntmps18
    go_wp2_with (first | (go_at_call 49; with_reducible refine (l01Same_eq p p2 Hp.out Hp2.out _).mono ?_; rintro e w' ⟨rfl, rfl⟩; simp only [hp]) | (go_at_call 49; with_reducible refine (l01Same_eq o o2 Ho.out Ho2.out _).mono ?_; rintro e w' ⟨rfl, rfl⟩; simp only [ho]) | (go_at_call 49; with_reducible refine (l01Same_eq c c2 Hc.out Hc2.out _).mono ?_; rintro e w' ⟨rfl, rfl⟩; simp only [hc]) | (go_at_call 49; with_reducible refine (l01Same_eq b b2 Hb.out Hb2.out _).mono ?_; rintro e w' ⟨rfl, rfl⟩; simp only [hb]) | (go_at_call 49; with_reducible refine (l01Same_eq s s2 Hs.out Hs2.out _).mono ?_; rintro e w' ⟨rfl, rfl⟩; simp only [hs]))
    go_ret
    refine ⟨by first | rfl | exact ret_bool (by first | rfl | (simp; done)), ?_⟩
    (repeat with_reducible (first | exact Ext.refl _ | exact ext_alloc _ _ | refine Ext.drewN ?_ _ | refine Ext.drew1 ?_ | refine Ext.set ?_ (by dsimp only; omega) _ | refine Ext.alloc ?_ _))
  cases ho : eqW o o2
  · go_enter Try.func18, Try.ntmps18
    go_wp2_with (first | (go_at_call 49; with_reducible refine (l01Same_eq p p2 Hp.out Hp2.out _).mono ?_; rintro e w' ⟨rfl, rfl⟩; simp only [hp]) | (go_at_call 49; with_reducible refine (l01Same_eq o o2 Ho.out Ho2.out _).mono ?_; rintro e w' ⟨rfl, rfl⟩; simp only [ho]) | (go_at_call 49; with_reducible refine (l01Same_eq c c2 Hc.out Hc2.out _).mono ?_; rintro e w' ⟨rfl, rfl⟩; simp only [hc]) | (go_at_call 49; with_reducible refine (l01Same_eq b b2 Hb.out Hb2.out _).mono ?_; rintro e w' ⟨rfl, rfl⟩; simp only [hb]) | (go_at_call 49; with_reducible refine (l01Same_eq s s2 Hs.out Hs2.out _).mono ?_; rintro e w' ⟨rfl, rfl⟩; simp only [hs]))
    go_ret
    refine ⟨by first | rfl | exact ret_bool (by first | rfl | (simp; done)), ?_⟩
    (repeat with_reducible (first | exact Ext.refl _ | exact ext_alloc _ _ | refine Ext.drewN ?_ _ | refine Ext.drew1 ?_ | refine Ext.set ?_ (by dsimp only; omega) _ | refine Ext.alloc ?_ _))
  cases hc : eqW c c2
  · go_enter Try.func18, Try.ntmps18
    go_wp2_with (first | (go_at_call 49; with_reducible refine (l01Same_eq p p2 Hp.out Hp2.out _).mono ?_; rintro e w' ⟨rfl, rfl⟩; simp only [hp]) | (go_at_call 49; with_reducible refine (l01Same_eq o o2 Ho.out Ho2.out _).mono ?_; rintro e w' ⟨rfl, rfl⟩; simp only [ho]) | (go_at_call 49; with_reducible refine (l01Same_eq c c2 Hc.out Hc2.out _).mono ?_; rintro e w' ⟨rfl, rfl⟩; simp only [hc]) | (go_at_call 49; with_reducible refine (l01Same_eq b b2 Hb.out Hb2.out _).mono ?_; rintro e w' ⟨rfl, rfl⟩; simp only [hb]) | (go_at_call 49; with_reducible refine (l01Same_eq s s2 Hs.out Hs2.out _).mono ?_; rintro e w' ⟨rfl, rfl⟩; simp only [hs]))
    go_ret
    refine ⟨by first | rfl | exact ret_bool (by first | rfl | (simp; done)), ?_⟩
    (repeat with_reducible (first | exact Ext.refl _ | exact ext_alloc _ _ | refine Ext.drewN ?_ _ | refine Ext.drew1 ?_ | refine Ext.set ?_ (by dsimp only; omega) _ | refine Ext.alloc ?_ _))
  cases hb : eqW b b2
  · go_enter Try.func18, Try.ntmps18
    go_wp2_with (first | (go_at_call 49; with_reducible refine (l01Same_eq p p2 Hp.out Hp2.out _).mono ?_; rintro e w' ⟨rfl, rfl⟩; simp only [hp]) | (go_at_call 49; with_reducible refine (l01Same_eq o o2 Ho.out Ho2.out _).mono ?_; rintro e w' ⟨rfl, rfl⟩; simp only [ho]) | (go_at_call 49; with_reducible refine (l01Same_eq c c2 Hc.out Hc2.out _).mono ?_; rintro e w' ⟨rfl, rfl⟩; simp only [hc]) | (go_at_call 49; with_reducible refine (l01Same_eq b b2 Hb.out Hb2.out _).mono ?_; rintro e w' ⟨rfl, rfl⟩; simp only [hb]) | (go_at_call 49; with_reducible refine (l01Same_eq s s2 Hs.out Hs2.out _).mono ?_; rintro e w' ⟨rfl, rfl⟩; simp only [hs]))
    go_ret
    refine ⟨by first | rfl | exact ret_bool (by first | rfl | (simp; done)), ?_⟩
    (repeat with_reducible (first | exact Ext.refl _ | exact ext_alloc _ _ | refine Ext.drewN ?_ _ | refine Ext.drew1 ?_ | refine Ext.set ?_ (by dsimp only; omega) _ | refine Ext.alloc ?_ _))
  cases hs : eqW s s2
  · go_enter Try.func18, Try.ntmps18
    go_wp2_with (first | (go_at_call 49; with_reducible refine (l01Same_eq p p2 Hp.out Hp2.out _).mono ?_; rintro e w' ⟨rfl, rfl⟩; simp only [hp]) | (go_at_call 49; with_reducible refine (l01Same_eq o o2 Ho.out Ho2.out _).mono ?_; rintro e w' ⟨rfl, rfl⟩; simp only [ho]) | (go_at_call 49; with_reducible refine (l01Same_eq c c2 Hc.out Hc2.out _).mono ?_; rintro e w' ⟨rfl, rfl⟩; simp only [hc]) | (go_at_call 49; with_reducible refine (l01Same_eq b b2 Hb.out Hb2.out _).mono ?_; rintro e w' ⟨rfl, rfl⟩; simp only [hb]) | (go_at_call 49; with_reducible refine (l01Same_eq s s2 Hs.out Hs2.out _).mono ?_; rintro e w' ⟨rfl, rfl⟩; simp only [hs]))
    go_ret
    refine ⟨by first | rfl | exact ret_bool (by first | rfl | (simp; done)), ?_⟩
    (repeat with_reducible (first | exact Ext.refl _ | exact ext_alloc _ _ | refine Ext.drewN ?_ _ | refine Ext.drew1 ?_ | refine Ext.set ?_ (by dsimp only; omega) _ | refine Ext.alloc ?_ _))
  go_enter Try.func18, Try.ntmps18
  go_wp2_with (first | (go_at_call 49; with_reducible refine (l01Same_eq p p2 Hp.out Hp2.out _).mono ?_; rintro e w' ⟨rfl, rfl⟩; simp only [hp]) | (go_at_call 49; with_reducible refine (l01Same_eq o o2 Ho.out Ho2.out _).mono ?_; rintro e w' ⟨rfl, rfl⟩; simp only [ho]) | (go_at_call 49; with_reducible refine (l01Same_eq c c2 Hc.out Hc2.out _).mono ?_; rintro e w' ⟨rfl, rfl⟩; simp only [hc]) | (go_at_call 49; with_reducible refine (l01Same_eq b b2 Hb.out Hb2.out _).mono ?_; rintro e w' ⟨rfl, rfl⟩; simp only [hb]) | (go_at_call 49; with_reducible refine (l01Same_eq s s2 Hs.out Hs2.out _).mono ?_; rintro e w' ⟨rfl, rfl⟩; simp only [hs]))
  go_ret
  refine ⟨by first | rfl | exact ret_bool (by first | rfl | (simp; done)), ?_⟩
  (repeat with_reducible (first | exact Ext.refl _ | exact ext_alloc _ _ | refine Ext.drewN ?_ _ | refine Ext.drew1 ?_ | refine Ext.set ?_ (by dsimp only; omega) _ | refine Ext.alloc ?_ _))
set_option maxHeartbeats 1000000 in
set_option maxRecDepth 100000 in
theorem sSameVoice_is (p n : Nat) (s : Int) (p2 n2 : Nat) (s2 : Int) (V : Bool) (w : World) (wp : p < 4294967296) (wn : n < 4294967296) (wp2 : p2 < 4294967296) (wn2 : n2 < 4294967296) (hV : sameV p n s p2 n2 s2 = V) :
    Calls Try.prog 26 #[.agg #[.float .f32 p, .float .f32 n, .int .i64 s], .agg #[.float .f32 p2, .float .f32 n2, .int .i64 s2]] w fun e w' => e = .returned (.bool V) ∧ Ext w w' := by
  have Hp := hid wp
  have Hn := hid wn
  have Hp2 := hid wp2
  have Hn2 := hid wn2
  subst hV
  clear wp wn wp2 wn2
  unfold sameV
  cases hp : eqW p p2
  · go_enter Try.func26, Try.ntmps26
    go_wp2_with (first | (go_at_call 49; with_reducible refine (l01Same_eq p p2 Hp.out Hp2.out _).mono ?_; rintro e w' ⟨rfl, rfl⟩; simp only [hp]) | (go_at_call 49; with_reducible refine (l01Same_eq n n2 Hn.out Hn2.out _).mono ?_; rintro e w' ⟨rfl, rfl⟩; simp only [hn]))
    go_ret
    refine ⟨by first | rfl | exact ret_bool (by first | rfl | (simp; done)), ?_⟩
    (repeat with_reducible (first | exact Ext.refl _ | exact ext_alloc _ _ | refine Ext.drewN ?_ _ | refine Ext.drew1 ?_ | refine Ext.set ?_ (by dsimp only; omega) _ | refine Ext.alloc ?_ _))
  cases hn : eqW n n2
  · go_enter Try.func26, Try.ntmps26
    go_wp2_with (first | (go_at_call 49; with_reducible refine (l01Same_eq p p2 Hp.out Hp2.out _).mono ?_; rintro e w' ⟨rfl, rfl⟩; simp only [hp]) | (go_at_call 49; with_reducible refine (l01Same_eq n n2 Hn.out Hn2.out _).mono ?_; rintro e w' ⟨rfl, rfl⟩; simp only [hn]))
    go_ret
    refine ⟨by first | rfl | exact ret_bool (by first | rfl | (simp; done)), ?_⟩
    (repeat with_reducible (first | exact Ext.refl _ | exact ext_alloc _ _ | refine Ext.drewN ?_ _ | refine Ext.drew1 ?_ | refine Ext.set ?_ (by dsimp only; omega) _ | refine Ext.alloc ?_ _))
  go_enter Try.func26, Try.ntmps26
  go_wp2_with (first | (go_at_call 49; with_reducible refine (l01Same_eq p p2 Hp.out Hp2.out _).mono ?_; rintro e w' ⟨rfl, rfl⟩; simp only [hp]) | (go_at_call 49; with_reducible refine (l01Same_eq n n2 Hn.out Hn2.out _).mono ?_; rintro e w' ⟨rfl, rfl⟩; simp only [hn]))
  go_ret
  refine ⟨by first | rfl | exact ret_bool (by first | rfl | (simp; done)), ?_⟩
  (repeat with_reducible (first | exact Ext.refl _ | exact ext_alloc _ _ | refine Ext.drewN ?_ _ | refine Ext.drew1 ?_ | refine Ext.set ?_ (by dsimp only; omega) _ | refine Ext.alloc ?_ _))
end Go.Proofs.Ytkmgkcbbbaioiaa
