/- Numbers that tremble: both contracts. -/
import Derived.Test.YtkmgkcbbbaioiabV7
import Derived.Test.YtkmgkcbbbaioiabTail2
namespace Go.Proofs.Ytkmgkcbbbaioiab
open Go.RowKit Flt
set_option linter.unusedVariables false

theorem ListIs.base {w : World} {B B' : Nat} {R : List (Option Nat)} {v : Value} (h : ListIs w B R v) (e : B' ≤ B) : ListIs w B' R v := by
  obtain ⟨a, c, zs, h1, h2, h3⟩ := h
  exact ⟨a, c, zs, h1, Own.base h2 e, h3⟩
set_option maxHeartbeats 2000000 in
set_option maxRecDepth 100000 in
theorem tremble_any (x y z : Nat) (n : Int) (R : List (Option Nat)) (O : Bool) (w : World) (hR : tremR (cls .f32 x) (cls .f32 y) (cls .f32 z) n = (R, O)) :
    Calls Try.prog 33 #[.float .f32 x, .float .f32 y, .float .f32 z, .int .i64 n] w fun e w' => ∃ v, e = .returned (.tuple #[v, .bool O]) ∧ ListIs w' w.heap.size R v ∧ Ext w w' := by
  have HR := hid hR
  clear hR
  cases hV : finsC [cls .f32 x, cls .f32 y, cls .f32 z]
  · have e : O = false ∧ R = [] := by have := HR.out; unfold tremR at this; rw [hV] at this; simpa [eq_comm, and_comm] using this
    obtain ⟨rfl, rfl⟩ := e
    have HV := hid hV
    clear hV
    go_enter Try.func33, Try.ntmps33
    go_wp2_with fail
    refine (areFinite_any _ 3 _ [x, y, z] _ (holds_fresh (hid (by rfl)) (hid rfl) (by simp)) (by omega)).mono ?_
    rintro e w' ⟨rfl, m, rfl⟩
    simp only [List.map_cons, List.map_nil, HV.out]
    go_wp2_with fail
    go_returns
    refine ⟨_, rfl, nil_is _ _, ?_⟩
    (repeat with_reducible (first | exact Ext.refl _ | exact ext_alloc _ _ | refine Ext.drewN ?_ _ | refine Ext.drew1 ?_ | refine Ext.set ?_ (by dsimp only; omega) _ | refine Ext.alloc ?_ _))
  by_cases h1 : n < 1
  · have e : O = false ∧ R = [] := by have := HR.out; unfold tremR at this; rw [hV, decide_eq_false (show ¬ 1 ≤ n by omega)] at this; simpa [eq_comm, and_comm] using this
    obtain ⟨rfl, rfl⟩ := e
    have HV := hid hV
    clear hV
    go_enter Try.func33, Try.ntmps33
    go_wp2_with fail
    refine (areFinite_any _ 3 _ [x, y, z] _ (holds_fresh (hid (by rfl)) (hid rfl) (by simp)) (by omega)).mono ?_
    rintro e w' ⟨rfl, m, rfl⟩
    simp only [List.map_cons, List.map_nil, HV.out]
    go_wp2_with fail
    go_returns
    refine ⟨_, rfl, nil_is _ _, ?_⟩
    (repeat with_reducible (first | exact Ext.refl _ | exact ext_alloc _ _ | refine Ext.drewN ?_ _ | refine Ext.drew1 ?_ | refine Ext.set ?_ (by dsimp only; omega) _ | refine Ext.alloc ?_ _))
  by_cases h2 : 256 < n
  · have e : O = false ∧ R = [] := by have := HR.out; unfold tremR at this; rw [hV, decide_eq_false (show ¬ n ≤ 256 by omega)] at this; simpa [eq_comm, and_comm] using this
    obtain ⟨rfl, rfl⟩ := e
    have HV := hid hV
    clear hV
    go_enter Try.func33, Try.ntmps33
    go_wp2_with fail
    refine (areFinite_any _ 3 _ [x, y, z] _ (holds_fresh (hid (by rfl)) (hid rfl) (by simp)) (by omega)).mono ?_
    rintro e w' ⟨rfl, m, rfl⟩
    simp only [List.map_cons, List.map_nil, HV.out]
    go_wp2_with fail
    go_returns
    refine ⟨_, rfl, nil_is _ _, ?_⟩
    (repeat with_reducible (first | exact Ext.refl _ | exact ext_alloc _ _ | refine Ext.drewN ?_ _ | refine Ext.drew1 ?_ | refine Ext.set ?_ (by dsimp only; omega) _ | refine Ext.alloc ?_ _))
  obtain ⟨q, rfl⟩ : ∃ q : Nat, n = (q : Int) := ⟨n.toNat, by omega⟩
  have HS := hid (show soundR (tremC (cls .f32 x) (cls .f32 y) (cls .f32 z)) q = (R, O) from by have := HR.out; unfold tremR at this; rw [hV, decide_eq_true (show (1 : Int) ≤ q by omega), decide_eq_true (show (q : Int) ≤ 256 by omega)] at this; simpa using this)
  have HV := hid hV
  have HQ := hid (show q ≤ 1048576 by omega)
  clear hV HR
  go_enter Try.func33, Try.ntmps33
  go_wp2_with fail
  refine (areFinite_any _ 3 _ [x, y, z] _ (holds_fresh (hid (by rfl)) (hid rfl) (by simp)) (by omega)).mono ?_
  rintro e w' ⟨rfl, m, rfl⟩
  simp only [List.map_cons, List.map_nil, HV.out]
  go_wp2_with fail
  obtain ⟨w0, hw0⟩ : ∃ u, u = ((((w.alloc (.cells #[.float .f32 x] 33)).alloc (.cells #[.float .f32 y] 33)).alloc (.cells #[.float .f32 z] 33)).alloc (.cells #[.float .f32 x, .float .f32 y, .float .f32 z] 33)).drewN m := ⟨_, rfl⟩
  rw [← hw0]
  have EX := hid (show Ext w w0 from by rw [hw0]; (repeat with_reducible (first | exact Ext.refl _ | exact ext_alloc _ _ | refine Ext.drewN ?_ _ | refine Ext.drew1 ?_ | refine Ext.set ?_ (by dsimp only; omega) _ | refine Ext.alloc ?_ _)))
  have B0 : Hid (Box w0 w.heap.size #[.float .f32 x]) := by rw [hw0]; exact hid (Box.drewN (Box.alloc (Box.alloc (Box.alloc (box_new (w := w) #[.float .f32 x] 33) _) _) _) _)
  have B1 : Hid (Box w0 (w.heap.size + 1) #[.float .f32 y]) := by rw [hw0]; exact hid (Box.drewN (Box.cast' (Box.alloc (Box.alloc (box_new (w := w.alloc (.cells #[.float .f32 x] 33)) #[.float .f32 y] 33) _) _) (by simp)) _)
  have B2 : Hid (Box w0 (w.heap.size + 2) #[.float .f32 z]) := by rw [hw0]; exact hid (Box.drewN (Box.cast' (Box.alloc (box_new (w := (w.alloc (.cells #[.float .f32 x] 33)).alloc (.cells #[.float .f32 y] 33)) #[.float .f32 z] 33) _) (by simp)) _)
  clear hw0
  go_wp2_with fail
  refine (soundOf_any q 74 #[.pointer (some ⟨w.heap.size + 2, 0, none⟩), .pointer (some ⟨w.heap.size, 0, none⟩), .pointer (some ⟨w.heap.size + 1, 0, none⟩)] (tremC (cls .f32 x) (cls .f32 y) (cls .f32 z)) R O w0 HQ.out (fun _ _ => by simp [go_sem]) (fun k hk wr e => tremble_clo k _ _ _ x y z wr (Box.ext B2.out e) (Box.ext B0.out e) (Box.ext B1.out e)) HS.out).mono ?_
  rintro e w1 ⟨v, rfl, hv, E1⟩
  have HL := hid hv
  have EY := hid (Ext.trans EX.out E1)
  have HZ := hid (show w.heap.size ≤ w0.heap.size from Ext.size EX.out)
  clear hv E1
  go_wp2_with fail
  go_returns
  exact ⟨_, rfl, ListIs.base HL.out HZ.out, EY.out⟩
set_option maxHeartbeats 2000000 in
set_option maxRecDepth 100000 in
theorem sTremble_any (x y z : Nat) (n : Int) (R : List (Option Nat)) (O : Bool) (w : World) (hR : tremR (cls .f32 x) (cls .f32 y) (cls .f32 z) n = (R, O)) :
    Calls Try.prog 32 #[.float .f32 x, .float .f32 y, .float .f32 z, .int .i64 n] w fun e w' => ∃ v, e = .returned (.tuple #[v, .bool O]) ∧ ListIs w' w.heap.size R v ∧ Ext w w' := by
  have HR := hid hR
  clear hR
  cases hx : fin32 (cls .f32 x)
  · have e : O = false ∧ R = [] := by have := HR.out; unfold tremR finsC at this; rw [show ([cls .f32 x, cls .f32 y, cls .f32 z].all fin32) = false from by simp [hx]] at this; simpa [eq_comm, and_comm] using this
    obtain ⟨rfl, rfl⟩ := e
    go_enter Try.func32, Try.ntmps32
    go_wp2_with (first | (go_at_call 66; with_reducible refine (l01Finite_any x _).mono ?_; rintro e w' ⟨rfl, m, rfl⟩; simp only [hx]))
    go_returns
    refine ⟨_, rfl, nil_is _ _, ?_⟩
    (repeat with_reducible (first | exact Ext.refl _ | exact ext_alloc _ _ | refine Ext.drewN ?_ _ | refine Ext.drew1 ?_ | refine Ext.set ?_ (by dsimp only; omega) _ | refine Ext.alloc ?_ _))
  cases hy : fin32 (cls .f32 y)
  · have e : O = false ∧ R = [] := by have := HR.out; unfold tremR finsC at this; rw [show ([cls .f32 x, cls .f32 y, cls .f32 z].all fin32) = false from by simp [hx, hy]] at this; simpa [eq_comm, and_comm] using this
    obtain ⟨rfl, rfl⟩ := e
    go_enter Try.func32, Try.ntmps32
    go_wp2_with (first | (go_at_call 66; with_reducible refine (l01Finite_any x _).mono ?_; rintro e w' ⟨rfl, m, rfl⟩; simp only [hx]) | (go_at_call 66; with_reducible refine (l01Finite_any y _).mono ?_; rintro e w' ⟨rfl, m, rfl⟩; simp only [hy]))
    go_returns
    refine ⟨_, rfl, nil_is _ _, ?_⟩
    (repeat with_reducible (first | exact Ext.refl _ | exact ext_alloc _ _ | refine Ext.drewN ?_ _ | refine Ext.drew1 ?_ | refine Ext.set ?_ (by dsimp only; omega) _ | refine Ext.alloc ?_ _))
  cases hz : fin32 (cls .f32 z)
  · have e : O = false ∧ R = [] := by have := HR.out; unfold tremR finsC at this; rw [show ([cls .f32 x, cls .f32 y, cls .f32 z].all fin32) = false from by simp [hx, hy, hz]] at this; simpa [eq_comm, and_comm] using this
    obtain ⟨rfl, rfl⟩ := e
    go_enter Try.func32, Try.ntmps32
    go_wp2_with (first | (go_at_call 66; with_reducible refine (l01Finite_any x _).mono ?_; rintro e w' ⟨rfl, m, rfl⟩; simp only [hx]) | (go_at_call 66; with_reducible refine (l01Finite_any y _).mono ?_; rintro e w' ⟨rfl, m, rfl⟩; simp only [hy]) | (go_at_call 66; with_reducible refine (l01Finite_any z _).mono ?_; rintro e w' ⟨rfl, m, rfl⟩; simp only [hz]))
    go_returns
    refine ⟨_, rfl, nil_is _ _, ?_⟩
    (repeat with_reducible (first | exact Ext.refl _ | exact ext_alloc _ _ | refine Ext.drewN ?_ _ | refine Ext.drew1 ?_ | refine Ext.set ?_ (by dsimp only; omega) _ | refine Ext.alloc ?_ _))
  have hA : ([cls .f32 x, cls .f32 y, cls .f32 z].all fin32) = true := by simp [hx, hy, hz]
  by_cases hr : ¬ (1 ≤ n ∧ n ≤ 256)
  · have e : O = false ∧ R = [] := by have := HR.out; unfold tremR finsC at this; rw [hA, show (decide (1 ≤ n) && decide (n ≤ 256)) = false from by simp; omega] at this; simpa [eq_comm, and_comm] using this
    obtain ⟨rfl, rfl⟩ := e
    go_enter Try.func32, Try.ntmps32
    go_wp2_with (first | (go_at_call 66; with_reducible refine (l01Finite_any x _).mono ?_; rintro e w' ⟨rfl, m, rfl⟩; simp only [hx]) | (go_at_call 66; with_reducible refine (l01Finite_any y _).mono ?_; rintro e w' ⟨rfl, m, rfl⟩; simp only [hy]) | (go_at_call 66; with_reducible refine (l01Finite_any z _).mono ?_; rintro e w' ⟨rfl, m, rfl⟩; simp only [hz]) | (go_at_call 72; refine (l00In_no _ _ _ hr _).mono ?_; rintro e w' ⟨rfl, rfl⟩))
    go_returns
    refine ⟨_, rfl, nil_is _ _, ?_⟩
    (repeat with_reducible (first | exact Ext.refl _ | exact ext_alloc _ _ | refine Ext.drewN ?_ _ | refine Ext.drew1 ?_ | refine Ext.set ?_ (by dsimp only; omega) _ | refine Ext.alloc ?_ _))
  replace hr := Decidable.not_not.1 hr
  obtain ⟨q, rfl⟩ : ∃ q : Nat, n = (q : Int) := ⟨n.toNat, by omega⟩
  have HS := hid (show soundR (tremC (cls .f32 x) (cls .f32 y) (cls .f32 z)) q = (R, O) from by have := HR.out; unfold tremR finsC at this; rw [hA, decide_eq_true hr.1, decide_eq_true hr.2] at this; simpa using this)
  have HQ := hid (show q ≤ 1048576 by omega)
  have HX := is_self .f32 x
  have HY := is_self .f32 y
  have HZ := is_self .f32 z
  obtain ⟨i0, hi, hz0, hz1, hz2⟩ := info_parts infoF
  have HI := hid (And.intro hi (And.intro hz0 (And.intro hz1 hz2)))
  clear hi hz0 hz1 hz2 hA HR
  go_enter Try.func32, Try.ntmps32
  go_wp2_with (first | (go_at_call 66; with_reducible refine (l01Finite_any x _).mono ?_; rintro e w' ⟨rfl, m, rfl⟩; simp only [hx]) | (go_at_call 66; with_reducible refine (l01Finite_any y _).mono ?_; rintro e w' ⟨rfl, m, rfl⟩; simp only [hy]) | (go_at_call 66; with_reducible refine (l01Finite_any z _).mono ?_; rintro e w' ⟨rfl, m, rfl⟩; simp only [hz]) | (go_at_call 72; refine (l00In_yes _ _ _ hr.1 hr.2 _).mono ?_; rintro e w' ⟨rfl, rfl⟩))
  go_loopw [10, 11] (fun v i wr => ∃ (k : Nat) (ys : List Nat), k ≤ q ∧ i = .int .i64 k ∧ Hid (Own wr w.heap.size k v ys) ∧ Hid (ys.map (cls .f32) = listK (tremC (cls .f32 x) (cls .f32 y) (cls .f32 z)) k) ∧ Hid (Ext w wr)) (fun _ i _ => q - (intOf i).toNat)
  case atStart => exact ⟨0, [], Nat.zero_le _, rfl, hid (own_fresh (cs := #[]) (zs := []) (hid rfl) rfl (by simp) (by simp) (Nat.zero_le _)), rfl, hid (by (repeat with_reducible (first | exact Ext.refl _ | exact ext_alloc _ _ | refine Ext.drewN ?_ _ | refine Ext.drew1 ?_ | refine Ext.set ?_ (by dsimp only; omega) _ | refine Ext.alloc ?_ _)))⟩
  case round =>
    obtain ⟨k, ys, hk, rfl, ho, hyy, he⟩ := hrel
    have hn2 : q ≤ 1048576 := HQ.out
    by_cases hlt : k < q
    · have hi1 : (k : Int) < (q : Int) := by omega
      have hs := hid (listK_succ (tremC (cls .f32 x) (cls .f32 y) (cls .f32 z)) k)
      have HSZ := hid (Ext.size he.out)
      go_wp2_with (first
        | (refine wpList_fa rfl rfl rfl rfl rfl (by first | assumption | exact is_const (by decide) | exact is_int _) (by first | assumption | exact is_const (by decide) | exact is_int _) ?_; intro r n hr hrw)
        | (go_at_call 73; refine (l01Sine_is _ _ (by assumption) _).mono ?_; rintro e w' ⟨r, rfl, hr, m, rfl⟩)
        | (at_builtin; refine wpList_append_lies _ rfl _ _ 23 rfl w.heap.size 33 i0 (.float .f32 0) 1 4 Try.underlying23 HI.out.1 HI.out.2.1 HI.out.2.2.1 HI.out.2.2.2 rfl (by decide) _ _ _ rfl (Own.ext ho.out (by (repeat with_reducible (first | exact Ext.refl _ | exact ext_alloc _ _ | refine Ext.drewN ?_ _ | refine Ext.drew1 ?_ | refine Ext.set ?_ (by dsimp only; omega) _ | refine Ext.alloc ?_ _)))) ⟨wr.heap.size, 0, none⟩ 1 1 [.float .f32 r] rfl rfl (World.news_of_block (heap_alloc_new _ _)) (by intro u hu; simp at hu; subst hu; rfl) (by omega) (by have h9 := HQ.out; unfold maxLen; omega) (by have h9 := HQ.out; omega) (by have h8 := HSZ.out; simp; omega) _ rfl ?_; intro g cap w1 hown hgrow hat hlt2))
      have h1 := hid (own_snoc hown)
      have h2 := hid (show Ext w w1 from But.below hgrow (Ext.trans he.out (by (repeat with_reducible (first | exact Ext.refl _ | exact ext_alloc _ _ | refine Ext.drewN ?_ _ | refine Ext.drew1 ?_ | refine Ext.set ?_ (by dsimp only; omega) _ | refine Ext.alloc ?_ _)))) (fun k2 hk2 => (Own.block ho.out k2 hk2).1))
      have h3 := hid (show (ys ++ [_]).map (cls .f32) = listK (tremC (cls .f32 x) (cls .f32 y) (cls .f32 z)) (k + 1) from by rw [List.map_append, hyy.out, hs.out]; exact congrArg (fun u => listK (tremC (cls .f32 x) (cls .f32 y) (cls .f32 z)) k ++ [u]) (Is.out (by assumption)))
      clear hown hgrow hat hlt2
      go_wp2
      go_roundw
      case rel => exact ⟨k + 1, ys ++ [_], by omega, by go_num, h1, h3, h2⟩
      case measure => simp [intOf]; omega
    · have hkn : k = q := by omega
      subst hkn
      go_wp2_with fail
      refine (l03List_is _ _ w.heap.size ys R O _ ho.out HQ.out (by rw [hyy.out]; exact HS.out)).mono ?_
      rintro e w1 ⟨u, rfl, hu, E1⟩
      have hu1 := hid hu
      have hx1 := hid (Ext.trans he.out E1)
      clear hu E1
      go_wp2
      go_ret2
      exact ⟨_, rfl, hu1.out, hx1.out⟩
end Go.Proofs.Ytkmgkcbbbaioiab
