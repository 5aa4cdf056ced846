/- The flow of a throat: both contracts. -/
import Derived.Test.YtkmgkcbbbaioiabP3
import Derived.Test.YtkmgkcbbbaioiabV3
import Derived.Test.YtkmgkcbbbaioiabV5
namespace Go.Proofs.Ytkmgkcbbbaioiab
open Go.RowKit Flt Ieee
set_option linter.unusedVariables false

section
variable {P : Program} {w : World} {ops : Array Oper} {rest : List Oper} {o : Oper} {a : Act} {Q : Exit → Act → World → Prop}
theorem wpList_conv {src dst : TypeId} {x : Operand} (hop : o.op = Op.convert src dst x) (hw : Region.wanted o (yielded ops a.tmps) = true) {v0 v : Value} (hx : a.eval x = v0) (hrun : ∀ w : World, (convert src dst v0).run P w = .ok v w)
    (hK : wpList P ops Q rest (a.put o.dst v) w) : wpList P ops Q (o :: rest) a w := by
  refine wpList_wanted hw fun K hK' => ?_
  have hk := hK' _ _ hK
  unfold Oper.wp
  simp [execOp, hop, hx, hrun]
  exact hk
theorem wpList_sub {t ty : TypeId} {x y : Operand} (hop : o.op = Op.binOp .sub t x y ty) (hw : Region.wanted o (yielded ops a.tmps) = true) {v0 v1 v : Value} (hx : a.eval x = v0) (hy : a.eval y = v1) (hrun : ∀ w : World, (binOp .sub t v0 v1).run P w = .ok v w)
    (hK : wpList P ops Q rest (a.put o.dst v) w) : wpList P ops Q (o :: rest) a w := by
  refine wpList_wanted hw fun K hK' => ?_
  have hk := hK' _ _ hK
  unfold Oper.wp
  simp [execOp, hop, hx, hy, hrun, eqGuard]
  exact hk
end
noncomputable def flowR (t o c b s : Option Nat) (n : Int) : List (Option Nat) × Bool := if throatC t o c b s && (decide (0 ≤ n) && decide (n ≤ 256)) then soundR (flowK t o c) n.toNat else ([], false)
theorem flow_len (t o c b s : Option Nat) (n : Int) : (flowR t o c b s n).1.length ≤ 256 := by
  unfold flowR
  split
  · rename_i h
    simp at h
    have := soundR_len (flowK t o c) n.toNat
    omega
  · exact Nat.zero_le _
theorem throat_period {t o c b s : Option Nat} (h : throatC t o c b s = true) : fcmp .geq (ford .f32 t (some 1073741824)) = true ∧ fcmp .leq (ford .f32 t (some 1148846080)) = true := by
  unfold throatC periodC at h
  simp only [Bool.and_eq_true] at h
  exact h.1
theorem ListIs.base' {w : World} {B B' : Nat} {R : List (Option Nat)} {v : Value} (h : ListIs w B R v) (e : B' ≤ B) : ListIs w B' R v := by
  obtain ⟨a, c, zs, h1, h2, h3⟩ := h
  exact ⟨a, c, zs, h1, Own.base h2 e, h3⟩
set_option maxHeartbeats 4000000 in
set_option maxRecDepth 100000 in
theorem flowT_any (t o c b s : Nat) (n : Int) (R : List (Option Nat)) (O : Bool) (w : World) (hR : flowR (cls .f32 t) (cls .f32 o) (cls .f32 c) (cls .f32 b) (cls .f32 s) n = (R, O)) :
    Calls Try.prog 42 #[.agg #[.float .f32 t, .float .f32 o, .float .f32 c, .float .f32 b, .float .f32 s], .int .i64 n] w fun e w' => ∃ v, e = .returned (.tuple #[v, .bool O]) ∧ ListIs w' w.heap.size R v ∧ Ext w w' := by
  have HR := hid hR
  clear hR
  cases hV : throatC (cls .f32 t) (cls .f32 o) (cls .f32 c) (cls .f32 b) (cls .f32 s)
  · have e : O = false ∧ R = [] := by have := HR.out; unfold flowR at this; rw [if_neg (by rw [hV]; simp)] at this; simpa [eq_comm, and_comm] using this
    obtain ⟨rfl, rfl⟩ := e
    go_enter Try.func42, Try.ntmps42
    go_wp2_with fail
    refine (validThroat_any t o c b s _).mono ?_
    rintro e w1 ⟨rfl, E1⟩
    rw [hV]
    go_wp2_with fail
    go_returns
    exact ⟨_, rfl, nil_is _ _, Ext.trans (by (repeat with_reducible (first | exact Ext.refl _ | exact ext_alloc _ _ | refine Ext.drewN ?_ _ | refine Ext.drew1 ?_ | refine Ext.set ?_ (by dsimp only; omega) _ | refine Ext.alloc ?_ _))) E1⟩
  by_cases h0 : n < 0
  · have e : O = false ∧ R = [] := by have := HR.out; unfold flowR at this; rw [if_neg (by rw [hV]; simp; omega)] at this; simpa [eq_comm, and_comm] using this
    obtain ⟨rfl, rfl⟩ := e
    go_enter Try.func42, Try.ntmps42
    go_wp2_with fail
    refine (validThroat_any t o c b s _).mono ?_
    rintro e w1 ⟨rfl, E1⟩
    rw [hV]
    go_wp2_with fail
    go_returns
    exact ⟨_, rfl, nil_is _ _, Ext.trans (by (repeat with_reducible (first | exact Ext.refl _ | exact ext_alloc _ _ | refine Ext.drewN ?_ _ | refine Ext.drew1 ?_ | refine Ext.set ?_ (by dsimp only; omega) _ | refine Ext.alloc ?_ _))) E1⟩
  by_cases h1 : 256 < n
  · have e : O = false ∧ R = [] := by have := HR.out; unfold flowR at this; rw [if_neg (by rw [hV]; simp; omega)] at this; simpa [eq_comm, and_comm] using this
    obtain ⟨rfl, rfl⟩ := e
    go_enter Try.func42, Try.ntmps42
    go_wp2_with fail
    refine (validThroat_any t o c b s _).mono ?_
    rintro e w1 ⟨rfl, E1⟩
    rw [hV]
    go_wp2_with fail
    go_returns
    exact ⟨_, rfl, nil_is _ _, Ext.trans (by (repeat with_reducible (first | exact Ext.refl _ | exact ext_alloc _ _ | refine Ext.drewN ?_ _ | refine Ext.drew1 ?_ | refine Ext.set ?_ (by dsimp only; omega) _ | refine Ext.alloc ?_ _))) E1⟩
  obtain ⟨q, rfl⟩ : ∃ q : Nat, n = (q : Int) := ⟨n.toNat, by omega⟩
  have HS := hid (show soundR (flowK (cls .f32 t) (cls .f32 o) (cls .f32 c)) q = (R, O) from by have := HR.out; unfold flowR at this; rw [if_pos (by rw [hV]; simp; omega)] at this; exact this)
  have HP := hid (throat_period hV)
  have HQ := hid (show q ≤ 256 by omega)
  have HQ2 := hid (show q ≤ 1048576 by omega)
  clear HR
  go_enter Try.func42, Try.ntmps42
  go_wp2_with fail
  refine (validThroat_any t o c b s _).mono ?_
  rintro e w1 ⟨rfl, E1⟩
  have HB := hid (Box.ext (box_new (w := w) #[.float .f32 t, .float .f32 o, .float .f32 c, .float .f32 b, .float .f32 s] 55) E1)
  have EX := hid (show Ext w w1 from Ext.trans (by (repeat with_reducible (first | exact Ext.refl _ | exact ext_alloc _ _ | refine Ext.drewN ?_ _ | refine Ext.drew1 ?_ | refine Ext.set ?_ (by dsimp only; omega) _ | refine Ext.alloc ?_ _))) E1)
  clear E1
  rw [hV]
  go_wp2_with fail
  refine (soundOf_any q 90 #[.pointer (some ⟨w.heap.size, 0, none⟩)] (flowK (cls .f32 t) (cls .f32 o) (cls .f32 c)) R O w1 HQ2.out (fun _ _ => by simp [go_sem]) (fun k hk wr e => flow_clo k _ t o c b s wr (by have := HQ.out; omega) (Box.ext HB.out e) HP.out.1 HP.out.2) HS.out).mono ?_
  rintro e w2 ⟨v, rfl, hv, E2⟩
  have HL := hid hv
  have EY := hid (Ext.trans EX.out E2)
  have HZ := hid (show w.heap.size ≤ w1.heap.size from Ext.size EX.out)
  clear hv E2
  go_wp2_with fail
  go_returns
  exact ⟨_, rfl, ListIs.base' HL.out HZ.out, EY.out⟩
set_option maxHeartbeats 4000000 in
set_option maxRecDepth 100000 in
theorem sFlowT_any (t o c b s : Nat) (n : Int) (R : List (Option Nat)) (O : Bool) (w : World) (hR : flowR (cls .f32 t) (cls .f32 o) (cls .f32 c) (cls .f32 b) (cls .f32 s) n = (R, O)) :
    Calls Try.prog 41 #[.agg #[.float .f32 t, .float .f32 o, .float .f32 c, .float .f32 b, .float .f32 s], .int .i64 n] w fun e w' => ∃ v, e = .returned (.tuple #[v, .bool O]) ∧ ListIs w' w.heap.size R v ∧ Ext w w' := by
  have HR := hid hR
  clear hR
  cases hV : throatC (cls .f32 t) (cls .f32 o) (cls .f32 c) (cls .f32 b) (cls .f32 s)
  · have e : O = false ∧ R = [] := by have := HR.out; unfold flowR at this; rw [if_neg (by rw [hV]; simp)] at this; simpa [eq_comm, and_comm] using this
    obtain ⟨rfl, rfl⟩ := e
    go_enter Try.func41, Try.ntmps41
    go_wp2_with fail
    refine (l03Throat_drew _ t o c b s _ (box_new _ _)).mono ?_
    rintro e w1 ⟨rfl, mq, hmq⟩
    have E1 : Ext (w.alloc (.cells #[.float .f32 t, .float .f32 o, .float .f32 c, .float .f32 b, .float .f32 s] 55)) w1 := by rw [hmq]; exact Ext.drewN (Ext.refl _) _
    clear hmq
    rw [hV]
    go_wp2_with fail
    go_returns
    exact ⟨_, rfl, nil_is _ _, Ext.trans (by (repeat with_reducible (first | exact Ext.refl _ | exact ext_alloc _ _ | refine Ext.drewN ?_ _ | refine Ext.drew1 ?_ | refine Ext.set ?_ (by dsimp only; omega) _ | refine Ext.alloc ?_ _))) E1⟩
  by_cases hr : ¬ (0 ≤ n ∧ n ≤ 256)
  · have e : O = false ∧ R = [] := by have := HR.out; unfold flowR at this; rw [if_neg (by rw [hV]; simp; omega)] at this; simpa [eq_comm, and_comm] using this
    obtain ⟨rfl, rfl⟩ := e
    go_enter Try.func41, Try.ntmps41
    go_wp2_with fail
    refine (l03Throat_drew _ t o c b s _ (box_new _ _)).mono ?_
    rintro e w1 ⟨rfl, mq, hmq⟩
    have E1 : Ext (w.alloc (.cells #[.float .f32 t, .float .f32 o, .float .f32 c, .float .f32 b, .float .f32 s] 55)) w1 := by rw [hmq]; exact Ext.drewN (Ext.refl _) _
    clear hmq
    rw [hV]
    go_wp2_with (go_at_call 72; refine (l00In_no _ _ _ hr _).mono ?_; rintro e w' ⟨rfl, rfl⟩)
    go_returns
    exact ⟨_, rfl, nil_is _ _, Ext.trans (by (repeat with_reducible (first | exact Ext.refl _ | exact ext_alloc _ _ | refine Ext.drewN ?_ _ | refine Ext.drew1 ?_ | refine Ext.set ?_ (by dsimp only; omega) _ | refine Ext.alloc ?_ _))) E1⟩
  replace hr := Decidable.not_not.1 hr
  obtain ⟨q, rfl⟩ : ∃ q : Nat, n = (q : Int) := ⟨n.toNat, by omega⟩
  have HS := hid (show soundR (flowK (cls .f32 t) (cls .f32 o) (cls .f32 c)) q = (R, O) from by have := HR.out; unfold flowR at this; rw [if_pos (by rw [hV]; simp; omega)] at this; exact this)
  have HP := hid (throat_period hV)
  have HQ := hid (show q ≤ 256 by omega)
  have HQ2 := hid (show q ≤ 1048576 by omega)
  have HT := is_self .f32 t
  obtain ⟨i0, hi, hz0, hz1, hz2⟩ := info_parts infoF
  have HI := hid (And.intro hi (And.intro hz0 (And.intro hz1 hz2)))
  clear hi hz0 hz1 hz2 HR
  go_enter Try.func41, Try.ntmps41
  go_wp2_with fail
  refine (l03Throat_drew _ t o c b s _ (box_new _ _)).mono ?_
  rintro e w1 ⟨rfl, mq, hmq⟩
  have E1 : Ext (w.alloc (.cells #[.float .f32 t, .float .f32 o, .float .f32 c, .float .f32 b, .float .f32 s] 55)) w1 := by rw [hmq]; exact Ext.drewN (Ext.refl _) _
  clear hmq
  have HB := hid (Box.ext (box_new (w := w) #[.float .f32 t, .float .f32 o, .float .f32 c, .float .f32 b, .float .f32 s] 55) E1)
  have EX := hid (show Ext w w1 from Ext.trans (by (repeat with_reducible (first | exact Ext.refl _ | exact ext_alloc _ _ | refine Ext.drewN ?_ _ | refine Ext.drew1 ?_ | refine Ext.set ?_ (by dsimp only; omega) _ | refine Ext.alloc ?_ _))) E1)
  clear E1
  rw [hV]
  clear hV
  go_wp2_with (go_at_call 72; refine (l00In_yes _ _ _ hr.1 hr.2 _).mono ?_; rintro e w' ⟨rfl, rfl⟩)
  go_loopw [6, 7, 8] (fun v i x wr => ∃ (k : Nat) (ys : List Nat), k ≤ q ∧ i = .int .i64 k ∧ Hid (Own wr w1.heap.size k v ys) ∧ Hid (ys.map (cls .f32) = listK (flowK (cls .f32 t) (cls .f32 o) (cls .f32 c)) k) ∧ Hid (Ext w1 wr)) (fun _ i _ _ => q - (intOf i).toNat)
  case atStart => exact ⟨0, [], Nat.zero_le _, rfl, hid (own_fresh (cs := #[]) (zs := []) (hid rfl) rfl (by simp) (by simp) (Nat.zero_le _)), rfl, hid (by (repeat with_reducible (first | exact Ext.refl _ | exact ext_alloc _ _ | refine Ext.drewN ?_ _ | refine Ext.drew1 ?_ | refine Ext.set ?_ (by dsimp only; omega) _ | refine Ext.alloc ?_ _)))⟩
  case round =>
    obtain ⟨k, ys, hk, rfl, ho, hyy, he⟩ := hrel
    have hn2 : q ≤ 1048576 := HQ2.out
    by_cases hlt : k < q
    · have hi1 : (k : Int) < (q : Int) := by omega
      have hs := hid (listK_succ (flowK (cls .f32 t) (cls .f32 o) (cls .f32 c)) k)
      have HSZ := hid (Ext.size he.out)
      have HBR := hid (Box.ext HB.out he.out)
      obtain ⟨u, hq1, hq2, hq3⟩ := quo_small (k := k) (by have := HQ.out; omega) HP.out.1 HP.out.2
      obtain ⟨v, hv1, hv2, hv3⟩ := behind_bits hq2 hq3
      have c1 : ∀ w : World, (convert 33 37 (.float .f32 u)).run Try.prog w = .ok (.float .f64 (wide u)) w := fun w => run_convert_float_float w _ _ .f32 .f64 u _ (by rw [Try.underlying33]; rfl) Try.underlying37 (wide_bits hq2)
      have c2 : ∀ w : World, (convert 37 33 (.float .f64 (floorW (wide u)))).run Try.prog w = .ok (.float .f32 (nar (floorW (wide u)))) w := fun w => run_convert_float_float w _ _ .f64 .f32 _ _ (by rw [Try.underlying37]; rfl) Try.underlying33 (nar_bits (floor_mag hq3) (by omega))
      have c3 : ∀ w : World, (binOp .sub 33 (.float .f32 u) (.float .f32 (nar (floorW (wide u))))).run Try.prog w = .ok (.float .f32 v) w := fun w => run_float_arith w .sub 33 .f32 _ _ _ hv1
      have HV := hid (And.intro hv2 (cls_num hv3))
      have HN : nanW .f64 (wide u) = false := mag_num64 hq3
      have HK : Hid (flowK (cls .f32 t) (cls .f32 o) (cls .f32 c) k = flowC (cls .f32 o) (cls .f32 c) (cls .f32 v)) := by
        show flowC _ _ (behindC (quoC (cls .f32 t) k)) = _
        rw [hq1, HV.out.1, HV.out.2]
      clear hq2 hq3 hv1 hv2 hv3
      obtain ⟨d0, d1, d2, d3, d4, dl⟩ := Box.cells5 HBR.out
      go_wp2_with (first
        | (refine wpList_fa rfl rfl rfl rfl rfl (is_int _) HT ?_; intro r m hr hrw; obtain rfl : u = r := cls_word (show cls .f32 r = some u from hr.trans hq1))
        | (refine wpList_conv rfl rfl rfl c1 ?_)
        | (refine wpList_conv rfl rfl rfl c2 ?_)
        | (refine wpList_sub rfl rfl rfl rfl c3 ?_)
        | (go_at_call 89; with_reducible refine (floor_any _ HN _).mono ?_; rintro e w' ⟨rfl, rfl⟩)
        | (go_at_call 85; with_reducible refine (l03Pulse_any _ t o c b s _ _ (Box.ext HBR.out (by (repeat with_reducible (first | exact Ext.refl _ | exact ext_alloc _ _ | refine Ext.drewN ?_ _ | refine Ext.drew1 ?_ | refine Ext.set ?_ (by dsimp only; omega) _ | refine Ext.alloc ?_ _))))).mono ?_; rintro e w2 ⟨r5, rfl, hr5, E5⟩)
        | (at_builtin; refine wpList_append_lies _ rfl _ _ 23 rfl w1.heap.size 33 i0 (.float .f32 0) 1 4 Try.underlying23 HI.out.1 HI.out.2.1 HI.out.2.2.1 HI.out.2.2.2 rfl (by decide) _ _ _ rfl (Own.ext ho.out (Ext.trans (Ext.trans (by (repeat with_reducible (first | exact Ext.refl _ | exact ext_alloc _ _ | refine Ext.drewN ?_ _ | refine Ext.drew1 ?_ | refine Ext.set ?_ (by dsimp only; omega) _ | refine Ext.alloc ?_ _))) E5) (ext_alloc _ _))) ⟨w2.heap.size, 0, none⟩ 1 1 [.float .f32 r5] rfl rfl (World.news_of_block (heap_alloc_new _ _)) (by intro u hu; simp at hu; subst hu; rfl) (by omega) (by have h9 := HQ2.out; unfold maxLen; omega) (by have h9 := HQ2.out; omega) (by have h8 := HSZ.out; have h7 := Ext.size E5; simp at h7 ⊢; omega) _ rfl ?_; intro g cap w3 hown hgrow hat hlt2))
      have h1 := hid (own_snoc hown)
      have h2 := hid (show Ext w1 w3 from But.below hgrow (Ext.trans (Ext.trans (Ext.trans he.out (by (repeat with_reducible (first | exact Ext.refl _ | exact ext_alloc _ _ | refine Ext.drewN ?_ _ | refine Ext.drew1 ?_ | refine Ext.set ?_ (by dsimp only; omega) _ | refine Ext.alloc ?_ _)))) E5) (ext_alloc _ _)) (fun k2 hk2 => (Own.block ho.out k2 hk2).1))
      have h3 := hid (show (ys ++ [r5]).map (cls .f32) = listK (flowK (cls .f32 t) (cls .f32 o) (cls .f32 c)) (k + 1) from by rw [List.map_append, hyy.out, hs.out, HK.out, ← hr5]; rfl)
      clear hown hgrow hat hlt2
      go_wp2
      go_roundw
      case rel => exact ⟨k + 1, ys ++ [r5], by omega, by go_num, h1, h3, h2⟩
      case measure => simp [intOf]; omega
    · have hkn : k = q := by omega
      subst hkn
      go_wp2_with fail
      refine (l03List_is _ _ w1.heap.size ys R O _ ho.out HQ2.out (by rw [hyy.out]; exact HS.out)).mono ?_
      rintro e w2 ⟨u, rfl, hu, E2⟩
      have hu1 := hid hu
      have hx1 := hid (Ext.trans EX.out (Ext.trans he.out E2))
      clear hu E2
      go_wp2
      go_ret2
      exact ⟨_, rfl, ListIs.base' hu1.out (Ext.size EX.out), hx1.out⟩
end Go.Proofs.Ytkmgkcbbbaioiab
