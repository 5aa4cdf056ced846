/- A sound with its echo: both contracts. -/
import Derived.Test.YtkmgkcbbbaioiaaV16
namespace Go.Proofs.Ytkmgkcbbbaioiaa
open Go.RowKit Flt
set_option linter.unusedVariables false

def echoSt (X : Option Nat) (d : Nat) (cs : List (Option Nat)) : Nat → List (Option Nat)
  | 0 => cs
  | t + 1 => (echoSt X d cs t).set (d + t) (fop .add .f32 ((echoSt X d cs t).getD (d + t) none) (fop .mul .f32 X ((echoSt X d cs t).getD t none)))
theorem echoSt_len (X : Option Nat) (d : Nat) (cs : List (Option Nat)) : ∀ t, (echoSt X d cs t).length = cs.length
  | 0 => rfl
  | t + 1 => by rw [echoSt, List.length_set]; exact echoSt_len X d cs t
def echoR (X : Option Nat) (zs : List Nat) (d : Int) : List (Option Nat) × Bool := if soundB (zs.map (cls .f32)) && (decide (1 ≤ d) && (decide (d ≤ 256) && fin32 X)) then finR2 (echoSt X d.toNat (zs.map (cls .f32)) (zs.length - d.toNat)) else ([], false)
theorem finR2_len (cs : List (Option Nat)) : (finR2 cs).1.length ≤ cs.length := by
  unfold finR2
  split
  · exact Nat.le_refl _
  · exact Nat.zero_le _
theorem echo_len (X : Option Nat) (zs : List Nat) (d : Int) : (echoR X zs d).1.length ≤ 256 := by
  unfold echoR
  split
  · rename_i h
    simp only [Bool.and_eq_true] at h
    have h1 := sound_len h.1
    have h2 := finR2_len (echoSt X d.toNat (zs.map (cls .f32)) (zs.length - d.toNat))
    rw [echoSt_len] at h2
    omega
  · exact Nat.zero_le _
theorem echo_step {X : Option Nat} {d n t : Nat} {zs ys : List Nat} {r : Nat} (hl : ys.length = n) (ht : d + t < n) (hy : ys.map (cls .f32) = echoSt X d (zs.map (cls .f32)) t)
    (hr : cls .f32 r = fop .add .f32 (cls .f32 (ys.getD (d + t) 0)) (fop .mul .f32 X (cls .f32 (ys.getD t 0)))) : (ys.set (d + t) r).map (cls .f32) = echoSt X d (zs.map (cls .f32)) (t + 1) := by
  have hg : ∀ j, j < n → (ys.map (cls .f32)).getD j none = cls .f32 (ys.getD j 0) := by
    intro j hj
    simp [List.getD, show j < ys.length by omega]
  rw [echoSt, ← hy, hg _ ht, hg t (by omega), List.map_set, hr]
section
variable {P : Program}
theorem mult_isub {w : World} {o : Oper} {a : Act} {K : Act → Prop} {t ty : TypeId} {x y : Operand} (r : Int) (hop : o.op = Op.binOp .sub t x y ty) {p q : Int} (hx : a.eval x = .int .i64 p) (hy : a.eval y = .int .i64 q)
    (hr : p - q = r) (h0 : -9223372036854775808 ≤ r) (h1 : r < 9223372036854775808) (hK : K (a.put o.dst (.int .i64 r))) : Mult P o a (fun w' => ∃ n, w' = w.drewN n) K := by
  refine mult_one (.int .i64 r) (fun n => ?_) hK
  have hw : IntKind.i64.wrap (p - q) = r := by
    have hb : IntKind.i64.bits = 64 := rfl
    have hs : IntKind.i64.signed = true := rfl
    have e1 : (2 : Int) ^ 64 = 18446744073709551616 := by decide
    have e2 : (2 : Int) ^ (64 - 1) = 9223372036854775808 := by decide
    rw [hr]
    unfold IntKind.wrap
    simp only [hb, hs, e1, e2, Bool.true_and, decide_eq_true_eq]
    split <;> omega
  simp [execOp, hop, hx, hy, eqGuard, binOp, Op.intArith, hw]
end
set_option maxRecDepth 100000 in
theorem clone_zero (a : Option Addr) (c : Nat) (w : World) :
    Calls Try.prog 74 #[.slice a 0 c] w fun e w' => ∃ v, e = .returned v ∧ Own w' w.heap.size 0 v [] ∧ Ext w w' := by
  obtain ⟨i0, hi, hz0, hz1, hz2⟩ := info_parts infoF
  have HI := hid hi
  clear hi hz0 hz1 hz2
  cases a with
  | none =>
    have q : ∀ (w : World), (binOp .eql 42 (.slice none 0 c) (.slice none 0 0)).run Try.prog w = .ok (.bool true) w := fun w => by simp [binOp, run_underlying Try.underlying42]; rfl
    go_enter Try.func74, Try.ntmps74
    go_wp2
    go_ret
    exact ⟨_, rfl, own_nil _ _, by (repeat with_reducible (first | exact Ext.refl _ | exact ext_alloc _ _ | refine Ext.drewN ?_ _ | refine Ext.drew1 ?_ | refine Ext.set ?_ (by dsimp only; omega) _ | refine Ext.alloc ?_ _))⟩
  | some p =>
    have q : ∀ (w : World), (binOp .eql 42 (.slice (some p) 0 c) (.slice none 0 0)).run Try.prog w = .ok (.bool false) w := fun w => Lib.run_eql_slice_nil w _ _ _ 0 c 0 0 Try.underlying42
    go_enter Try.func74, Try.ntmps74
    go_wp2_with (at_builtin; refine wpList_append_none _ rfl _ _ 42 rfl 22 i0 Try.underlying42 HI.out _ _ rfl _ _ rfl ?_)
    go_ret
    exact ⟨_, rfl, own_fresh (cs := #[]) (zs := []) (hid rfl) rfl (by simp) (by simp) (Nat.zero_le _), by (repeat with_reducible (first | exact Ext.refl _ | exact ext_alloc _ _ | refine Ext.drewN ?_ _ | refine Ext.drew1 ?_ | refine Ext.set ?_ (by dsimp only; omega) _ | refine Ext.alloc ?_ _))⟩
set_option maxHeartbeats 8000000 in
set_option maxRecDepth 100000 in
theorem echo_any (a : Option Addr) (n c x : Nat) (d : Int) (zs : List Nat) (R : List (Option Nat)) (O : Bool) (w : World) (h : Holds .f32 w a n zs) (hn : n ≤ 1048576) (hR : echoR (cls .f32 x) zs d = (R, O)) :
    Calls Try.prog 46 #[.slice a n c, .int .i64 d, .float .f32 x] w fun e w' => ∃ v, e = .returned (.tuple #[v, .bool O]) ∧ ListIs w' w.heap.size R v ∧ Ext w w' := by
  have H1 := hid h
  have HN := hid hn
  have HL := hid h.1
  have HR := hid hR
  clear h hn hR
  cases hA : soundB (zs.map (cls .f32))
  · have e : O = false ∧ R = [] := by have := HR.out; unfold echoR at this; rw [if_neg (by rw [hA]; simp)] at this; simpa [eq_comm, and_comm] using this
    obtain ⟨rfl, rfl⟩ := e
    go_enter Try.func46, Try.ntmps46
    go_wp2_with (first | (go_at_call 30; with_reducible refine (isSound_drew a n c zs _ _ (Holds.ext H1.out (by (repeat with_reducible (first | exact Ext.refl _ | exact ext_alloc _ _ | refine Ext.drewN ?_ _ | refine Ext.drew1 ?_ | refine Ext.set ?_ (by dsimp only; omega) _ | refine Ext.alloc ?_ _)))) HN.out hA).mono ?_; rintro e w' ⟨rfl, m1, rfl⟩))
    go_returns
    refine ⟨_, rfl, nil_is _ _, ?_⟩
    (repeat with_reducible (first | exact Ext.refl _ | exact ext_alloc _ _ | refine Ext.drewN ?_ _ | refine Ext.drew1 ?_ | refine Ext.set ?_ (by dsimp only; omega) _ | refine Ext.alloc ?_ _))
  by_cases hd : ¬ (1 ≤ d ∧ d ≤ 256)
  · have e : O = false ∧ R = [] := by have := HR.out; unfold echoR at this; rw [if_neg (by rw [hA]; simp; omega)] at this; simpa [eq_comm, and_comm] using this
    obtain ⟨rfl, rfl⟩ := e
    by_cases hd1 : d < 1
    · go_enter Try.func46, Try.ntmps46
      go_wp2_with (first | (go_at_call 30; with_reducible refine (isSound_drew a n c zs _ _ (Holds.ext H1.out (by (repeat with_reducible (first | exact Ext.refl _ | exact ext_alloc _ _ | refine Ext.drewN ?_ _ | refine Ext.drew1 ?_ | refine Ext.set ?_ (by dsimp only; omega) _ | refine Ext.alloc ?_ _)))) HN.out hA).mono ?_; rintro e w' ⟨rfl, m1, rfl⟩))
      go_returns
      refine ⟨_, rfl, nil_is _ _, ?_⟩
      (repeat with_reducible (first | exact Ext.refl _ | exact ext_alloc _ _ | refine Ext.drewN ?_ _ | refine Ext.drew1 ?_ | refine Ext.set ?_ (by dsimp only; omega) _ | refine Ext.alloc ?_ _))
    · have hd2 : 256 < d := by omega
      go_enter Try.func46, Try.ntmps46
      go_wp2_with (first | (go_at_call 30; with_reducible refine (isSound_drew a n c zs _ _ (Holds.ext H1.out (by (repeat with_reducible (first | exact Ext.refl _ | exact ext_alloc _ _ | refine Ext.drewN ?_ _ | refine Ext.drew1 ?_ | refine Ext.set ?_ (by dsimp only; omega) _ | refine Ext.alloc ?_ _)))) HN.out hA).mono ?_; rintro e w' ⟨rfl, m1, rfl⟩))
      go_returns
      refine ⟨_, rfl, nil_is _ _, ?_⟩
      (repeat with_reducible (first | exact Ext.refl _ | exact ext_alloc _ _ | refine Ext.drewN ?_ _ | refine Ext.drew1 ?_ | refine Ext.set ?_ (by dsimp only; omega) _ | refine Ext.alloc ?_ _))
  replace hd := Decidable.not_not.1 hd
  have hd1 : ¬ d < 1 := by omega
  have hd2 : ¬ 256 < d := by omega
  cases hx : fin32 (cls .f32 x)
  · have e : O = false ∧ R = [] := by have := HR.out; unfold echoR at this; rw [if_neg (by rw [hA, hx]; simp)] at this; simpa [eq_comm, and_comm] using this
    obtain ⟨rfl, rfl⟩ := e
    go_enter Try.func46, Try.ntmps46
    go_wp2_with (first | (go_at_call 30; with_reducible refine (isSound_drew a n c zs _ _ (Holds.ext H1.out (by (repeat with_reducible (first | exact Ext.refl _ | exact ext_alloc _ _ | refine Ext.drewN ?_ _ | refine Ext.drew1 ?_ | refine Ext.set ?_ (by dsimp only; omega) _ | refine Ext.alloc ?_ _)))) HN.out hA).mono ?_; rintro e w' ⟨rfl, m1, rfl⟩) | (go_at_call 48; with_reducible refine (isFinite_any x _).mono ?_; rintro e w' ⟨rfl, m2, rfl⟩; rw [hx]))
    go_returns
    refine ⟨_, rfl, nil_is _ _, ?_⟩
    (repeat with_reducible (first | exact Ext.refl _ | exact ext_alloc _ _ | refine Ext.drewN ?_ _ | refine Ext.drew1 ?_ | refine Ext.set ?_ (by dsimp only; omega) _ | refine Ext.alloc ?_ _))
  obtain ⟨d, rfl⟩ : ∃ q : Nat, d = (q : Int) := ⟨d.toNat, by omega⟩
  have HS := hid (show finR2 (echoSt (cls .f32 x) d (zs.map (cls .f32)) (n - d)) = (R, O) from by
    have := HR.out
    unfold echoR at this
    rw [if_pos (by rw [hA, hx]; simp; omega), HL.out] at this
    exact this)
  have HD := hid (show 1 ≤ d ∧ d ≤ 256 by omega)
  have HX := is_self .f32 x
  clear HR
  by_cases h0 : n = 0
  · subst h0
    have hzs : zs = [] := List.eq_nil_of_length_eq_zero HL.out
    subst hzs
    go_enter Try.func46, Try.ntmps46
    go_wp2_with (first | (go_at_call 30; with_reducible refine (isSound_drew a 0 c [] _ _ (Holds.ext H1.out (by (repeat with_reducible (first | exact Ext.refl _ | exact ext_alloc _ _ | refine Ext.drewN ?_ _ | refine Ext.drew1 ?_ | refine Ext.set ?_ (by dsimp only; omega) _ | refine Ext.alloc ?_ _)))) HN.out hA).mono ?_; rintro e w' ⟨rfl, m1, rfl⟩) | (go_at_call 48; with_reducible refine (isFinite_any x _).mono ?_; rintro e w' ⟨rfl, m2, rfl⟩; rw [hx]))
    refine (clone_zero a c _).mono ?_
    rintro e w1 ⟨v, rfl, O1, E1⟩
    have hEX := hid (show Ext w w1 from Ext.trans (by (repeat with_reducible (first | exact Ext.refl _ | exact ext_alloc _ _ | refine Ext.drewN ?_ _ | refine Ext.drew1 ?_ | refine Ext.set ?_ (by dsimp only; omega) _ | refine Ext.alloc ?_ _))) E1)
    have hOW := hid (Own.base O1 (B' := w.heap.size) (by first | exact Nat.le_refl _ | (simp; done) | (simp; omega)))
    clear O1 E1
    obtain ⟨va, vc, rfl, _, _, _⟩ := Own.holds hOW.out
    go_wp2_with fail
    go_loopw [9] (fun v wr => v = .int .i64 (d : Int) ∧ Hid (Own wr w.heap.size 0 (.slice va 0 vc) []) ∧ Hid (Ext w wr)) (fun _ _ => 0)
    case atStart => exact ⟨rfl, hOW, hEX⟩
    case round =>
      obtain ⟨rfl, ho2, he⟩ := hrel
      have hd3 : 1 ≤ d ∧ d ≤ 256 := HD.out
      have hi1 : ¬ ((d : Int) < 0) := by omega
      go_wp2_with fail
      refine (finiteList_is _ 0 w.heap.size [] R O _ ho2.out (Nat.zero_le _) (by have := HS.out; rwa [Nat.zero_sub] at this)).mono ?_
      rintro e w1 ⟨u, rfl, hu, E1⟩
      have hu1 := hid hu
      have hx1 := hid (Ext.trans he.out E1)
      clear hu E1
      go_wp2
      go_ret2
      exact ⟨_, rfl, hu1.out, hx1.out⟩
  have H2 := hid (show 1 ≤ n by omega)
  go_enter Try.func46, Try.ntmps46
  go_wp2_with (first | (go_at_call 30; with_reducible refine (isSound_drew a n c zs _ _ (Holds.ext H1.out (by (repeat with_reducible (first | exact Ext.refl _ | exact ext_alloc _ _ | refine Ext.drewN ?_ _ | refine Ext.drew1 ?_ | refine Ext.set ?_ (by dsimp only; omega) _ | refine Ext.alloc ?_ _)))) HN.out hA).mono ?_; rintro e w' ⟨rfl, m1, rfl⟩) | (go_at_call 48; with_reducible refine (isFinite_any x _).mono ?_; rintro e w' ⟨rfl, m2, rfl⟩; rw [hx]))
  refine (clone_any a n c zs _ (Holds.ext H1.out (by (repeat with_reducible (first | exact Ext.refl _ | exact ext_alloc _ _ | refine Ext.drewN ?_ _ | refine Ext.drew1 ?_ | refine Ext.set ?_ (by dsimp only; omega) _ | refine Ext.alloc ?_ _)))) H2.out HN.out).mono ?_
  rintro e w1 ⟨b, c', rfl, O1, E1⟩
  have hEX := hid (show Ext w w1 from Ext.trans (by (repeat with_reducible (first | exact Ext.refl _ | exact ext_alloc _ _ | refine Ext.drewN ?_ _ | refine Ext.drew1 ?_ | refine Ext.set ?_ (by dsimp only; omega) _ | refine Ext.alloc ?_ _))) E1)
  have hOW := hid (Own.base O1 (B' := w.heap.size) (by first | exact Nat.le_refl _ | (simp; done) | (simp; omega)))
  have HGE := hid (Own.block hOW.out)
  clear O1 E1
  go_wp2_with fail
  go_loopw [9] (fun v wr => ∃ (t : Nat) (ys : List Nat), t ≤ n - d ∧ v = .int .i64 ((d + t : Nat) : Int) ∧ Hid (Own wr w.heap.size n (.slice (some ⟨b, 0, none⟩) n c') ys) ∧ Hid (ys.map (cls .f32) = echoSt (cls .f32 x) d (zs.map (cls .f32)) t) ∧ Hid (Ext w wr)) (fun v _ => 256 + n - (intOf v).toNat)
  case atStart => exact ⟨0, zs, Nat.zero_le _, rfl, hOW, hid rfl, hEX⟩
  case round =>
    obtain ⟨t, ys, ht, rfl, ho2, hy, he⟩ := hrel
    have hn2 : n ≤ 1048576 := HN.out
    have hd3 : 1 ≤ d ∧ d ≤ 256 := HD.out
    have hyl := hid ho2.out.len
    by_cases hlt : d + t < n
    · have e1 := Own.cellAt ho2.out (d + t) hlt
      have e2 := Own.cellAt ho2.out t (by omega)
      have hf := Own.frozenAt ho2.out (d + t)
      have hge : w.heap.size ≤ b := (HGE.out b rfl).1
      have HST := hid (fun r => echo_step (r := r) hyl.out hlt hy.out)
      generalize ys.getD (d + t) 0 = u at e1 HST
      generalize ys.getD t 0 = v at e2 HST
      have HU := is_self .f32 u
      have HV := is_self .f32 v
      have hi0 : (0 : Int) ≤ ((d + t : Nat) : Int) := by omega
      have hi1 : ((d + t : Nat) : Int) < (n : Int) := by omega
      have hi2 : ((d + t : Nat) : Int).toNat = d + t := rfl
      have hi3 : (0 : Int) ≤ (t : Int) := by omega
      have hi4 : (t : Int) < (n : Int) := by omega
      have hi5 : ((d + t : Nat) : Int) - (d : Int) = (t : Int) := by omega
      generalize hk : d + t = k at *
      go_wp2_with fail
      refine wp_region_tail 13 (by kernel_rfl) (by kernel_rfl) (by kernel_rfl) ?_
      simp only [List.take_succ_cons, List.take_zero, List.drop_succ_cons, List.drop_zero]
      repeat (with_reducible refine wpM_cons ?_; first
        | (refine wpM_fa rfl rfl rfl rfl rfl (by assumption) (by assumption) ?_; intro r hr hrw)
        | (refine wpM_mult0 rfl rfl ?_; refine mult_isub (t : Int) rfl rfl rfl (by omega) (by omega) (by omega) ?_; simp only [Act.put, List.setIfInBounds_toArray, List.set_cons_zero, List.set_cons_succ])
        | (refine wpM_quiet rfl (fun K hK => ?_); go_simp; refine hK _ ?_; clear hK K))
      with_reducible refine wpM_nil ?_
      intro w4 hw4
      obtain ⟨nq, hw4⟩ := hw4
      subst hw4
      go_wp2_with fail
      have HF := hid (HST.out r (Is.out hr))
      go_roundw
      case rel => exact ⟨t + 1, ys.set k r, by omega, by rw [← hk]; go_num, hid (Own.stored (Own.drewN ho2.out _) k _).1, HF, hid (Ext.set (Ext.drewN he.out _) (by dsimp only; omega) _)⟩
      case measure => simp [intOf]; omega
    · have htn : t = n - d := by omega
      have hi1 : ¬ (((d + t : Nat) : Int) < (n : Int)) := by omega
      go_wp2_with fail
      refine (finiteList_is _ _ w.heap.size ys R O _ ho2.out HN.out (by rw [hy.out, htn]; exact HS.out)).mono ?_
      rintro e w1 ⟨u, rfl, hu, E1⟩
      have hu1 := hid hu
      have hx1 := hid (Ext.trans he.out E1)
      clear hu E1
      go_wp2
      go_ret2
      exact ⟨_, rfl, hu1.out, hx1.out⟩
set_option maxHeartbeats 8000000 in
set_option maxRecDepth 100000 in
theorem sEcho_any (a : Option Addr) (n c x : Nat) (d : Int) (zs : List Nat) (R : List (Option Nat)) (O : Bool) (w : World) (h : Holds .f32 w a n zs) (hn : n ≤ 1048576) (hR : echoR (cls .f32 x) zs d = (R, O)) :
    Calls Try.prog 45 #[.slice a n c, .int .i64 d, .float .f32 x] w fun e w' => ∃ v, e = .returned (.tuple #[v, .bool O]) ∧ ListIs w' w.heap.size R v ∧ Ext w w' := by
  have H1 := hid h
  have HN := hid hn
  have HL := hid h.1
  have HR := hid hR
  clear h hn hR
  cases hA : soundB (zs.map (cls .f32))
  · have e : O = false ∧ R = [] := by have := HR.out; unfold echoR at this; rw [if_neg (by rw [hA]; simp)] at this; simpa [eq_comm, and_comm] using this
    obtain ⟨rfl, rfl⟩ := e
    go_enter Try.func45, Try.ntmps45
    go_wp2_with (first | (go_at_call 56; with_reducible refine (l03Sound_drew a n c zs _ _ (Holds.ext H1.out (by (repeat with_reducible (first | exact Ext.refl _ | exact ext_alloc _ _ | refine Ext.drewN ?_ _ | refine Ext.drew1 ?_ | refine Ext.set ?_ (by dsimp only; omega) _ | refine Ext.alloc ?_ _)))) HN.out hA).mono ?_; rintro e w' ⟨rfl, m1, rfl⟩))
    go_returns
    refine ⟨_, rfl, nil_is _ _, ?_⟩
    (repeat with_reducible (first | exact Ext.refl _ | exact ext_alloc _ _ | refine Ext.drewN ?_ _ | refine Ext.drew1 ?_ | refine Ext.set ?_ (by dsimp only; omega) _ | refine Ext.alloc ?_ _))
  by_cases hd : ¬ (1 ≤ d ∧ d ≤ 256)
  · have e : O = false ∧ R = [] := by have := HR.out; unfold echoR at this; rw [if_neg (by rw [hA]; simp; omega)] at this; simpa [eq_comm, and_comm] using this
    obtain ⟨rfl, rfl⟩ := e
    go_enter Try.func45, Try.ntmps45
    go_wp2_with (first | (go_at_call 56; with_reducible refine (l03Sound_drew a n c zs _ _ (Holds.ext H1.out (by (repeat with_reducible (first | exact Ext.refl _ | exact ext_alloc _ _ | refine Ext.drewN ?_ _ | refine Ext.drew1 ?_ | refine Ext.set ?_ (by dsimp only; omega) _ | refine Ext.alloc ?_ _)))) HN.out hA).mono ?_; rintro e w' ⟨rfl, m1, rfl⟩) | (go_at_call 72; with_reducible refine (l00In_no d 1 256 hd _).mono ?_; rintro e w' ⟨rfl, rfl⟩))
    go_returns
    refine ⟨_, rfl, nil_is _ _, ?_⟩
    (repeat with_reducible (first | exact Ext.refl _ | exact ext_alloc _ _ | refine Ext.drewN ?_ _ | refine Ext.drew1 ?_ | refine Ext.set ?_ (by dsimp only; omega) _ | refine Ext.alloc ?_ _))
  replace hd := Decidable.not_not.1 hd
  cases hx : fin32 (cls .f32 x)
  · have e : O = false ∧ R = [] := by have := HR.out; unfold echoR at this; rw [if_neg (by rw [hA, hx]; simp)] at this; simpa [eq_comm, and_comm] using this
    obtain ⟨rfl, rfl⟩ := e
    go_enter Try.func45, Try.ntmps45
    go_wp2_with (first | (go_at_call 56; with_reducible refine (l03Sound_drew a n c zs _ _ (Holds.ext H1.out (by (repeat with_reducible (first | exact Ext.refl _ | exact ext_alloc _ _ | refine Ext.drewN ?_ _ | refine Ext.drew1 ?_ | refine Ext.set ?_ (by dsimp only; omega) _ | refine Ext.alloc ?_ _)))) HN.out hA).mono ?_; rintro e w' ⟨rfl, m1, rfl⟩) | (go_at_call 58; with_reducible refine (l01Finite_any x _).mono ?_; rintro e w' ⟨rfl, m2, rfl⟩; rw [hx]) | (go_at_call 72; with_reducible refine (l00In_yes d 1 256 hd.1 hd.2 _).mono ?_; rintro e w' ⟨rfl, rfl⟩))
    go_returns
    refine ⟨_, rfl, nil_is _ _, ?_⟩
    (repeat with_reducible (first | exact Ext.refl _ | exact ext_alloc _ _ | refine Ext.drewN ?_ _ | refine Ext.drew1 ?_ | refine Ext.set ?_ (by dsimp only; omega) _ | refine Ext.alloc ?_ _))
  obtain ⟨d, rfl⟩ : ∃ q : Nat, d = (q : Int) := ⟨d.toNat, by omega⟩
  have HS := hid (show finR2 (echoSt (cls .f32 x) d (zs.map (cls .f32)) (n - d)) = (R, O) from by
    have := HR.out
    unfold echoR at this
    rw [if_pos (by rw [hA, hx]; simp; omega), HL.out] at this
    exact this)
  have HD := hid (show 1 ≤ d ∧ d ≤ 256 by omega)
  have HX := is_self .f32 x
  clear HR
  obtain ⟨i0, hif, hz0, hz1, hz2⟩ := info_parts infoF
  have HI := hid (And.intro hif (And.intro hz0 (And.intro hz1 hz2)))
  clear hif hz0 hz1 hz2
  by_cases h0 : n = 0
  · subst h0
    have hzs : zs = [] := List.eq_nil_of_length_eq_zero HL.out
    subst hzs
    go_enter Try.func45, Try.ntmps45
    go_wp2_with (first | (go_at_call 56; with_reducible refine (l03Sound_drew a 0 c [] _ _ (Holds.ext H1.out (by (repeat with_reducible (first | exact Ext.refl _ | exact ext_alloc _ _ | refine Ext.drewN ?_ _ | refine Ext.drew1 ?_ | refine Ext.set ?_ (by dsimp only; omega) _ | refine Ext.alloc ?_ _)))) HN.out hA).mono ?_; rintro e w' ⟨rfl, m1, rfl⟩) | (go_at_call 72; with_reducible refine (l00In_yes (d : Int) 1 256 hd.1 hd.2 _).mono ?_; rintro e w' ⟨rfl, rfl⟩) | (go_at_call 58; with_reducible refine (l01Finite_any x _).mono ?_; rintro e w' ⟨rfl, m2, rfl⟩; rw [hx]) | (at_builtin; refine wpList_append_none _ rfl _ _ 42 rfl 22 i0 Try.underlying42 HI.out.1 _ _ rfl _ _ rfl ?_))
    go_loopw [9] (fun v wr => v = .int .i64 (d : Int) ∧ Hid (Own wr w.heap.size 0 (.slice (some ⟨w.heap.size, 0, none⟩) 0 0) []) ∧ Hid (Ext w wr)) (fun _ _ => 0)
    case atStart => exact ⟨rfl, hid (own_fresh (cs := #[]) (zs := []) (hid rfl) rfl (by simp) (by simp) (Nat.zero_le _)), hid (by (repeat with_reducible (first | exact Ext.refl _ | exact ext_alloc _ _ | refine Ext.drewN ?_ _ | refine Ext.drew1 ?_ | refine Ext.set ?_ (by dsimp only; omega) _ | refine Ext.alloc ?_ _)))⟩
    case round =>
      obtain ⟨rfl, ho2, he⟩ := hrel
      have hd3 : 1 ≤ d ∧ d ≤ 256 := HD.out
      have hi1 : ¬ ((d : Int) < 0) := by omega
      go_wp2_with fail
      refine (l03List_is _ 0 w.heap.size [] R O _ ho2.out (Nat.zero_le _) (by have := HS.out; rwa [Nat.zero_sub] at this)).mono ?_
      rintro e w1 ⟨u, rfl, hu, E1⟩
      have hu1 := hid hu
      have hx1 := hid (Ext.trans he.out E1)
      clear hu E1
      go_wp2
      go_ret2
      exact ⟨_, rfl, hu1.out, hx1.out⟩
  rcases H1.out.2 with h1 | ⟨b, off, rfl, hb, hc⟩
  · exact absurd h1 h0
  have HB := hid hb
  have HC := hid hc
  have HP := hid (show 0 < n by omega)
  clear hb hc
  go_enter Try.func45, Try.ntmps45
  go_wp2_with (first | (go_at_call 56; with_reducible refine (l03Sound_drew _ n c zs _ _ (Holds.ext H1.out (by (repeat with_reducible (first | exact Ext.refl _ | exact ext_alloc _ _ | refine Ext.drewN ?_ _ | refine Ext.drew1 ?_ | refine Ext.set ?_ (by dsimp only; omega) _ | refine Ext.alloc ?_ _)))) HN.out hA).mono ?_; rintro e w' ⟨rfl, m1, rfl⟩) | (go_at_call 72; with_reducible refine (l00In_yes (d : Int) 1 256 hd.1 hd.2 _).mono ?_; rintro e w' ⟨rfl, rfl⟩) | (go_at_call 58; with_reducible refine (l01Finite_any x _).mono ?_; rintro e w' ⟨rfl, m2, rfl⟩; rw [hx]) | (at_builtin; refine wpList_append_lies _ rfl _ _ 42 rfl w.heap.size 22 i0 (.float .f32 0) 1 4 Try.underlying42 HI.out.1 HI.out.2.1 HI.out.2.2.1 HI.out.2.2.2 rfl (by decide) _ _ _ rfl (own_fresh (cs := #[]) (zs := []) (B := w.heap.size) (hid rfl) rfl (by simp) (by simp) (Nat.zero_le _)) ⟨b, off, none⟩ n c (zs.map (Value.float .f32)) rfl (by have := HL.out; simp [this]) (news_ext (by (repeat with_reducible (first | exact Ext.refl _ | exact ext_alloc _ _ | refine Ext.drewN ?_ _ | refine Ext.drew1 ?_ | refine Ext.set ?_ (by dsimp only; omega) _ | refine Ext.alloc ?_ _))) HB.out HL.out HC.out) (news_one zs) HP.out (by have := HN.out; unfold maxLen; omega) (by have := HN.out; omega) (by simp) _ rfl ?_; intro g cap w1 hown hgrow hat hlt))
  have hOW := hid (show Own w1 w.heap.size n (.slice (some ⟨g, 0, none⟩) n cap) zs from by simpa [Own] using hown)
  have hEX := hid (show Ext w w1 from But.below hgrow (by (repeat with_reducible (first | exact Ext.refl _ | exact ext_alloc _ _ | refine Ext.drewN ?_ _ | refine Ext.drew1 ?_ | refine Ext.set ?_ (by dsimp only; omega) _ | refine Ext.alloc ?_ _))) (fun k hk => by cases hk; simp))
  clear hown hgrow hat hlt
  try simp only [Nat.zero_add]
  have HGE := hid (Own.block hOW.out)
  go_wp2_with fail
  go_loopw [9] (fun v wr => ∃ (t : Nat) (ys : List Nat), t ≤ n - d ∧ v = .int .i64 ((d + t : Nat) : Int) ∧ Hid (Own wr w.heap.size n (.slice (some ⟨g, 0, none⟩) n cap) ys) ∧ Hid (ys.map (cls .f32) = echoSt (cls .f32 x) d (zs.map (cls .f32)) t) ∧ Hid (Ext w wr)) (fun v _ => 256 + n - (intOf v).toNat)
  case atStart => exact ⟨0, zs, Nat.zero_le _, rfl, hOW, hid rfl, hEX⟩
  case round =>
    obtain ⟨t, ys, ht, rfl, ho2, hy, he⟩ := hrel
    have hn2 : n ≤ 1048576 := HN.out
    have hd3 : 1 ≤ d ∧ d ≤ 256 := HD.out
    have hyl := hid ho2.out.len
    by_cases hlt : d + t < n
    · have e1 := Own.cellAt ho2.out (d + t) hlt
      have e2 := Own.cellAt ho2.out t (by omega)
      have hf := Own.frozenAt ho2.out (d + t)
      have hge : w.heap.size ≤ g := (HGE.out g rfl).1
      have HST := hid (fun r => echo_step (r := r) hyl.out hlt hy.out)
      generalize ys.getD (d + t) 0 = u at e1 HST
      generalize ys.getD t 0 = v at e2 HST
      have HU := is_self .f32 u
      have HV := is_self .f32 v
      have hi0 : (0 : Int) ≤ ((d + t : Nat) : Int) := by omega
      have hi1 : ((d + t : Nat) : Int) < (n : Int) := by omega
      have hi2 : ((d + t : Nat) : Int).toNat = d + t := rfl
      have hi3 : (0 : Int) ≤ (t : Int) := by omega
      have hi4 : (t : Int) < (n : Int) := by omega
      have hi5 : ((d + t : Nat) : Int) - (d : Int) = (t : Int) := by omega
      generalize hk : d + t = k at *
      go_wp2_with fail
      refine wp_region_tail 15 (by kernel_rfl) (by kernel_rfl) (by kernel_rfl) ?_
      simp only [List.take_succ_cons, List.take_zero, List.drop_succ_cons, List.drop_zero]
      repeat (with_reducible refine wpM_cons ?_; first
        | (refine wpM_fa rfl rfl rfl rfl rfl (by assumption) (by assumption) ?_; intro r hr hrw)
        | (refine wpM_mult0 rfl rfl ?_; refine mult_isub (t : Int) rfl rfl rfl (by omega) (by omega) (by omega) ?_; simp only [Act.put, List.setIfInBounds_toArray, List.set_cons_zero, List.set_cons_succ])
        | (refine wpM_quiet rfl (fun K hK => ?_); go_simp; refine hK _ ?_; clear hK K))
      with_reducible refine wpM_nil ?_
      intro w4 hw4
      obtain ⟨nq, hw4⟩ := hw4
      subst hw4
      go_wp2_with fail
      have HF := hid (HST.out r (Is.out hr))
      go_roundw
      case rel => exact ⟨t + 1, ys.set k r, by omega, by rw [← hk]; go_num, hid (Own.stored (Own.drewN ho2.out _) k _).1, HF, hid (Ext.set (Ext.drewN he.out _) (by dsimp only; omega) _)⟩
      case measure => simp [intOf]; omega
    · have htn : t = n - d := by omega
      have hi1 : ¬ (((d + t : Nat) : Int) < (n : Int)) := by omega
      go_wp2_with fail
      refine (l03List_is _ _ w.heap.size ys R O _ ho2.out HN.out (by rw [hy.out, htn]; exact HS.out)).mono ?_
      rintro e w1 ⟨u, rfl, hu, E1⟩
      have hu1 := hid hu
      have hx1 := hid (Ext.trans he.out E1)
      clear hu E1
      go_wp2
      go_ret2
      exact ⟨_, rfl, hu1.out, hx1.out⟩
end Go.Proofs.Ytkmgkcbbbaioiaa
