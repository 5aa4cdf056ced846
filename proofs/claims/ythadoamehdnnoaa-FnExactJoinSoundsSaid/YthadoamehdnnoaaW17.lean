/- Two sounds as one. -/
import Derived.Test.YthadoamehdnnoaaW7
import Derived.Test.YthadoamehdnnoaaV14
import Derived.Test.YthadoamehdnnoaaV16
import Derived.Test.YthadoamehdnnoaaV17
namespace Go.Proofs.Ythadoamehdnnoaa
open Go.RowKit Flt
set_option linter.unusedVariables false

def joinJ (us vs : List Nat) (o k : Nat) : Option Nat := betC (cls .f32 (us.getD (us.length - o + k) 0)) (cls .f32 (vs.getD k 0)) (ratioC ((k : Int) + 1) ((o : Int) + 1))
def joinL (us vs : List Nat) (o : Nat) : List (Option Nat) := ((us.take (us.length - o)).map (cls .f32) ++ listK (joinJ us vs o) o) ++ (vs.drop o).map (cls .f32)
theorem wpList_imin {ops : Array Oper} {rest : List Oper} {o : Oper} {a : Act} {Q : Exit → Act → World → Prop} {w : World} {x y : Operand} {t1 t2 : TypeId} (ho : o.op = .call { callee := .builtin .min, args := #[x, y], argTypes := #[t1, t2] }) (hw : Region.wanted o (yielded ops a.tmps) = true) {p q : Int} (hx : a.eval x = .int .i64 p) (hy : a.eval y = .int .i64 q)
    (h : wpList Try.prog ops Q rest (a.put o.dst (.int .i64 (min p q))) w) : wpList Try.prog ops Q (o :: rest) a w := by
  refine wpList_wanted hw fun K hK' => ?_
  have hrun : ∀ ts ty, (Builtin.min_ ts ty #[.int .i64 p, .int .i64 q]).run Try.prog w = .ok (.int .i64 (min p q)) w := by
    intro ts ty
    have e : (if q < p then q else p) = min p q := by split <;> omega
    simp [Builtin.min_, Builtin.min2, e]
  unfold Oper.wp
  have hk := hK' _ _ h
  simp [execOp, ho, resolve, invoke, builtin, hx, hy, hrun, Result.andThen]
  exact hk
def sndR (cs : List (Option Nat)) : List (Option Nat) × Bool := if soundB cs then (cs, true) else ([], false)
def joinSR (us vs : List Nat) (o : Int) : List (Option Nat) × Bool := if soundB (us.map (cls .f32)) && (soundB (vs.map (cls .f32)) && (decide (0 ≤ o) && (decide (o ≤ us.length) && decide (o ≤ vs.length)))) then sndR (joinL us vs o.toNat) else ([], false)
theorem joinS_len (us vs : List Nat) (o : Int) : (joinSR us vs o).1.length ≤ 256 := by
  unfold joinSR sndR
  split
  · split
    · rename_i h; exact sound_len h
    · exact Nat.zero_le _
  · exact Nat.zero_le _
/-- an append of numbers that lie somewhere, of none too -/
theorem wpList_append_own {ops : Array Oper} {rest : List Oper} {o : Oper} {a : Act} {Q : Exit → Act → World → Prop} (w : World) (hgd : o.guard = none) (s x : Operand) (t : TypeId)
    (ho : o.op = .call { callee := .builtin .append, args := #[s, x], argTypes := #[t, t] }) (i : TypeInfo) (ht : Try.prog.underlying t = some (.slice 32))
    (HI : Try.prog.info? 32 = some i ∧ i.zero = some (.float .f32 0) ∧ i.size = 1 ∧ i.bytes = 4) (B n : Nat) (v : Value) (zs : List Nat) (hs : a.eval s = v) (hown : Own w B n v zs)
    (b off m c : Nat) (ys : List Nat) (hx : a.eval x = .slice (some ⟨b, off, none⟩) m c) (hl : ys.length = m) (hc : ∀ i, i < m → w.cell? ⟨b, off + i, none⟩ = some (.float .f32 (ys.getD i 0))) (hB : B ≤ w.heap.size) (hnm : n + m ≤ 4194304)
    (h : ∀ v' w', Own w' B (n + m) v' (zs ++ ys) → But v.ownBlock w w' → wpList Try.prog ops Q rest (a.put o.dst v') w') : wpList Try.prog ops Q (o :: rest) a w := by
  by_cases h0 : m = 0
  · subst h0
    obtain ⟨b0, c0, rfl, _, hcap, _⟩ := Own.holds hown
    have hsrc : Src Try.prog i.size t (.slice (some ⟨b, off, none⟩) 0 c) 0 [] w := Src.ofSlice w ht ⟨b, off, none⟩ 0 c [] (by simp) (by intro j u h; simp at h) (by simp)
    have hrun := run_append_nothing (P := Try.prog) w t t o.type 32 i ht HI.1 b0 n c0 hcap _ hsrc
    have hys : ys = [] := List.eq_nil_of_length_eq_zero hl
    subst hys
    refine wpList_plain hgd fun K hK' => ?_
    unfold Oper.wp
    simp [execOp, ho, resolve, invoke, builtin, hs, hx, hrun, Result.andThen]
    exact hK' _ _ (h _ _ (by simpa using hown) (But.refl _ _))
  · refine wpList_append_lies _ hgd s x t ho B 32 i (.float .f32 0) 1 4 ht HI.1 HI.2.1 HI.2.2.1 HI.2.2.2 rfl (by decide) v n (zs.map (Value.float .f32)) hs hown ⟨b, off, none⟩ m c (ys.map (Value.float .f32)) hx (by simp [hl]) (news_of hl hc) (news_one ys) (by omega) (by unfold maxLen; omega) (by omega) hB _ rfl ?_
    intro g cap w1 hown2 hgrow hat hlt
    exact h _ _ (by unfold Own; rw [List.map_append]; exact hown2) hgrow
theorem hold_cells {w : World} {b off n : Nat} {zs : List Nat} (h : Holds .f32 w (some ⟨b, off, none⟩) n zs) : ∀ i, i < n → w.cell? ⟨b, off + i, none⟩ = some (.float .f32 (zs.getD i 0)) := by
  intro i hi
  rcases h.2 with h0 | ⟨b', off', e, _, hc⟩
  · omega
  · simp only [Option.some.injEq, Addr.mk.injEq] at e
    obtain ⟨rfl, rfl, _⟩ := e
    exact hc i hi
theorem hold_take17 {w : World} {a : Option Addr} {n k : Nat} {zs : List Nat} (h : Holds .f32 w a n zs) (hk : k ≤ n) : Holds .f32 w a k (zs.take k) := by
  refine ⟨by simp [h.1]; omega, ?_⟩
  by_cases h0 : k = 0
  · exact .inl h0
  · rcases h.2 with h1 | ⟨b, off, rfl, hb, hc⟩
    · omega
    · refine .inr ⟨b, off, rfl, hb, fun i hi => ?_⟩
      rw [hc i (by omega)]
      simp [List.getD, hi]
theorem take_cells {w : World} {b off n k : Nat} {zs : List Nat} (h : Holds .f32 w (some ⟨b, off, none⟩) n zs) (hk : k ≤ n) : ∀ i, i < k → w.cell? ⟨b, off + i, none⟩ = some (.float .f32 ((zs.take k).getD i 0)) := hold_cells (hold_take17 h hk)
theorem drop_cells {w : World} {b off n k : Nat} {zs : List Nat} (h : Holds .f32 w (some ⟨b, off, none⟩) n zs) (hk : k ≤ n) : ∀ i, i < n - k → w.cell? ⟨b, off + k + i, none⟩ = some (.float .f32 ((zs.drop k).getD i 0)) := by
  intro i hi
  rw [Nat.add_assoc, hold_cells h (k + i) (by omega)]
  simp [List.getD]
theorem clone_both (a : Option Addr) (n c : Nat) (zs : List Nat) (w : World) (h : Holds .f32 w a n zs) (hn : n ≤ 1048576) :
    Calls Try.prog 14 #[.slice a n c] w fun e w' => ∃ v, e = .returned v ∧ Own w' w.heap.size n v zs ∧ Ext w w' := by
  by_cases h0 : n = 0
  · subst h0
    have hz : zs = [] := List.eq_nil_of_length_eq_zero h.1
    subst hz
    exact clone_zero a c w
  · refine (clone_any a n c zs w h (by omega) hn).mono ?_
    rintro e w1 ⟨b, c', rfl, O1, E1⟩
    exact ⟨_, rfl, O1, E1⟩

theorem l00Min_any (n m : Nat) (w : World) : Calls Try.prog 12 #[.int .i64 (n : Int), .int .i64 (m : Int)] w fun e w' => e = .returned (.int .i64 ((min n m : Nat) : Int)) ∧ w = w' := by
  by_cases h : n < m
  · have hx : (n : Int) < (m : Int) := by omega
    have e : min n m = n := by omega
    rw [e]
    go_enter Try.func12, Try.ntmps12
    go_wp2
    go_ret
    exact ⟨rfl, rfl⟩
  · have hx : ¬ ((n : Int) < (m : Int)) := by omega
    have e : min n m = m := by omega
    rw [e]
    go_enter Try.func12, Try.ntmps12
    go_wp2
    go_ret
    exact ⟨rfl, rfl⟩

theorem l01Few_no (a : Option Addr) (n c : Nat) (hn : n ≤ 1048576 * 2) (h : ¬ (n ≤ 256)) (w : World) : Calls Try.prog 17 #[.slice a n c] w fun e w' => e = .returned (.bool false) ∧ w = w' := by
  have hi : ¬ ((n : Int) ≤ 256) := by omega
  go_enter Try.func17, Try.ntmps17
  go_wp2
  go_ret
  exact ⟨rfl, rfl⟩

theorem isSound_drew2 (a : Option Addr) (n c : Nat) (zs : List Nat) (V : Bool) (w : World) (h : Holds .f32 w a n zs) (hn : n ≤ 1048576 * 2) (hV : soundB (zs.map (cls .f32)) = V) :
    Calls Try.prog 13 #[.slice a n c] w fun e w' => e = .returned (.bool V) ∧ ∃ m, w' = w.drewN m := by
  by_cases h1 : n ≤ 1048576
  · exact isSound_drew a n c zs V w h h1 hV
  · have e : V = false := by rw [← hV]; unfold soundB; simp [h.1]; omega
    subst e
    clear h hV
    have hi : ¬ ((n : Int) ≤ 256) := by omega
    go_enter Try.func13, Try.ntmps13
    go_wp2_with fail
    go_ret
    exact ⟨rfl, 0, rfl⟩

theorem l04Sound_drew2 (a : Option Addr) (n c : Nat) (zs : List Nat) (V : Bool) (w : World) (h : Holds .f32 w a n zs) (hn : n ≤ 1048576 * 2) (hV : soundB (zs.map (cls .f32)) = V) :
    Calls Try.prog 10 #[.slice a n c] w fun e w' => e = .returned (.bool V) ∧ ∃ m, w' = w.drewN m := by
  by_cases h1 : n ≤ 1048576
  · exact l04Sound_drew a n c zs V w h h1 hV
  · have e : V = false := by rw [← hV]; unfold soundB; simp [h.1]; omega
    subst e
    clear h hV
    have hi : ¬ ((n : Int) ≤ 256) := by omega
    go_enter Try.func10, Try.ntmps10
    go_wp2_with (go_at_call 17; refine (l01Few_no _ _ _ hn (by omega) _).mono ?_; rintro e w' ⟨rfl, rfl⟩)
    go_ret
    exact ⟨rfl, 0, rfl⟩

set_option maxHeartbeats 4000000 in
set_option maxRecDepth 100000 in
theorem sJoinS_any (ba oa bb ob n m c1 c2 : Nat) (o : Int) (us vs : List Nat) (R : List (Option Nat)) (O : Bool) (w : World) (h1 : Holds .f32 w (some ⟨ba, oa, none⟩) n us) (h2 : Holds .f32 w (some ⟨bb, ob, none⟩) m vs) (hn : n ≤ 1048576) (hm : m ≤ 1048576) (k1 : n ≤ c1) (k2 : m ≤ c2) (hR : joinSR us vs o = (R, O)) :
    Calls Try.prog 4 #[.slice (some ⟨ba, oa, none⟩) n c1, .slice (some ⟨bb, ob, none⟩) m c2, .int .i64 o] w fun e w' => ∃ v, e = .returned (.tuple #[v, .bool O]) ∧ ListIs w' w.heap.size R v ∧ Ext w w' := by
  have H1 := hid h1
  have H2 := hid h2
  have HN := hid hn
  have HM := hid hm
  have HR := hid hR
  clear h1 h2 hn hm hR
  cases hA : soundB (us.map (cls .f32))
  · have e : O = false ∧ R = [] := by have := HR.out; unfold joinSR at this; rw [hA] at this; simpa [eq_comm, and_comm] using this
    obtain ⟨rfl, rfl⟩ := e
    go_enter Try.func4, Try.ntmps4
    go_wp2_with (first | (go_at_call 10; with_reducible refine (l04Sound_drew _ n _ us _ _ (Holds.ext H1.out (by (repeat with_reducible (first | exact Ext.refl _ | exact ext_alloc _ _ | refine Ext.drewN ?_ _ | refine Ext.drew1 ?_ | refine Ext.set ?_ (by dsimp only; omega) _ | refine Ext.alloc ?_ _)))) HN.out hA).mono ?_; rintro e w' ⟨rfl, m1, rfl⟩))
    go_returns
    refine ⟨_, rfl, nil_is _ _, ?_⟩
    (repeat with_reducible (first | exact Ext.refl _ | exact ext_alloc _ _ | refine Ext.drewN ?_ _ | refine Ext.drew1 ?_ | refine Ext.set ?_ (by dsimp only; omega) _ | refine Ext.alloc ?_ _))
  cases hB : soundB (vs.map (cls .f32))
  · have e : O = false ∧ R = [] := by have := HR.out; unfold joinSR at this; rw [hA, hB] at this; simpa [eq_comm, and_comm] using this
    obtain ⟨rfl, rfl⟩ := e
    go_enter Try.func4, Try.ntmps4
    go_wp2_with (first | (go_at_call 10; with_reducible refine (l04Sound_drew _ n _ us _ _ (Holds.ext H1.out (by (repeat with_reducible (first | exact Ext.refl _ | exact ext_alloc _ _ | refine Ext.drewN ?_ _ | refine Ext.drew1 ?_ | refine Ext.set ?_ (by dsimp only; omega) _ | refine Ext.alloc ?_ _)))) HN.out hA).mono ?_; rintro e w' ⟨rfl, m1, rfl⟩) | (go_at_call 10; with_reducible refine (l04Sound_drew _ m _ vs _ _ (Holds.ext H2.out (by (repeat with_reducible (first | exact Ext.refl _ | exact ext_alloc _ _ | refine Ext.drewN ?_ _ | refine Ext.drew1 ?_ | refine Ext.set ?_ (by dsimp only; omega) _ | refine Ext.alloc ?_ _)))) HM.out hB).mono ?_; rintro e w' ⟨rfl, m2, rfl⟩))
    go_returns
    refine ⟨_, rfl, nil_is _ _, ?_⟩
    (repeat with_reducible (first | exact Ext.refl _ | exact ext_alloc _ _ | refine Ext.drewN ?_ _ | refine Ext.drew1 ?_ | refine Ext.set ?_ (by dsimp only; omega) _ | refine Ext.alloc ?_ _))
  by_cases hoo : ¬ (0 ≤ o ∧ o ≤ ((min n m : Nat) : Int))
  · have e : O = false ∧ R = [] := by
      have := HR.out
      unfold joinSR at this
      rw [hA, hB, H1.out.1, H2.out.1, if_neg (by simp; omega)] at this
      simpa [eq_comm, and_comm] using this
    obtain ⟨rfl, rfl⟩ := e
    go_enter Try.func4, Try.ntmps4
    go_wp2_with (first | (go_at_call 10; with_reducible refine (l04Sound_drew _ n _ us _ _ (Holds.ext H1.out (by (repeat with_reducible (first | exact Ext.refl _ | exact ext_alloc _ _ | refine Ext.drewN ?_ _ | refine Ext.drew1 ?_ | refine Ext.set ?_ (by dsimp only; omega) _ | refine Ext.alloc ?_ _)))) HN.out hA).mono ?_; rintro e w' ⟨rfl, m1, rfl⟩) | (go_at_call 10; with_reducible refine (l04Sound_drew _ m _ vs _ _ (Holds.ext H2.out (by (repeat with_reducible (first | exact Ext.refl _ | exact ext_alloc _ _ | refine Ext.drewN ?_ _ | refine Ext.drew1 ?_ | refine Ext.set ?_ (by dsimp only; omega) _ | refine Ext.alloc ?_ _)))) HM.out hB).mono ?_; rintro e w' ⟨rfl, m2, rfl⟩) | (go_at_call 12; with_reducible refine (l00Min_any n m _).mono ?_; rintro e w' ⟨rfl, rfl⟩) | (go_at_call 11; with_reducible refine (l00In_no o 0 ((min n m : Nat) : Int) hoo _).mono ?_; rintro e w' ⟨rfl, rfl⟩))
    go_returns
    refine ⟨_, rfl, nil_is _ _, ?_⟩
    (repeat with_reducible (first | exact Ext.refl _ | exact ext_alloc _ _ | refine Ext.drewN ?_ _ | refine Ext.drew1 ?_ | refine Ext.set ?_ (by dsimp only; omega) _ | refine Ext.alloc ?_ _))
  have hy := Decidable.not_not.1 hoo
  clear hoo
  obtain ⟨o, rfl⟩ : ∃ q : Nat, o = (q : Int) := ⟨o.toNat, by omega⟩
  have HS := hid (show sndR (joinL us vs o) = (R, O) from by
    have := HR.out
    unfold joinSR at this
    rw [hA, hB, H1.out.1, H2.out.1, if_pos (by simp; omega)] at this
    exact this)
  have HON := hid (show o ≤ n by omega)
  have HOM := hid (show o ≤ m by omega)
  have HL1 := hid H1.out.1
  have HL2 := hid H2.out.1
  obtain ⟨d, hd⟩ : ∃ d : Nat, d = n - o := ⟨_, rfl⟩
  have HDO := hid (show d + o = n by omega)
  have HLD := hid (show us.length - o = d from by rw [HL1.out]; exact hd.symm)
  clear HR hd
  have hy1 : (n : Int) - (o : Int) = (d : Int) := by have := HDO.out; omega
  have hy2 : (0 : Int) ≤ (d : Int) := by omega
  have hy3 : (d : Int) ≤ (n : Int) := by have := HDO.out; omega
  have hy4 : (d : Int) ≤ (c1 : Int) := by have := HDO.out; omega
  have hy5 : (o : Int) ≤ (m : Int) := by omega
  have hy6 : (o : Int) ≤ (c2 : Int) := by omega
  have hz1 : n ≤ 1048576 := HN.out
  have hz2 : m ≤ 1048576 := HM.out
  obtain ⟨i0, hif, hz0, hz1, hz2⟩ := info_parts infoF
  have HI := hid (And.intro hif (And.intro hz0 (And.intro hz1 hz2)))
  clear hif hz0 hz1 hz2
  have hom3 : o ≤ m := HOM.out
  rcases (show o = c2 ∨ (¬ c2 = o ∧ ¬ o = c2 ∧ ¬ (c2 - o = 0) ∧ o < c2) from by omega) with hc2 | ⟨hc3, hc4, hc5, hc6⟩
  all_goals
   try subst hc2
   go_enter Try.func4, Try.ntmps4
   go_wp2_with (first | (go_at_call 10; with_reducible refine (l04Sound_drew _ n _ us _ _ (Holds.ext H1.out (by (repeat with_reducible (first | exact Ext.refl _ | exact ext_alloc _ _ | refine Ext.drewN ?_ _ | refine Ext.drew1 ?_ | refine Ext.set ?_ (by dsimp only; omega) _ | refine Ext.alloc ?_ _)))) HN.out hA).mono ?_; rintro e w' ⟨rfl, m1, rfl⟩) | (go_at_call 10; with_reducible refine (l04Sound_drew _ m _ vs _ _ (Holds.ext H2.out (by (repeat with_reducible (first | exact Ext.refl _ | exact ext_alloc _ _ | refine Ext.drewN ?_ _ | refine Ext.drew1 ?_ | refine Ext.set ?_ (by dsimp only; omega) _ | refine Ext.alloc ?_ _)))) HM.out hB).mono ?_; rintro e w' ⟨rfl, m2, rfl⟩) | (go_at_call 12; with_reducible refine (l00Min_any n m _).mono ?_; rintro e w' ⟨rfl, rfl⟩) | (go_at_call 11; with_reducible refine (l00In_yes (o : Int) 0 ((min n m : Nat) : Int) hy.1 hy.2 _).mono ?_; rintro e w' ⟨rfl, rfl⟩) | (at_builtin; refine wpList_append_own _ rfl _ _ 22 rfl i0 Try.underlying22 HI.out w.heap.size 0 _ [] rfl (own_fresh (cs := #[]) (zs := []) (B := w.heap.size) (hid rfl) rfl (by simp) (by simp) (Nat.zero_le _)) ba oa d _ (us.take d) rfl (by simp [HL1.out]; have := HDO.out; omega) (take_cells (Holds.ext H1.out (by (repeat with_reducible (first | exact Ext.refl _ | exact ext_alloc _ _ | refine Ext.drewN ?_ _ | refine Ext.drew1 ?_ | refine Ext.set ?_ (by dsimp only; omega) _ | refine Ext.alloc ?_ _)))) (by have := HDO.out; omega)) (by simp) (by have := HN.out; have := HDO.out; omega) ?_; intro v0 wc hown0 hbut0))
   have hO1 := hid (show Own wc w.heap.size d v0 (us.take d) from by simpa using hown0)
   have hE1 := hid (show Ext w wc from But.below hbut0 (by (repeat with_reducible (first | exact Ext.refl _ | exact ext_alloc _ _ | refine Ext.drewN ?_ _ | refine Ext.drew1 ?_ | refine Ext.set ?_ (by dsimp only; omega) _ | refine Ext.alloc ?_ _))) (fun k hk => by cases hk; simp))
   clear hown0 hbut0
   go_wp2_with fail
   go_loopw [9, 10] (fun v i wr => ∃ (k : Nat) (ys : List Nat), k ≤ o ∧ i = .int .i64 k ∧ Hid (Own wr w.heap.size (d + k) v ys) ∧ Hid (ys.map (cls .f32) = (us.take d).map (cls .f32) ++ listK (joinJ us vs o) k) ∧ Hid (Ext w wr)) (fun _ i _ => o - (intOf i).toNat)
   case atStart => exact ⟨0, us.take d, Nat.zero_le _, rfl, hO1, hid (by simp [listK]), hE1⟩
   case round =>
     obtain ⟨k, ys, hk, rfl, ho, hyy, he⟩ := hrel
     have hn2 : n ≤ 1048576 := HN.out
     have hon2 : o ≤ n := HON.out
     have hom2 : o ≤ m := HOM.out
     by_cases hlt : k < o
     · have hi0 : (0 : Int) ≤ (k : Int) := by omega
       have hi1 : (k : Int) < (o : Int) := by omega
       have hi2 : (k : Int) < (m : Int) := by omega
       have hi3 : (d : Int) + (k : Int) = ((d + k : Nat) : Int) := by omega
       have hi4 : (0 : Int) ≤ ((d + k : Nat) : Int) := by omega
       have hi6 : ((d + k : Nat) : Int) < (n : Int) := by have := HDO.out; omega
       have hi7 : ((d + k : Nat) : Int).toNat = d + k := rfl
       have hi8 : d + k ≤ 1048576 := by have := HDO.out; omega
       have HCC : Hid (joinJ us vs o k = betC (cls .f32 (us.getD (d + k) 0)) (cls .f32 (vs.getD k 0)) (ratioC ((k : Int) + 1) ((o : Int) + 1))) := by show _ = _; unfold joinJ; rw [HLD.out]
       have e1 := hold_cells (Holds.ext H1.out he.out) (d + k) (by have := HDO.out; omega)
       have e2 := hold_cells (Holds.ext H2.out he.out) k (by omega)
       generalize us.getD (d + k) 0 = x at e1 HCC
       generalize vs.getD k 0 = y at e2 HCC
       have HSZ := hid (Ext.size he.out)
       generalize hp : d + k = p at *
       go_wp2_with (first | (refine wpList_fa rfl rfl rfl rfl rfl (by first | assumption | exact is_int _ | exact is_self _ _) (by first | assumption | exact is_int _ | exact is_self _ _) ?_; intro r mr hr hrw) | (at_builtin; refine wpList_append_lies _ rfl _ _ 22 rfl w.heap.size 32 i0 (.float .f32 0) 1 4 Try.underlying22 HI.out.1 HI.out.2.1 HI.out.2.2.1 HI.out.2.2.2 rfl (by decide) _ _ _ rfl (Own.ext ho.out (by (repeat with_reducible (first | exact Ext.refl _ | exact ext_alloc _ _ | refine Ext.drewN ?_ _ | refine Ext.drew1 ?_ | refine Ext.set ?_ (by dsimp only; omega) _ | refine Ext.alloc ?_ _)))) ⟨wr.heap.size, 0, none⟩ 1 1 [.float .f32 r] rfl rfl (World.news_of_block (heap_alloc_new _ _)) (by intro u hu; simp at hu; subst hu; rfl) (by omega) (by have h9 := HN.out; have h8 := HDO.out; unfold maxLen; omega) (by have h9 := HN.out; have h8 := HDO.out; omega) (by have h8 := HSZ.out; simp; omega) _ rfl ?_; intro g cap w1 hown hgrow hat hlt2))
       have hcl := hid (show cls .f32 r = betC (cls .f32 x) (cls .f32 y) (ratioC ((k : Int) + 1) ((o : Int) + 1)) from by rw [Is.out hr]; unfold betC; rw [fop_mul_comm]; rfl)
       have h1 := hid (show Own w1 w.heap.size (d + (k + 1)) _ (ys ++ [r]) from by have h9 := own_snoc hown; first | (rw [Nat.add_assoc] at h9; exact h9) | (rw [show d + (k + 1) = p + 1 from by omega]; exact h9))
       have h2 := hid (show Ext w w1 from But.below hgrow (Ext.trans he.out (by (repeat with_reducible (first | exact Ext.refl _ | exact ext_alloc _ _ | refine Ext.drewN ?_ _ | refine Ext.drew1 ?_ | refine Ext.set ?_ (by dsimp only; omega) _ | refine Ext.alloc ?_ _)))) (fun k2 hk2 => (Own.block ho.out k2 hk2).1))
       have h3 := hid (show (ys ++ [r]).map (cls .f32) = (us.take d).map (cls .f32) ++ listK (joinJ us vs o) (k + 1) from by rw [List.map_append, hyy.out, listK_succ, HCC.out, ← List.append_assoc]; exact congrArg (fun z => _ ++ [z]) hcl.out)
       clear hown hgrow hat hlt2
       go_wp2
       go_roundw
       case rel => exact ⟨k + 1, ys ++ [r], by omega, by go_num, h1, h3, h2⟩
       case measure => simp [intOf]; omega
     · have hko : k = o := by omega
       subst hko
       have hi5 : ¬ ((k : Int) < (k : Int)) := by omega
       have hm2 : m ≤ 1048576 := HM.out
       go_wp2_with (at_builtin; (first | (refine wpList_append_own _ rfl _ _ 22 rfl i0 Try.underlying22 HI.out w.heap.size _ _ ys rfl ho.out bb (ob + k) (m - k) _ (vs.drop k) rfl (by simp [HL2.out]) (drop_cells (Holds.ext H2.out he.out) HOM.out) (Ext.size he.out) (by have := HDO.out; omega) ?_) | (refine wpList_append_own _ rfl _ _ 22 rfl i0 Try.underlying22 HI.out w.heap.size _ _ ys rfl ho.out bb ob (m - k) _ (vs.drop k) rfl (by simp [HL2.out]) (by intro i hi; omega) (Ext.size he.out) (by have := HDO.out; omega) ?_) | (refine wpList_append_own _ rfl _ _ 22 rfl i0 Try.underlying22 HI.out w.heap.size _ _ ys rfl ho.out bb ob 0 _ (vs.drop k) rfl (by have h9 := HL2.out; simp; omega) (by intro i hi; omega) (Ext.size he.out) (by have := HDO.out; omega) ?_)); intro v2 w2 hown2 hbut)
       have hO2 := hid hown2
       have hE2 := hid (show Ext w w2 from But.below hbut he.out (fun k2 hk2 => (Own.block ho.out k2 hk2).1))
       have hY2 := hid (show (ys ++ vs.drop k).map (cls .f32) = joinL us vs k from by rw [List.map_append, hyy.out, ← HLD.out]; rfl)
       obtain ⟨bv, cv, rfl, hh2, _⟩ := Own.holds hown2
       have HH2 := hid hh2
       have HNN := hid (show d + k + (m - k) ≤ 1048576 * 2 by have := HDO.out; omega)
       clear hown2 hbut hh2
       cases hV : soundB ((ys ++ vs.drop k).map (cls .f32))
       · have e : O = false ∧ R = [] := by have := HS.out; unfold sndR at this; rw [← hY2.out, hV] at this; simpa [eq_comm, and_comm] using this
         obtain ⟨rfl, rfl⟩ := e
         go_wp2_with fail
         refine (l04Sound_drew2 _ _ _ _ _ _ HH2.out (by have h9 := HNN.out; omega) hV).mono ?_
         rintro e w3 ⟨rfl, m3, rfl⟩
         go_wp2_with fail
         go_returns
         exact ⟨_, rfl, nil_is _ _, Ext.drewN hE2.out _⟩
       · have e : O = true ∧ R = (ys ++ vs.drop k).map (cls .f32) := by have := HS.out; unfold sndR at this; rw [← hY2.out, hV] at this; simpa [eq_comm, and_comm] using this
         obtain ⟨rfl, rfl⟩ := e
         go_wp2_with fail
         refine (l04Sound_drew2 _ _ _ _ _ _ HH2.out (by have h9 := HNN.out; omega) hV).mono ?_
         rintro e w3 ⟨rfl, m3, rfl⟩
         go_wp2_with fail
         go_returns
         exact ⟨_, rfl, list_is (Own.drewN hO2.out _) rfl, Ext.drewN hE2.out _⟩

end Go.Proofs.Ythadoamehdnnoaa
