/- A sound with itself later. -/
import Derived.Test.YtpmjiabllmomjaaM3
import Derived.Test.YtpmjiabllmomjaaW13
namespace Go.Proofs.Ytpmjiabllmomjaa
open Go.RowKit Flt
set_option linter.unusedVariables false

/-- a sound with itself later -/
def selfC (zs : List Nat) (k : Nat) : Option Nat := dotK zs (zs.drop k) (zs.length - k)
def selfR (zs : List Nat) (m : Int) : List (Option Nat) × Bool := if soundB (zs.map (cls .f32)) && (decide (1 ≤ m) && decide (m ≤ 256)) then soundR (selfC zs) m.toNat else ([], false)
theorem self_len (zs : List Nat) (m : Int) : (selfR zs m).1.length ≤ 256 := by
  unfold selfR
  split
  · rename_i h
    simp only [Bool.and_eq_true, decide_eq_true_eq] at h
    have h2 := soundR_len (selfC zs) m.toNat
    omega
  · exact Nat.zero_le _
theorem drop_get (zs : List Nat) (k i : Nat) : (zs.drop k).getD i 0 = zs.getD (i + k) 0 := by
  simp [List.getD, List.getElem?_drop, Nat.add_comm]
theorem hold_drop {w : World} {b off n k : Nat} {zs : List Nat} (h : Holds .f32 w (some ⟨b, off, none⟩) n zs) (hk : k ≤ n) : Holds .f32 w (some ⟨b, off + k, none⟩) (n - k) (zs.drop k) := by
  obtain ⟨hl, hc⟩ := h
  refine ⟨by simp [hl], ?_⟩
  by_cases h0 : n - k = 0
  · exact .inl h0
  · right
    rcases hc with hc | ⟨b2, off2, e, hb, hc⟩
    · omega
    · cases e
      refine ⟨b, off + k, rfl, hb, fun i hi => ?_⟩
      have := hc (k + i) (by omega)
      rw [← Nat.add_assoc] at this
      rw [this, drop_get, Nat.add_comm k i]
theorem hold_none {w : World} {a : Option Addr} : Holds .f32 w a 0 [] := ⟨rfl, .inl rfl⟩
section
variable {P : Program} {ops : Array Oper} {C : World → Prop}
theorem wpC_imin {Q : Act → Prop} {a : Act} {o o2 : Oper} {rest : List Oper} {x y : Operand} {t1 t2 : TypeId} (ho : o.op = .call { callee := .builtin .min, args := #[x, y], argTypes := #[t1, t2] }) (hg : o.guard = none) {p q : Int} (hx : a.eval x = .int .i64 p) (hy : a.eval y = .int .i64 q)
    (h : wpC P ops C Q (o2 :: rest) (a.put o.dst (.int .i64 (min p q)))) : wpC P ops C Q (o :: o2 :: rest) a := by
  refine wpC_quiet fun K hK' => ?_
  rw [if_pos (by simp [Region.wanted, hg])]
  refine ⟨_, fun w hw => ?_, hK' _ h⟩
  have hrun : ∀ ts ty, (Builtin.min_ ts ty #[.int .i64 p, .int .i64 q]).run P w = .ok (.int .i64 (min p q)) w := by
    intro ts ty
    have e : (if q < p then q else p) = min p q := by split <;> omega
    simp [Builtin.min_, Builtin.min2, e]
  have hr : (execOp a.eval o).run P w = .ok (.value (.int .i64 (min p q))) w := by
    simp [execOp, ho, resolve, invoke, builtin, hx, hy, hrun, Result.andThen]
  unfold Oper.quietAt
  rw [hr]
  exact ⟨rfl, rfl⟩
end

set_option maxHeartbeats 4000000 in
set_option maxRecDepth 100000 in
theorem self_clo (k b1 n c : Nat) (a : Option Addr) (zs : List Nat) (w : World) (hk : k ≤ 1048576) (hn : n ≤ 1048576) (hcap : n ≤ c) (h1 : Box w b1 #[.slice a n c]) (g1 : Holds .f32 w a n zs) :
    Calls Try.prog 72 #[.int .i64 (k : Int), .pointer (some ⟨b1, 0, none⟩)] w fun e w' => ∃ r, e = .returned (.float .f32 r) ∧ cls .f32 r = selfC zs k ∧ Ext w w' := by
  obtain ⟨d1, l1⟩ := Box.cells1 h1
  have F1 := grown_cell (p := ⟨b1, 0, none⟩) l1 d1
  have G1 := hid g1
  have HL := hid g1.1
  clear h1 g1
  by_cases hlt : k < n
  · rcases G1.out.2 with h0 | ⟨b, off, rfl, hb, hc⟩
    · omega
    have hm : min (k : Int) (n : Int) = (k : Int) := by omega
    have hi0 : (0 : Int) ≤ (k : Int) := by omega
    have hi1 : (k : Int) ≤ (n : Int) := by omega
    have hi2 : (n : Int) ≤ (c : Int) := by omega
    have hi3 : ¬ c = k := by omega
    have HRES : Hid (∀ r, Is .f32 r (dotK zs (zs.drop k) (min n (n - k))) → cls .f32 r = selfC zs k) := by
      intro r hr
      rw [show min n (n - k) = n - k by omega] at hr
      unfold selfC
      rw [HL.out]
      exact Is.out hr
    clear hb hc
    go_enter Try.func72, Try.ntmps72
    go_wp2_with fail
    refine wp_region_call_tail 7 (by kernel_rfl) (by kernel_rfl) ?_
    simp only [List.take_succ_cons, List.take_zero, List.drop_succ_cons, List.drop_zero]
    repeat (first | (with_reducible refine wpC_imin rfl rfl rfl rfl ?_; rw [hm]; simp only [Act.put, List.setIfInBounds_toArray, List.set_cons_zero, List.set_cons_succ]) | (with_reducible refine wpC_quiet (fun K hK => ?_); go_simp; refine hK _ ?_; clear hK K))
    refine wpC_call (f := 73) (args := #[.slice (some ⟨b, off, none⟩) n c, .slice (some ⟨b, off + k, none⟩) (n - k) (c - k)]) ?_ ?_ ?_
    · rfl
    · intro w9; go_simp
    intro w1 E1
    refine (sumP_any _ _ _ _ _ _ zs (zs.drop k) w1 (Holds.ext G1.out E1) (Holds.ext (hold_drop G1.out (by omega)) E1) hn (by omega)).mono ?_
    rintro e w2 ⟨r, rfl, hr, q, rfl⟩
    refine ⟨_, rfl, Ext.drewN E1 _, ?_⟩
    intro w3 E3
    go_wp2_with fail
    go_ret
    exact ⟨_, rfl, HRES.out r hr, E3⟩
  · have hm : min (k : Int) (n : Int) = (n : Int) := by omega
    have hi0 : (0 : Int) ≤ (n : Int) := by omega
    have hi2 : (n : Int) ≤ (c : Int) := by omega
    have HRES : Hid (∀ r, Is .f32 r (dotK zs [] (min n 0)) → cls .f32 r = selfC zs k) := by
      intro r hr
      rw [Nat.min_zero] at hr
      unfold selfC
      rw [HL.out, show n - k = 0 by omega]
      exact Is.out hr
    cases a with
    | none =>
      go_enter Try.func72, Try.ntmps72
      go_wp2_with fail
      refine wp_region_call_tail 7 (by kernel_rfl) (by kernel_rfl) ?_
      simp only [List.take_succ_cons, List.take_zero, List.drop_succ_cons, List.drop_zero]
      repeat (first | (with_reducible refine wpC_imin rfl rfl rfl rfl ?_; rw [hm]; simp only [Act.put, List.setIfInBounds_toArray, List.set_cons_zero, List.set_cons_succ]) | (with_reducible refine wpC_quiet (fun K hK => ?_); go_simp; refine hK _ ?_; clear hK K))
      refine wpC_call (f := 73) (args := #[.slice none n c, .slice none 0 (c - n)]) ?_ ?_ ?_
      · rfl
      · intro w9; go_simp
      intro w1 E1
      refine (sumP_any _ _ _ _ _ _ zs [] w1 (Holds.ext G1.out E1) hold_none hn (by omega)).mono ?_
      rintro e w2 ⟨r, rfl, hr, q, rfl⟩
      refine ⟨_, rfl, Ext.drewN E1 _, ?_⟩
      intro w3 E3
      go_wp2_with fail
      go_ret
      exact ⟨_, rfl, HRES.out r hr, E3⟩
    | some ad =>
      by_cases hcn : c = n
      · subst hcn
        go_enter Try.func72, Try.ntmps72
        go_wp2_with fail
        refine wp_region_call_tail 7 (by kernel_rfl) (by kernel_rfl) ?_
        simp only [List.take_succ_cons, List.take_zero, List.drop_succ_cons, List.drop_zero]
        repeat (first | (with_reducible refine wpC_imin rfl rfl rfl rfl ?_; rw [hm]; simp only [Act.put, List.setIfInBounds_toArray, List.set_cons_zero, List.set_cons_succ]) | (with_reducible refine wpC_quiet (fun K hK => ?_); go_simp; refine hK _ ?_; clear hK K))
        refine wpC_call (f := 73) (args := #[.slice (some ad) c c, .slice (some ad) 0 0]) ?_ ?_ ?_
        · rfl
        · intro w9; go_simp
        intro w1 E1
        refine (sumP_any _ _ _ _ _ _ zs [] w1 (Holds.ext G1.out E1) hold_none hn (by omega)).mono ?_
        rintro e w2 ⟨r, rfl, hr, q, rfl⟩
        refine ⟨_, rfl, Ext.drewN E1 _, ?_⟩
        intro w3 E3
        go_wp2_with fail
        go_ret
        exact ⟨_, rfl, HRES.out r hr, E3⟩
      · skip
        go_enter Try.func72, Try.ntmps72
        go_wp2_with fail
        refine wp_region_call_tail 7 (by kernel_rfl) (by kernel_rfl) ?_
        simp only [List.take_succ_cons, List.take_zero, List.drop_succ_cons, List.drop_zero]
        repeat (first | (with_reducible refine wpC_imin rfl rfl rfl rfl ?_; rw [hm]; simp only [Act.put, List.setIfInBounds_toArray, List.set_cons_zero, List.set_cons_succ]) | (with_reducible refine wpC_quiet (fun K hK => ?_); go_simp; refine hK _ ?_; clear hK K))
        refine wpC_call (f := 73) (args := #[.slice (some ad) n c, .slice (some (ad.add n)) 0 (c - n)]) ?_ ?_ ?_
        · rfl
        · intro w9; go_simp
        intro w1 E1
        refine (sumP_any _ _ _ _ _ _ zs [] w1 (Holds.ext G1.out E1) hold_none hn (by omega)).mono ?_
        rintro e w2 ⟨r, rfl, hr, q, rfl⟩
        refine ⟨_, rfl, Ext.drewN E1 _, ?_⟩
        intro w3 E3
        go_wp2_with fail
        go_ret
        exact ⟨_, rfl, HRES.out r hr, E3⟩

set_option maxHeartbeats 4000000 in
set_option maxRecDepth 100000 in
theorem l05Self_any (a : Option Addr) (n c m : Nat) (zs : List Nat) (w : World) (h : Holds .f32 w a n zs) (hn : n ≤ 1048576) (hm : m ≤ 1048576) :
    Calls Try.prog 71 #[.slice a n c, .int .i64 (m : Int)] w fun e w' => ∃ v ys, e = .returned v ∧ Own w' w.heap.size m v ys ∧ ys.map (cls .f32) = listK (selfC zs) m ∧ Ext w w' := by
  have H1 := hid h
  have HN := hid hn
  have HM := hid hm
  have HL := hid h.1
  clear h hn hm
  obtain ⟨i0, hif, hz0, hz1, hz2⟩ := info_parts infoF
  have HI := hid (And.intro hif (And.intro hz0 (And.intro hz1 hz2)))
  clear hif hz0 hz1 hz2
  go_enter Try.func71, Try.ntmps71
  go_wp2_with fail
  go_loopw [5, 6] (fun v i wr => ∃ (k : Nat) (ys : List Nat), k ≤ m ∧ i = .int .i64 k ∧ Hid (Own wr w.heap.size k v ys) ∧ Hid (ys.map (cls .f32) = listK (selfC zs) k) ∧ Hid (Ext w wr)) (fun _ i _ => m - (intOf i).toNat)
  case atStart => exact ⟨0, [], Nat.zero_le _, rfl, hid (own_fresh (cs := #[]) (zs := []) (hid rfl) rfl (by simp) (by simp) (Nat.zero_le _)), rfl, hid (by (repeat with_reducible (first | exact Ext.refl _ | exact ext_alloc _ _ | refine Ext.drewN ?_ _ | refine Ext.drew1 ?_ | refine Ext.set ?_ (by dsimp only; omega) _ | refine Ext.alloc ?_ _)))⟩
  case round =>
    obtain ⟨k, ys, hk, rfl, ho, hyy, he⟩ := hrel
    have hm2 : m ≤ 1048576 := HM.out
    have hn2 : n ≤ 1048576 := HN.out
    by_cases hlt : k < m
    · have hi0 : (0 : Int) ≤ (k : Int) := by omega
      have hi1 : (k : Int) < (m : Int) := by omega
      have hs := hid (listK_succ (selfC zs) k)
      have HSZ := hid (Ext.size he.out)
      rename World => wo
      go_wp2_with fail
      go_loopw [7, 8] (fun s i wi => ∃ (t r : Nat), t ≤ n - k ∧ i = .int .i64 t ∧ s = .float .f32 r ∧ Is .f32 r (dotK zs (zs.drop k) t) ∧ Hid (∃ q, wi = wo.drewN q)) (fun _ i _ => n + 1 - (intOf i).toNat)
      case atStart => exact ⟨0, 0, Nat.zero_le _, rfl, rfl, cls0, hid ⟨0, rfl⟩⟩
      case round =>
        obtain ⟨t, r0, ht, rfl, rfl, hr0, hw⟩ := hrel
        by_cases hlt2 : t + k < n
        · have E0 : Ext w wr := by obtain ⟨q, hq⟩ := hw.out; rw [hq]; exact Ext.drewN he.out _
          obtain ⟨b, off, rfl, e1⟩ := cell_at H1.out E0 t (by omega)
          obtain ⟨b2, off2, ha, e2⟩ := cell_at H1.out E0 (t + k) hlt2
          obtain ⟨rfl, rfl⟩ : b = b2 ∧ off = off2 := by simpa [eq_comm] using ha
          have hd : Hid (dotK zs (zs.drop k) (t + 1) = fop .add .f32 (dotK zs (zs.drop k) t) (fop .mul .f32 (cls .f32 (zs.getD t 0)) (cls .f32 (zs.getD (t + k) 0)))) := by
            show fop .add .f32 _ (fop .mul .f32 _ (cls .f32 ((zs.drop k).getD t 0))) = _
            rw [drop_get]
          generalize dotK zs (zs.drop k) t = D at hr0 hd
          generalize zs.getD t 0 = x at e1 hd
          generalize zs.getD (t + k) 0 = y at e2 hd
          have hj0 : (0 : Int) ≤ (t : Int) := by omega
          have hj1 : (t : Int) < (n : Int) := by omega
          have hj2 : (t : Int) + (k : Int) = ((t + k : Nat) : Int) := by omega
          have hj3 : (0 : Int) ≤ ((t + k : Nat) : Int) := by omega
          have hj4 : ((t + k : Nat) : Int) < (n : Int) := by omega
          generalize hP : t + k = P at *
          clear E0 ha
          go_wp2_with fail
          refine wp_region_many (by kernel_rfl) (by kernel_rfl) (by kernel_rfl) ?_
          repeat (with_reducible refine wpM_cons ?_; first
            | (refine wpM_fa rfl rfl rfl rfl rfl (by first | assumption | exact is_self _ _) (by first | assumption | exact is_self _ _) ?_; intro r hr hrw)
            | (refine wpM_mult0 rfl rfl ?_; refine mult_iadd rfl rfl rfl (by omega) (by omega) ?_; rw [hj2]; simp only [Act.put, List.setIfInBounds_toArray, List.set_cons_zero, List.set_cons_succ])
            | (refine wpM_quiet rfl (fun K hK => ?_); go_simp; refine hK _ ?_; clear hK K))
          with_reducible refine wpM_nil ?_
          intro w3 hw3
          obtain ⟨nq, hw3⟩ := hw3
          subst hw3
          go_wp2
          go_roundw
          case rel => exact ⟨t + 1, _, by omega, by go_num, rfl, by rw [hd.out]; assumption, by obtain ⟨q, hq⟩ := hw.out; exact hid ⟨q + nq, by rw [hq, World.drewN_drewN]⟩⟩
          case measure => simp [intOf]; omega
        · have htn : t = n - k := by omega
          have hj4 : ¬ ((t : Int) + (k : Int) < (n : Int)) := by omega
          obtain ⟨q, hq⟩ := hw.out
          subst hq
          have hC : Is .f32 r0 (selfC zs k) := by unfold selfC; rw [HL.out, ← htn]; exact hr0
          go_wp2_with (first | (at_builtin; refine wpList_append_lies _ rfl _ _ 22 rfl w.heap.size 33 i0 (.float .f32 0) 1 4 Try.underlying22 HI.out.1 HI.out.2.1 HI.out.2.2.1 HI.out.2.2.2 rfl (by decide) _ _ _ rfl (Own.ext ho.out (by (repeat with_reducible (first | exact Ext.refl _ | exact ext_alloc _ _ | refine Ext.drewN ?_ _ | refine Ext.drew1 ?_ | refine Ext.set ?_ (by dsimp only; omega) _ | refine Ext.alloc ?_ _)))) ⟨wo.heap.size, 0, none⟩ 1 1 [.float .f32 r0] rfl rfl (World.news_of_block (heap_alloc_new _ _)) (by intro u hu; simp at hu; subst hu; rfl) (by omega) (by have h9 := HM.out; unfold maxLen; omega) (by have h9 := HM.out; omega) (by have h8 := HSZ.out; simp; omega) _ rfl ?_; intro g cap w1 hown hgrow hat hlt2))
          have h1 := hid (own_snoc hown)
          have h2 := hid (show Ext w w1 from But.below hgrow (Ext.trans he.out (by (repeat with_reducible (first | exact Ext.refl _ | exact ext_alloc _ _ | refine Ext.drewN ?_ _ | refine Ext.drew1 ?_ | refine Ext.set ?_ (by dsimp only; omega) _ | refine Ext.alloc ?_ _)))) (fun k2 hk2 => (Own.block ho.out k2 hk2).1))
          have h3 := hid (show (ys ++ [r0]).map (cls .f32) = listK (selfC zs) (k + 1) from by rw [List.map_append, hyy.out, hs.out, ← Is.out hC]; rfl)
          clear hown hgrow hat hlt2
          go_wp2
          go_roundw
          case rel => exact ⟨k + 1, ys ++ [r0], by omega, by go_num, h1, h3, h2⟩
          case measure => simp [intOf]; omega
    · have hkn : k = m := by omega
      subst hkn
      go_wp2_with fail
      go_returns
      exact ⟨_, ys, rfl, ho.out, hyy.out, he.out⟩

set_option maxHeartbeats 4000000 in
set_option maxRecDepth 100000 in
theorem selfS_any (a : Option Addr) (n c : Nat) (m : Int) (zs : List Nat) (R : List (Option Nat)) (O : Bool) (w : World) (h : Holds .f32 w a n zs) (hn : n ≤ 1048576) (hcap : n ≤ c) (hR : selfR zs m = (R, O)) :
    Calls Try.prog 40 #[.slice a n c, .int .i64 m] w fun e w' => ∃ v, e = .returned (.tuple #[v, .bool O]) ∧ ListIs w' w.heap.size R v ∧ Ext w w' := by
  have H1 := hid h
  have HN := hid hn
  have HL := hid h.1
  have HR := hid hR
  clear h hn hR
  cases hA : soundB (zs.map (cls .f32))
  · have e : O = false ∧ R = [] := by have := HR.out; unfold selfR at this; rw [hA] at this; simpa [eq_comm, and_comm] using this
    obtain ⟨rfl, rfl⟩ := e
    go_enter Try.func40, Try.ntmps40
    go_wp2_with (first | (go_at_call 55; with_reducible refine (isSound_drew a n c zs _ _ (Holds.ext H1.out (by (repeat with_reducible (first | exact Ext.refl _ | exact ext_alloc _ _ | refine Ext.drewN ?_ _ | refine Ext.drew1 ?_ | refine Ext.set ?_ (by dsimp only; omega) _ | refine Ext.alloc ?_ _)))) HN.out hA).mono ?_; rintro e w' ⟨rfl, m1, rfl⟩))
    go_returns
    refine ⟨_, rfl, nil_is _ _, ?_⟩
    (repeat with_reducible (first | exact Ext.refl _ | exact ext_alloc _ _ | refine Ext.drewN ?_ _ | refine Ext.drew1 ?_ | refine Ext.set ?_ (by dsimp only; omega) _ | refine Ext.alloc ?_ _))
  by_cases hm : ¬ (1 ≤ m ∧ m ≤ 256)
  · have e : O = false ∧ R = [] := by have := HR.out; unfold selfR at this; rw [if_neg (by rw [hA]; simp; omega)] at this; simpa [eq_comm, and_comm] using this
    obtain ⟨rfl, rfl⟩ := e
    go_enter Try.func40, Try.ntmps40
    go_wp2_with (first | (go_at_call 55; with_reducible refine (isSound_drew a n c zs _ _ (Holds.ext H1.out (by (repeat with_reducible (first | exact Ext.refl _ | exact ext_alloc _ _ | refine Ext.drewN ?_ _ | refine Ext.drew1 ?_ | refine Ext.set ?_ (by dsimp only; omega) _ | refine Ext.alloc ?_ _)))) HN.out hA).mono ?_; rintro e w' ⟨rfl, m1, rfl⟩) | (go_at_call 49; with_reducible refine (isCount_no m hm _).mono ?_; rintro e w' ⟨rfl, rfl⟩))
    go_returns
    refine ⟨_, rfl, nil_is _ _, ?_⟩
    (repeat with_reducible (first | exact Ext.refl _ | exact ext_alloc _ _ | refine Ext.drewN ?_ _ | refine Ext.drew1 ?_ | refine Ext.set ?_ (by dsimp only; omega) _ | refine Ext.alloc ?_ _))
  replace hm := Decidable.not_not.1 hm
  have HS := hid (show soundR (selfC zs) m.toNat = (R, O) from by have := HR.out; unfold selfR at this; rw [if_pos (by rw [hA]; simp; omega)] at this; exact this)
  obtain ⟨m, rfl⟩ : ∃ q : Nat, m = (q : Int) := ⟨m.toNat, by omega⟩
  have HS2 := hid (show soundR (selfC zs) m = (R, O) from HS.out)
  have HMM := hid (show m ≤ 1048576 by omega)
  clear HR HS
  have HCAP := hid hcap
  clear hcap
  go_enter Try.func40, Try.ntmps40
  go_wp2_with (first | (go_at_call 55; with_reducible refine (isSound_drew a n c zs _ _ (Holds.ext H1.out (by (repeat with_reducible (first | exact Ext.refl _ | exact ext_alloc _ _ | refine Ext.drewN ?_ _ | refine Ext.drew1 ?_ | refine Ext.set ?_ (by dsimp only; omega) _ | refine Ext.alloc ?_ _)))) HN.out hA).mono ?_; rintro e w' ⟨rfl, m1, rfl⟩) | (go_at_call 49; with_reducible refine (isCount_yes (m : Int) hm _).mono ?_; rintro e w' ⟨rfl, rfl⟩))
  obtain ⟨w0, hw0⟩ : ∃ u, u = (w.alloc (.cells #[.slice a n c] 22)).drewN m1 := ⟨_, rfl⟩
  rw [← hw0]
  have EX := hid (show Ext w w0 from by rw [hw0]; (repeat with_reducible (first | exact Ext.refl _ | exact ext_alloc _ _ | refine Ext.drewN ?_ _ | refine Ext.drew1 ?_ | refine Ext.set ?_ (by dsimp only; omega) _ | refine Ext.alloc ?_ _)))
  have B0 : Hid (Box w0 w.heap.size #[.slice a n c]) := by rw [hw0]; exact hid (Box.drewN (box_new (w := w) #[.slice a n c] 22) _)
  clear hw0
  refine (soundOf_any m 72 #[.pointer (some ⟨w.heap.size, 0, none⟩)] (selfC zs) R O w0 HMM.out (fun _ _ => by simp [go_sem]) (fun k hk wr e => self_clo k _ n c a zs wr (by have := HMM.out; omega) HN.out HCAP.out (Box.ext B0.out e) (Holds.ext H1.out (Ext.trans EX.out e))) HS2.out).mono ?_
  rintro e w1 ⟨v, rfl, hv, E1⟩
  have HL2 := hid hv
  have EY := hid (Ext.trans EX.out E1)
  have HZ := hid (show w.heap.size ≤ w0.heap.size from Ext.size EX.out)
  clear hv E1
  go_wp2_with fail
  go_returns
  exact ⟨_, rfl, ListIs.base HL2.out HZ.out, EY.out⟩

set_option maxHeartbeats 4000000 in
set_option maxRecDepth 100000 in
theorem sSelfS_any (a : Option Addr) (n c : Nat) (m : Int) (zs : List Nat) (R : List (Option Nat)) (O : Bool) (w : World) (h : Holds .f32 w a n zs) (hn : n ≤ 1048576) (hR : selfR zs m = (R, O)) :
    Calls Try.prog 39 #[.slice a n c, .int .i64 m] w fun e w' => ∃ v, e = .returned (.tuple #[v, .bool O]) ∧ ListIs w' w.heap.size R v ∧ Ext w w' := by
  have H1 := hid h
  have HN := hid hn
  have HL := hid h.1
  have HR := hid hR
  clear h hn hR
  cases hA : soundB (zs.map (cls .f32))
  · have e : O = false ∧ R = [] := by have := HR.out; unfold selfR at this; rw [hA] at this; simpa [eq_comm, and_comm] using this
    obtain ⟨rfl, rfl⟩ := e
    go_enter Try.func39, Try.ntmps39
    go_wp2_with (first | (go_at_call 53; with_reducible refine (l03Sound_drew a n c zs _ _ (Holds.ext H1.out (by (repeat with_reducible (first | exact Ext.refl _ | exact ext_alloc _ _ | refine Ext.drewN ?_ _ | refine Ext.drew1 ?_ | refine Ext.set ?_ (by dsimp only; omega) _ | refine Ext.alloc ?_ _)))) HN.out hA).mono ?_; rintro e w' ⟨rfl, m1, rfl⟩))
    go_returns
    refine ⟨_, rfl, nil_is _ _, ?_⟩
    (repeat with_reducible (first | exact Ext.refl _ | exact ext_alloc _ _ | refine Ext.drewN ?_ _ | refine Ext.drew1 ?_ | refine Ext.set ?_ (by dsimp only; omega) _ | refine Ext.alloc ?_ _))
  by_cases hm : ¬ (1 ≤ m ∧ m ≤ 256)
  · have e : O = false ∧ R = [] := by have := HR.out; unfold selfR at this; rw [if_neg (by rw [hA]; simp; omega)] at this; simpa [eq_comm, and_comm] using this
    obtain ⟨rfl, rfl⟩ := e
    go_enter Try.func39, Try.ntmps39
    go_wp2_with (first | (go_at_call 53; with_reducible refine (l03Sound_drew a n c zs _ _ (Holds.ext H1.out (by (repeat with_reducible (first | exact Ext.refl _ | exact ext_alloc _ _ | refine Ext.drewN ?_ _ | refine Ext.drew1 ?_ | refine Ext.set ?_ (by dsimp only; omega) _ | refine Ext.alloc ?_ _)))) HN.out hA).mono ?_; rintro e w' ⟨rfl, m1, rfl⟩) | (go_at_call 47; with_reducible refine (l00In_no m 1 256 hm _).mono ?_; rintro e w' ⟨rfl, rfl⟩))
    go_returns
    refine ⟨_, rfl, nil_is _ _, ?_⟩
    (repeat with_reducible (first | exact Ext.refl _ | exact ext_alloc _ _ | refine Ext.drewN ?_ _ | refine Ext.drew1 ?_ | refine Ext.set ?_ (by dsimp only; omega) _ | refine Ext.alloc ?_ _))
  replace hm := Decidable.not_not.1 hm
  have HS := hid (show soundR (selfC zs) m.toNat = (R, O) from by have := HR.out; unfold selfR at this; rw [if_pos (by rw [hA]; simp; omega)] at this; exact this)
  obtain ⟨m, rfl⟩ : ∃ q : Nat, m = (q : Int) := ⟨m.toNat, by omega⟩
  have HS2 := hid (show soundR (selfC zs) m = (R, O) from HS.out)
  have HMM := hid (show m ≤ 1048576 by omega)
  clear HR HS
  go_enter Try.func39, Try.ntmps39
  go_wp2_with (first | (go_at_call 53; with_reducible refine (l03Sound_drew a n c zs _ _ (Holds.ext H1.out (by (repeat with_reducible (first | exact Ext.refl _ | exact ext_alloc _ _ | refine Ext.drewN ?_ _ | refine Ext.drew1 ?_ | refine Ext.set ?_ (by dsimp only; omega) _ | refine Ext.alloc ?_ _)))) HN.out hA).mono ?_; rintro e w' ⟨rfl, m1, rfl⟩) | (go_at_call 47; with_reducible refine (l00In_yes (m : Int) 1 256 hm.1 hm.2 _).mono ?_; rintro e w' ⟨rfl, rfl⟩))
  refine (l05Self_any a n c m zs _ (Holds.ext H1.out (by (repeat with_reducible (first | exact Ext.refl _ | exact ext_alloc _ _ | refine Ext.drewN ?_ _ | refine Ext.drew1 ?_ | refine Ext.set ?_ (by dsimp only; omega) _ | refine Ext.alloc ?_ _)))) HN.out HMM.out).mono ?_
  rintro e w1 ⟨v, ys, rfl, O1, hy, E1⟩
  have HO := hid (Own.base O1 (B' := w.heap.size) (by first | exact Nat.le_refl _ | (simp; done)))
  have HY := hid hy
  have EY := hid (show Ext w w1 from Ext.trans (by (repeat with_reducible (first | exact Ext.refl _ | exact ext_alloc _ _ | refine Ext.drewN ?_ _ | refine Ext.drew1 ?_ | refine Ext.set ?_ (by dsimp only; omega) _ | refine Ext.alloc ?_ _))) E1)
  clear O1 hy E1
  go_wp2_with fail
  refine (l03List_is _ _ w.heap.size ys R O _ HO.out HMM.out (by rw [HY.out]; exact HS2.out)).mono ?_
  rintro e w2 ⟨u, rfl, hu, E2⟩
  have hu1 := hid hu
  have hx1 := hid (Ext.trans EY.out E2)
  clear hu E2
  go_wp2
  go_ret2
  exact ⟨_, rfl, hu1.out, hx1.out⟩

end Go.Proofs.Ytpmjiabllmomjaa
