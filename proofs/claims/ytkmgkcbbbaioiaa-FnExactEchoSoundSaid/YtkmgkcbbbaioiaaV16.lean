/- A sound that begins and ends softly: the reference's contract. -/
import Derived.Test.YtkmgkcbbbaioiaaV14
import Derived.Test.YtkmgkcbbbaioiaaT4
import Derived.Deep.Upon
namespace Go.Proofs.Ytkmgkcbbbaioiaa
open Go.RowKit Flt
set_option linter.unusedVariables false

theorem getD_set16 (ys : List Nat) (k q r : Nat) (hk : k < ys.length) : (ys.set k r).getD q 0 = if q = k then r else ys.getD q 0 := by
  by_cases h : q = k
  · subst h; simp [List.getD, hk]
  · rw [if_neg h]; simp [List.getD, List.getElem?_set_ne (Ne.symm h)]
theorem mult_conv {w : World} {o : Oper} {a : Act} {K : Act → Prop} {src dst : TypeId} {x : Operand} (hop : o.op = Op.convert src dst x) (hs : (Try.prog.underlying src).isSome = true) (hd : Try.prog.underlying dst = some (.float .f32)) {p : Int} (hx : a.eval x = .int .i64 p)
    (hK : K (a.put o.dst (.float .f32 (floatOfInt .f32 p)))) : Mult Try.prog o a (fun w' => ∃ n, w' = w.drewN n) K := by
  refine mult_one _ (fun n => ?_) hK
  simp [execOp, hop, hx, run_convert_int_float (P := Try.prog) _ src dst .i64 .f32 p hs hd]
theorem wpList_append_none {ops : Array Oper} {rest : List Oper} {o : Oper} {a : Act} {Q : Exit → Act → World → Prop} (w : World) (hgd : o.guard = none) (s x : Operand) (t : TypeId)
    (ho : o.op = .call { callee := .builtin .append, args := #[s, x], argTypes := #[t, t] }) (e : TypeId) (i : TypeInfo) (ht : Try.prog.underlying t = some (.slice e)) (hi : Try.prog.info? e = some i)
    (b0 : Option Addr) (c0 : Nat) (hs : a.eval s = .slice b0 0 c0) (b : Option Addr) (c : Nat) (hx : a.eval x = .slice b 0 c) (h : wpList Try.prog ops Q rest (a.put o.dst (.slice b0 0 c0)) w) : wpList Try.prog ops Q (o :: rest) a w := by
  have hsrc : Src Try.prog i.size t (.slice b 0 c) 0 [] w := by
    cases b with
    | none => exact ⟨.inl ⟨_, ht⟩, fun _ => rfl, rfl, rfl, by simp, by simp⟩
    | some ad => exact Src.ofSlice w ht ad 0 c [] (by simp) (by intro j u h; simp at h) (by simp)
  have hrun := run_append_nothing (P := Try.prog) w t t o.type e i ht hi b0 0 c0 (Nat.zero_le _) _ hsrc
  refine wpList_plain hgd fun K hK' => ?_
  unfold Oper.wp
  simp [execOp, ho, resolve, invoke, builtin, hs, hx, hrun, Result.andThen]
  exact hK' _ _ h
theorem soft_list {zs ys : List Nat} {n i o : Nat} (hn : ys.length = n) (h : ∀ j, j < n → cls .f32 (ys.getD j 0) = if j < n then softC zs i o n j else cls .f32 (zs.getD j 0)) : ys.map (cls .f32) = listK (softC zs i o n) n := by
  unfold listK
  apply List.ext_getElem
  · simp [hn]
  · intro j h1 h2
    simp at h1
    have := h j (by omega)
    rw [if_pos (by omega)] at this
    simpa [List.getD, h1] using this
set_option maxHeartbeats 8000000 in
set_option maxRecDepth 100000 in
theorem sSoft_any (a : Option Addr) (n c : Nat) (i o : Int) (zs : List Nat) (R : List (Option Nat)) (O : Bool) (w : World) (h : Holds .f32 w a n zs) (hn : n ≤ 1048576) (hR : softR zs i o = (R, O)) :
    Calls Try.prog 43 #[.slice a n c, .int .i64 i, .int .i64 o] w fun e w' => ∃ v, e = .returned (.tuple #[v, .bool O]) ∧ ListIs w' w.heap.size R v ∧ Ext w w' := by
  have H1 := hid h
  have HN := hid hn
  have HL := hid h.1
  have HR := hid hR
  clear h hn hR
  cases hA : soundB (zs.map (cls .f32))
  · have e : O = false ∧ R = [] := by have := HR.out; unfold softR at this; rw [if_neg (by rw [hA]; simp)] at this; simpa [eq_comm, and_comm] using this
    obtain ⟨rfl, rfl⟩ := e
    go_enter Try.func43, Try.ntmps43
    go_wp2_with (first | (go_at_call 56; with_reducible refine (l03Sound_drew a n c zs _ _ H1.out HN.out hA).mono ?_; rintro e w' ⟨rfl, m1, rfl⟩))
    go_returns
    refine ⟨_, rfl, nil_is _ _, ?_⟩
    (repeat with_reducible (first | exact Ext.refl _ | exact ext_alloc _ _ | refine Ext.drewN ?_ _ | refine Ext.drew1 ?_ | refine Ext.set ?_ (by dsimp only; omega) _ | refine Ext.alloc ?_ _))
  by_cases hi : ¬ (0 ≤ i ∧ i ≤ n)
  · have e : O = false ∧ R = [] := by have := HR.out; unfold softR at this; rw [if_neg (by rw [hA, HL.out]; simp; omega)] at this; simpa [eq_comm, and_comm] using this
    obtain ⟨rfl, rfl⟩ := e
    go_enter Try.func43, Try.ntmps43
    go_wp2_with (first | (go_at_call 56; with_reducible refine (l03Sound_drew a n c zs _ _ H1.out HN.out hA).mono ?_; rintro e w' ⟨rfl, m1, rfl⟩) | (go_at_call 72; with_reducible refine (l00In_no i 0 n hi _).mono ?_; rintro e w' ⟨rfl, rfl⟩))
    go_returns
    refine ⟨_, rfl, nil_is _ _, ?_⟩
    (repeat with_reducible (first | exact Ext.refl _ | exact ext_alloc _ _ | refine Ext.drewN ?_ _ | refine Ext.drew1 ?_ | refine Ext.set ?_ (by dsimp only; omega) _ | refine Ext.alloc ?_ _))
  replace hi := Decidable.not_not.1 hi
  by_cases ho : ¬ (0 ≤ o ∧ o ≤ n)
  · have e : O = false ∧ R = [] := by have := HR.out; unfold softR at this; rw [if_neg (by rw [hA, HL.out]; simp; omega)] at this; simpa [eq_comm, and_comm] using this
    obtain ⟨rfl, rfl⟩ := e
    go_enter Try.func43, Try.ntmps43
    go_wp2_with (first | (go_at_call 56; with_reducible refine (l03Sound_drew a n c zs _ _ H1.out HN.out hA).mono ?_; rintro e w' ⟨rfl, m1, rfl⟩) | (go_at_call 72; with_reducible refine (l00In_yes i 0 n hi.1 hi.2 _).mono ?_; rintro e w' ⟨rfl, rfl⟩) | (go_at_call 72; with_reducible refine (l00In_no o 0 n ho _).mono ?_; rintro e w' ⟨rfl, rfl⟩))
    go_returns
    refine ⟨_, rfl, nil_is _ _, ?_⟩
    (repeat with_reducible (first | exact Ext.refl _ | exact ext_alloc _ _ | refine Ext.drewN ?_ _ | refine Ext.drew1 ?_ | refine Ext.set ?_ (by dsimp only; omega) _ | refine Ext.alloc ?_ _))
  replace ho := Decidable.not_not.1 ho
  obtain ⟨i, rfl⟩ : ∃ q : Nat, i = (q : Int) := ⟨i.toNat, by omega⟩
  obtain ⟨o, rfl⟩ : ∃ q : Nat, o = (q : Int) := ⟨o.toNat, by omega⟩
  have hn256 : n ≤ 256 := by have := sound_len hA; simp at this; have := HL.out; omega
  have hin : i ≤ n := by omega
  have hon : o ≤ n := by omega
  have e : R = listK (softC zs i o n) n ∧ O = true := by
    have := HR.out
    unfold softR at this
    rw [if_pos (by rw [hA, HL.out]; simp; omega), HL.out] at this
    rw [show ((i : Int)).toNat = i from rfl, show ((o : Int)).toNat = o from rfl, soft_all HL.out hA (by omega) (by omega)] at this
    simpa [eq_comm] using this
  obtain ⟨rfl, rfl⟩ := e
  obtain ⟨i0, hif, hz0, hz1, hz2⟩ := info_parts infoF
  have HI := hid (And.intro hif (And.intro hz0 (And.intro hz1 hz2)))
  have HN2 := hid hn256
  have HII := hid hin
  have HOO := hid hon
  clear hif hz0 hz1 hz2 HR hn256
  by_cases h0 : n = 0
  · subst h0
    go_enter Try.func43, Try.ntmps43
    go_wp2_with (first | (go_at_call 56; with_reducible refine (l03Sound_drew a 0 c zs _ _ H1.out HN.out hA).mono ?_; rintro e w' ⟨rfl, m1, rfl⟩) | (go_at_call 72; with_reducible refine (l00In_yes (i : Int) 0 0 (by omega) (by omega) _).mono ?_; rintro e w' ⟨rfl, rfl⟩) | (go_at_call 72; with_reducible refine (l00In_yes (o : Int) 0 0 (by omega) (by omega) _).mono ?_; rintro e w' ⟨rfl, rfl⟩) | (at_builtin; refine wpList_append_none _ rfl _ _ 42 rfl 22 i0 Try.underlying42 HI.out.1 _ _ rfl _ _ rfl ?_))
    go_loopw [10, 11] (fun v bv wr => v = .int .i64 (0 : Int) ∧ Hid (Own wr w.heap.size 0 (.slice (some ⟨w.heap.size, 0, none⟩) 0 0) []) ∧ Hid (Ext w wr)) (fun _ _ _ => 0)
    case atStart => exact ⟨rfl, hid (own_fresh (cs := #[]) (zs := []) (hid rfl) rfl (by simp) (by simp) (Nat.zero_le _)), hid (by (repeat with_reducible (first | exact Ext.refl _ | exact ext_alloc _ _ | refine Ext.drewN ?_ _ | refine Ext.drew1 ?_ | refine Ext.set ?_ (by dsimp only; omega) _ | refine Ext.alloc ?_ _)))⟩
    case round =>
      obtain ⟨rfl, ho2, he⟩ := hrel
      go_wp2_with fail
      go_ret2
      exact ⟨_, rfl, ⟨_, _, [], rfl, ho2.out, rfl⟩, he.out⟩
  rcases H1.out.2 with h1 | ⟨b, off, rfl, hb, hc⟩
  · exact absurd h1 h0
  have HB := hid hb
  have HC := hid hc
  have HP := hid (show 0 < n by omega)
  clear hb hc
  go_enter Try.func43, Try.ntmps43
  go_wp2_with (first | (go_at_call 56; with_reducible refine (l03Sound_drew _ n c zs _ _ H1.out HN.out hA).mono ?_; rintro e w' ⟨rfl, m1, rfl⟩) | (go_at_call 72; with_reducible refine (l00In_yes i 0 n hi.1 hi.2 _).mono ?_; rintro e w' ⟨rfl, rfl⟩) | (go_at_call 72; with_reducible refine (l00In_yes o 0 n ho.1 ho.2 _).mono ?_; rintro e w' ⟨rfl, rfl⟩) | (at_builtin; refine wpList_append_lies _ rfl _ _ 42 rfl w.heap.size 22 i0 (.float .f32 0) 1 4 Try.underlying42 HI.out.1 HI.out.2.1 HI.out.2.2.1 HI.out.2.2.2 rfl (by decide) _ _ _ rfl (own_fresh (cs := #[]) (zs := []) (B := w.heap.size) (hid rfl) rfl (by simp) (by simp) (Nat.zero_le _)) ⟨b, off, none⟩ n c (zs.map (Value.float .f32)) rfl (by have := HL.out; simp [this]) (news_ext (by (repeat with_reducible (first | exact Ext.refl _ | exact ext_alloc _ _ | refine Ext.drewN ?_ _ | refine Ext.drew1 ?_ | refine Ext.set ?_ (by dsimp only; omega) _ | refine Ext.alloc ?_ _))) HB.out HL.out HC.out) (news_one zs) HP.out (by have := HN.out; unfold maxLen; omega) (by have := HN.out; omega) (by simp) _ rfl ?_; intro g cap w1 hown hgrow hat hlt))
  have hOW := hid (show Own w1 w.heap.size n (.slice (some ⟨g, 0, none⟩) n cap) zs from by simpa [Own] using hown)
  have hEX := hid (show Ext w w1 from But.below hgrow (by (repeat with_reducible (first | exact Ext.refl _ | exact ext_alloc _ _ | refine Ext.drewN ?_ _ | refine Ext.drew1 ?_ | refine Ext.set ?_ (by dsimp only; omega) _ | refine Ext.alloc ?_ _))) (fun k hk => by cases hk; simp))
  clear hown hgrow hat hlt
  try simp only [Nat.zero_add]
  have HGE := hid (Own.block hOW.out)
  go_wp2_with fail
  go_loopw [10, 11] (fun v bv wr => ∃ (k : Nat) (ys : List Nat), k ≤ n ∧ v = .int .i64 k ∧ Hid (Own wr w.heap.size n (.slice (some ⟨g, 0, none⟩) n cap) ys) ∧ Hid (∀ j, j < n → cls .f32 (ys.getD j 0) = if j < k then softC zs i o n j else cls .f32 (zs.getD j 0)) ∧ Hid (Ext w wr)) (fun v _ _ => n - (intOf v).toNat)
  case atStart => exact ⟨0, zs, Nat.zero_le _, rfl, hOW, hid (fun j hj => by simp), hEX⟩
  case round =>
    obtain ⟨k, ys, hk, rfl, ho2, hy, he⟩ := hrel
    have hn2 : n ≤ 1048576 := HN.out
    have hyl := hid ho2.out.len
    by_cases hlt : k < n
    · have e1 := Own.cellAt ho2.out k hlt
      have hf := Own.frozenAt ho2.out k
      have hv := hy.out k hlt
      rw [if_neg (Nat.lt_irrefl _)] at hv
      generalize hq0 : ys.getD k 0 = q at e1 hv
      have hi0 : (0 : Int) ≤ (k : Int) := by omega
      have hi1 : (k : Int) < (n : Int) := by omega
      have hi2 : ((k : Int)).toNat = k := rfl
      have hin2 : i ≤ n := HII.out
      have hon2 : o ≤ n := HOO.out
      have hyl2 : k < ys.length := by rw [hyl.out]; exact hlt
      have hge : w.heap.size ≤ g := (HGE.out g rfl).1
      have HCC : Hid (softC zs i o n k = if n - k ≤ o then fop .mul .f32 (if k < i then fop .mul .f32 (cls .f32 (zs.getD k 0)) (ratioC ((k : Int) + 1) ((i : Int) + 1)) else cls .f32 (zs.getD k 0)) (ratioC ((n : Int) - (k : Int)) ((o : Int) + 1)) else (if k < i then fop .mul .f32 (cls .f32 (zs.getD k 0)) (ratioC ((k : Int) + 1) ((i : Int) + 1)) else cls .f32 (zs.getD k 0))) := rfl
      rw [← hv] at HCC
      have STEP : ∀ r, cls .f32 r = softC zs i o n k → Hid (∀ j, j < n → cls .f32 ((ys.set k r).getD j 0) = if j < k + 1 then softC zs i o n j else cls .f32 (zs.getD j 0)) := by
        intro r hr j hj
        rw [getD_set16 _ _ _ _ hyl2]
        by_cases hjk : j = k
        · subst hjk
          rw [if_pos rfl, if_pos (Nat.lt_succ_self _), hr]
        · rw [if_neg hjk, hy.out j hj]
          by_cases h : j < k
          · rw [if_pos h, if_pos (by omega)]
          · rw [if_neg h, if_neg (by omega)]
      have HST := hid STEP
      clear STEP
      by_cases hA2 : k < i
      · have hA3 : (k : Int) < (i : Int) := by omega
        by_cases hB : n - k ≤ o
        · have hB3 : (n : Int) - 1 - (k : Int) < (o : Int) := by omega
          have hB4 : (n : Int) - 1 - (k : Int) + 1 = (n : Int) - (k : Int) := by omega
          have HQ := is_self .f32 q
          go_wp2_with (first | (refine wpList_fa rfl rfl rfl rfl rfl (by first | assumption | exact is_int _) (by first | assumption | exact is_int _) ?_; intro r1 mr1 hr1 hwr1))
          rename_i r0 m0 h0 w0 ra ma ha wa rb mb hb wb
          have hcc : cls .f32 r1 = softC zs i o n k := by
            rw [HCC.out, if_pos hB, if_pos hA2]
            exact Is.out hr1
          have HF := HST.out r1 hcc
          go_roundw
          case rel => exact ⟨k + 1, (ys.set k ra).set k r1, by omega, by go_num, hid (Own.stored (Own.drewN (Own.stored (Own.drewN ho2.out _) k ra).1 _) k r1).1, by rw [List.set_set]; exact HF, hid (Ext.set (Ext.drewN (Ext.set (Ext.drewN he.out _) (by dsimp only; omega) _) _) (by dsimp only; omega) _)⟩
          case measure => simp [intOf]; omega
        · have hB3 : ¬ ((n : Int) - 1 - (k : Int) < (o : Int)) := by omega
          have HQ := is_self .f32 q
          go_wp2_with (first | (refine wpList_fa rfl rfl rfl rfl rfl (by first | assumption | exact is_int _) (by first | assumption | exact is_int _) ?_; intro r1 mr1 hr1 hwr1))
          have hcc : cls .f32 r1 = softC zs i o n k := by
            rw [HCC.out, if_neg hB, if_pos hA2]
            exact Is.out hr1
          have HF := HST.out r1 hcc
          go_roundw
          case rel => exact ⟨k + 1, ys.set k r1, by omega, by go_num, hid (by first | exact (Own.stored (Own.drewN ho2.out _) k _).1 | exact (Own.stored (Own.drewN (Own.drewN ho2.out _) _) k _).1), HF, hid (by first | exact Ext.set (Ext.drewN he.out _) (by dsimp only; omega) _ | exact Ext.set (Ext.drewN (Ext.drewN he.out _) _) (by dsimp only; omega) _)⟩
          case measure => simp [intOf]; omega
      · have hA3 : ¬ ((k : Int) < (i : Int)) := by omega
        by_cases hB : n - k ≤ o
        · have hB3 : (n : Int) - 1 - (k : Int) < (o : Int) := by omega
          have hB4 : (n : Int) - 1 - (k : Int) + 1 = (n : Int) - (k : Int) := by omega
          have HQ := is_self .f32 q
          go_wp2_with (first | (refine wpList_fa rfl rfl rfl rfl rfl (by first | assumption | exact is_int _) (by first | assumption | exact is_int _) ?_; intro r2 mr2 hr2 hwr2))
          have hcc : cls .f32 r2 = softC zs i o n k := by
            rw [HCC.out, if_pos hB, if_neg hA2]
            exact Is.out hr2
          have HF := HST.out r2 hcc
          go_roundw
          case rel => exact ⟨k + 1, ys.set k r2, by omega, by go_num, hid (by first | exact (Own.stored (Own.drewN ho2.out _) k _).1 | exact (Own.stored (Own.drewN (Own.drewN ho2.out _) _) k _).1), HF, hid (by first | exact Ext.set (Ext.drewN he.out _) (by dsimp only; omega) _ | exact Ext.set (Ext.drewN (Ext.drewN he.out _) _) (by dsimp only; omega) _)⟩
          case measure => simp [intOf]; omega
        · have hB3 : ¬ ((n : Int) - 1 - (k : Int) < (o : Int)) := by omega
          have HQ := is_self .f32 q
          go_wp2_with fail
          have HF := HST.out q (by rw [HCC.out, if_neg hB, if_neg hA2])
          have hse : ys.set k q = ys := by
            rw [← hq0]
            apply List.ext_getElem
            · simp
            · intro j h1 h2
              by_cases hjk : k = j
              · subst hjk; simp [List.getD, h2]
              · rw [List.getElem_set_ne hjk]
          rw [hse] at HF
          go_roundw
          case rel => exact ⟨k + 1, ys, by omega, by go_num, ho2, HF, he⟩
          case measure => simp [intOf]; omega
    · have hkn : k = n := by omega
      subst hkn
      go_wp2_with fail
      go_ret2
      have hll := soft_list (zs := zs) (i := i) (o := o) hyl.out hy.out
      exact ⟨_, rfl, ⟨some ⟨g, 0, none⟩, cap, ys, by simp [listK_len], by simpa [listK_len] using ho2.out, hll⟩, he.out⟩
end Go.Proofs.Ytkmgkcbbbaioiaa
